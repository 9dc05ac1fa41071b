
/- The law of ReadNode: it returns true. No conditions but those written. -/
import Derived.Test.YtekadjjofcicaaaDoorTpj
namespace Go.Proofs.YtekadjjofcicaaaDoor
open Go.RowKit

set_option maxHeartbeats 1000000 in
theorem markNode_any (lo hi : Nat) (nm : ByteArray) (kd sa sb cp : Int) (o : Option Addr) (c : Nat) (nx : List Int) (k0 : Int) (w : World) (hl : nx.length ≤ 2097152) (hk0 : 0 ≤ k0) (hk1 : k0 ≤ 16777216) (hF : kI.Fresh lo hi w o c nx) :
    Calls Tryd.prog 12 #[.agg #[.string nm, .int .i64 kd, .int .i64 sa, .int .i64 sb, .int .i64 cp, .slice o nx.length c], .int .i64 k0] w fun e w' => e = .returned (.int .i64 (k0 + nx.length)) ∧ kI.Fresh lo hi w' o c (markI k0 nx.length) ∧ Between lo hi w w' := by
  have hb := below1 w (.cells #[.string nm, .int .i64 kd, .int .i64 sa, .int .i64 sb, .int .i64 cp, .slice o nx.length c] 32)
  have X := Bx.new (w := w) [.string nm, .int .i64 kd, .int .i64 sa, .int .i64 sb, .int .i64 cp, .slice o nx.length c] 32 rfl
  have F1 := hF.later hb
  obtain ⟨V, hV⟩ : ∃ V, V = w.alloc (.cells #[.string nm, .int .i64 kd, .int .i64 sa, .int .i64 sb, .int .i64 cp, .slice o nx.length c] 32) := ⟨_, rfl⟩
  have HM := hid (markIntS_any lo hi o c nx k0 _ hl hk0 hk1 F1)
  rw [← hV] at hb X F1 HM
  have HF := hid F1
  have x5 := X.c 5 rfl
  have HV := hid hV
  clear X F1 hV hF
  go_enter Tryd.func12, Tryd.ntmps12
  go_wp2_with fail
  rw [← HV.out]
  refine HM.out.mono ?_
  rintro e w1 ⟨rfl, hF1, hO⟩
  go_wp2
  go_ret
  exact ⟨rfl, hF1, (Between.of_below hb).trans (HF.out.between hO)⟩
set_option maxHeartbeats 1000000 in
theorem heldNode_any (nm : ByteArray) (kd sa sb cp : Int) (o : Option Addr) (c : Nat) (n : Nat) (k0 : Int) (w : World) (hl : n ≤ 2097152) (hk0 : 0 ≤ k0) (hk1 : k0 ≤ 16777216) (hF : kI.In w.heap.size w o (markI k0 n)) :
    Calls Tryd.prog 13 #[.agg #[.string nm, .int .i64 kd, .int .i64 sa, .int .i64 sb, .int .i64 cp, .slice o n c], .int .i64 k0] w fun e w' => e = .returned (.int .i64 (k0 + n)) ∧ Below w.heap.size w w' := by
  have hb := below1 w (.cells #[.string nm, .int .i64 kd, .int .i64 sa, .int .i64 sb, .int .i64 cp, .slice o n c] 32)
  have X := Bx.new (w := w) [.string nm, .int .i64 kd, .int .i64 sa, .int .i64 sb, .int .i64 cp, .slice o n c] 32 rfl
  have F1 := Kind.In.later hF hb
  obtain ⟨V, hV⟩ : ∃ V, V = w.alloc (.cells #[.string nm, .int .i64 kd, .int .i64 sa, .int .i64 sb, .int .i64 cp, .slice o n c] 32) := ⟨_, rfl⟩
  have HM := hid (heldIntS_any o c n k0 _ hl hk0 hk1 F1)
  rw [← hV] at hb X F1 HM
  have x5 := X.c 5 rfl
  have HV := hid hV
  have hneg : decide (k0 + (n : Int) < 0) = false := by simp; omega
  clear X F1 hV hF
  go_enter Tryd.func13, Tryd.ntmps13
  go_wp2_with fail
  rw [← HV.out]
  refine HM.out.mono ?_
  rintro e w1 ⟨rfl, hw1⟩
  rw [hw1]; clear hw1 w1
  go_wp2
  go_ret
  exact ⟨rfl, hb⟩
theorem readR_small (s : ByteArray) : (readR s).1.2.2.2.2.2.length ≤ 20 := by
  unfold readR
  split
  · split
    · next h => exact (hasT_has h.2.2.2).len
    · simp [zeroN]
  · simp [zeroN]
set_option maxRecDepth 10000 in
set_option maxHeartbeats 8000000 in
theorem lawReadNode_any (s : ByteArray) (w : World) (hs : s.size ≤ 9223372036854775807) (hT : PowTab w) (hE : NErr w) (hW : Wds w) :
    Calls Tryd.prog 4 #[.string s] w fun e w' => e = .returned (.bool true) ∧ Below w.heap.size w w' := by
  by_cases hbig : 1048576 < s.size
  · have hbig' : decide (1048576 < (s.size : Int)) = true := by simp; omega
    go_enter Tryd.func4, Tryd.ntmps4
    go_wp2
    go_ret
    exact ⟨rfl, Below.refl _ _⟩
  have hbig' : decide (1048576 < (s.size : Int)) = false := by simp; omega
  have HSP := hid (fun W => specReadNode_is s W (by omega))
  have HIM := hid (fun W h1 h2 h3 => implReadNode_is s W (by omega) h1 h2 h3)
  have hn := readR_small s
  generalize readR s = R at HSP HIM hn
  obtain ⟨⟨nm, kd, sa, sb, cp, nx⟩, y⟩ := R
  dsimp only at hn
  have hn2 : (y != y) = false := by simp
  have HT := hid hT
  have HE := hid hE
  have HW := hid hW
  clear hT hE hW
  go_enter Tryd.func4, Tryd.ntmps4
  go_wp2_with fail
  refine (HSP.out _).mono ?_
  rintro e w1 ⟨⟨o1, c1, rfl, hno1, hF1⟩, hB1⟩
  dsimp only at hF1 ⊢
  have A2 := hid (Bx.new (w := w1) [.string nm, .int .i64 kd, .int .i64 sa, .int .i64 sb, .int .i64 cp, .slice o1 nx.length c1] 32 rfl)
  have hb2 := below1 w1 (.cells #[.string nm, .int .i64 kd, .int .i64 sa, .int .i64 sb, .int .i64 cp, .slice o1 nx.length c1] 32)
  have F2 := hid (hF1.later hb2)
  have hB2 := hB1.trans (hb2.mono hB1.size)
  have hz1 := hB1.size
  obtain ⟨p, hp⟩ : ∃ p, p = w1.heap.size := ⟨_, rfl⟩
  obtain ⟨w2, hw2⟩ : ∃ w2, w2 = w1.alloc (.cells #[.string nm, .int .i64 kd, .int .i64 sa, .int .i64 sb, .int .i64 cp, .slice o1 nx.length c1] 32) := ⟨_, rfl⟩
  rw [← hp] at A2 F2
  rw [← hw2] at A2 F2 hB2
  have HI := hid (HIM.out w2 (HT.out.later hB2) (HE.out.later hB2) (HW.out.later hB2))
  have H2 := hid hw2
  have HP := hid hp
  have hpw : w.heap.size ≤ p := by omega
  clear hF1 hb2 hw2 hp hB1 hz1
  go_wp2_with fail
  rw [← H2.out, ← HP.out]
  clear H2 HP
  refine HI.out.mono ?_
  rintro e w3 ⟨⟨o3, c3, rfl, hno3, hF3⟩, hb3⟩
  dsimp only at hF3 ⊢
  have A3 := hid (A2.out.later hb3)
  have F3 := hid (F2.out.later hb3)
  have hB3 := hB2.trans (hb3.mono hB2.size)
  have hp2 := A2.out.size
  have hz3 := hb3.size
  have hb4 := below1 w3 (.cells #[.string nm, .int .i64 kd, .int .i64 sa, .int .i64 sb, .int .i64 cp, .slice o3 nx.length c3] 32)
  have A4 := hid (A3.out.later hb4)
  have B4 := hid (Bx.new (w := w3) [.string nm, .int .i64 kd, .int .i64 sa, .int .i64 sb, .int .i64 cp, .slice o3 nx.length c3] 32 rfl)
  have F4 := hid (F3.out.later hb4)
  have G4 := hid (hF3.later hb4)
  have hB4 := hB3.trans (hb4.mono hB3.size)
  have hwu : w.heap.size ≤ w3.heap.size := hB3.size
  obtain ⟨b, hb⟩ : ∃ b, b = w3.heap.size := ⟨_, rfl⟩
  obtain ⟨m2, hm2⟩ : ∃ m2, m2 = w2.heap.size := ⟨_, rfl⟩
  obtain ⟨w4, hw4⟩ : ∃ w4, w4 = w3.alloc (.cells #[.string nm, .int .i64 kd, .int .i64 sa, .int .i64 sb, .int .i64 cp, .slice o3 nx.length c3] 32) := ⟨_, rfl⟩
  rw [← hb] at B4 G4
  rw [← hm2] at G4
  rw [← hw4] at A4 B4 F4 G4 hB4
  have q0 := A3.out.c 0 rfl
  have q1 := A3.out.c 1 rfl
  have q2 := A3.out.c 2 rfl
  have q3 := A3.out.c 3 rfl
  have q4 := A3.out.c 4 rfl
  have q5 := A3.out.c 5 rfl
  have hq := A3.out.size
  have H4 := hid hw4
  have HBB := hid hb
  have hpm : p < m2 := by omega
  have hmb : m2 ≤ b := by omega
  have EQ := hid (eqNode_same nm kd sa sb cp o3 c3 nx o1 c1 w4 (by omega) G4.out.in F4.out.in)
  clear hF3 hb3 hb4 A2 F2 hB2 A3 F3 hB3 hb hm2 hw4 HI
  go_wp2_with fail
  rw [← H4.out, ← HBB.out]
  clear H4 HBB q0 q1 q2 q3 q4 q5 hq
  refine EQ.out.mono ?_
  rintro e w5 ⟨rfl, hb5⟩
  have A5 := hid (A4.out.later hb5)
  have B5 := hid (B4.out.later hb5)
  have F5 := hid (F4.out.later hb5)
  have G5 := hid (G4.out.later hb5)
  have hB5 := hB4.trans (hb5.mono hB4.size)
  have hb5s := B5.out.size
  have HMK := hid (markNode_any m2 b nm kd sa sb cp o3 c3 nx 1 w5 (by omega) (by omega) (by omega) G5.out)
  clear hb5 A4 B4 F4 G4 hB4 EQ
  have q0 := B5.out.c 0 rfl
  have q1 := B5.out.c 1 rfl
  have q2 := B5.out.c 2 rfl
  have q3 := B5.out.c 3 rfl
  have q4 := B5.out.c 4 rfl
  have q5 := B5.out.c 5 rfl
  go_wp2_with fail
  refine HMK.out.mono ?_
  rintro e w6 ⟨rfl, hG6, hbe⟩
  have A6 := hid (A5.out.between hbe (.inl hpm))
  have B6 := hid (B5.out.between hbe (.inr (Nat.le_refl _)))
  have F6 := hid (F5.out.between' hbe (.inl (by omega)))
  have G6 := hid hG6
  have hB6 : Below w.heap.size w w6 := hB5.trans ((hbe.below (by omega)).mono (by omega))
  clear hbe hG6 A5 B5 F5 G5 hB5 q0 q1 q2 q3 q4 q5 HMK
  have HHD := hid (fun W h => heldNode_any nm kd sa sb cp o3 c3 nx.length 1 W (by omega) (by omega) (by omega) h)
  have q0 := B6.out.c 0 rfl
  have q1 := B6.out.c 1 rfl
  have q2 := B6.out.c 2 rfl
  have q3 := B6.out.c 3 rfl
  have q4 := B6.out.c 4 rfl
  have q5 := B6.out.c 5 rfl
  go_wp2_with fail
  refine (HHD.out _ G6.out.in).mono ?_
  rintro e w7 ⟨rfl, hb7⟩
  have A7 := hid (A6.out.later hb7)
  have B7 := hid (B6.out.later hb7)
  have F7 := hid (F6.out.later hb7)
  have G7 := hid (G6.out.later hb7)
  have hB7 := hB6.trans (hb7.mono hB6.size)
  clear hb7 A6 B6 F6 G6 hB6 q0 q1 q2 q3 q4 q5
  have hnn : decide (1 + (nx.length : Int) < 0) = false := by simp; omega
  have hne : ((1 + (nx.length : Int)) != (1 + (nx.length : Int))) = false := by simp
  have HI := hid (HIM.out w7 (HT.out.later hB7) (HE.out.later hB7) (HW.out.later hB7))
  go_wp2_with fail
  refine HI.out.mono ?_
  rintro e w8 ⟨⟨o8, c8, rfl, hno8, hF8⟩, hb8⟩
  dsimp only at hF8 ⊢
  have A8 := A7.out.later hb8
  have B8 := B7.out.later hb8
  have F8 := F7.out.later hb8
  have G8 := G7.out.later hb8
  have hB8 := hB7.trans (hb8.mono hB7.size)
  have hb9 := below1 w8 (.cells #[.string nm, .int .i64 kd, .int .i64 sa, .int .i64 sb, .int .i64 cp, .slice o8 nx.length c8] 32)
  have A9 := hid (A8.later hb9)
  have B9 := hid (B8.later hb9)
  have F9 := hid (F8.later hb9)
  have G9 := hid (G8.later hb9)
  have K9 := hid (hF8.later hb9)
  have hB9 := hB8.trans (hb9.mono hB8.size)
  obtain ⟨w9, hw9⟩ : ∃ w9, w9 = w8.alloc (.cells #[.string nm, .int .i64 kd, .int .i64 sa, .int .i64 sb, .int .i64 cp, .slice o8 nx.length c8] 32) := ⟨_, rfl⟩
  rw [← hw9] at A9 B9 F9 G9 K9 hB9
  have EQ := hid (eqNode_same nm kd sa sb cp o8 c8 nx o1 c1 w9 (by omega) K9.out.in F9.out.in)
  have q0 := A8.c 0 rfl
  have q1 := A8.c 1 rfl
  have q2 := A8.c 2 rfl
  have q3 := A8.c 3 rfl
  have q4 := A8.c 4 rfl
  have q5 := A8.c 5 rfl
  have hq := A8.size
  have H9 := hid hw9
  clear hb8 hb9 hw9 hF8 A7 B7 F7 G7 hB7 A8 B8 F8 G8 hB8 K9 HI
  go_wp2_with fail
  rw [← H9.out]
  clear H9 q0 q1 q2 q3 q4 q5 hq
  refine EQ.out.mono ?_
  rintro e w10 ⟨rfl, hb10⟩
  have B10 := hid (B9.out.later hb10)
  have G10 := hid (G9.out.later hb10)
  have hB10 := hB9.trans (hb10.mono hB9.size)
  clear hb10 A9 B9 F9 G9 hB9 EQ
  have q0 := B10.out.c 0 rfl
  have q1 := B10.out.c 1 rfl
  have q2 := B10.out.c 2 rfl
  have q3 := B10.out.c 3 rfl
  have q4 := B10.out.c 4 rfl
  have q5 := B10.out.c 5 rfl
  go_wp2_with fail
  refine (HHD.out _ G10.out.in).mono ?_
  rintro e w11 ⟨rfl, hb11⟩
  have hB11 := hB10.trans (hb11.mono hB10.size)
  go_wp2
  go_ret
  exact ⟨rfl, hB11⟩
end Go.Proofs.YtekadjjofcicaaaDoor
