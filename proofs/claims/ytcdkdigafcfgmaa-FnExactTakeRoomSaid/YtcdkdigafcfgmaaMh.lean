/- GiveRoom: what it answers, the program, the specification. No conditions but those written. -/
import Derived.Test.YtcdkdigafcfgmaaMg
import Derived.Test.YtcdkdigafcfgmaaMe
namespace Go.Proofs.Ytcdkdigafcfgmaa
open Go.RowKit

/-- A room, those that go, a code. -/
abbrev RoomR := Int × Int × List (Int × Int) × List Int × Int
/-- What GiveRoom answers. -/
def giveR (s1 s2 : Int) (l : List (Int × Int)) (k : Int) : RoomR :=
  if roomB s1 s2 l = true ∧ (0 ≤ k ∧ k ≤ s1) then
    if s2 < k then (s1, s2, l, [], 3) else (s1, (letR s1 (s2 - k) l).1, (letR s1 (s2 - k) l).2.1, (letR s1 (s2 - k) l).2.2, 0)
  else (0, 0, [], [], 2)
theorem giveR_bad {s1 s2 : Int} {l : List (Int × Int)} {k : Int} (h : roomB s1 s2 l = false) : giveR s1 s2 l k = (0, 0, [], [], 2) := by rw [giveR, if_neg]; rw [h]; simp
theorem giveR_by {s1 s2 : Int} {l : List (Int × Int)} {k : Int} (h : ¬ (0 ≤ k ∧ k ≤ s1)) : giveR s1 s2 l k = (0, 0, [], [], 2) := by rw [giveR, if_neg]; exact fun x => h x.2
theorem giveR_below {s1 s2 : Int} {l : List (Int × Int)} {k : Int} (h : roomB s1 s2 l = true) (h1 : 0 ≤ k ∧ k ≤ s1) (h2 : s2 < k) : giveR s1 s2 l k = (s1, s2, l, [], 3) := by rw [giveR, if_pos ⟨h, h1⟩, if_pos h2]
theorem giveR_done {s1 s2 : Int} {l : List (Int × Int)} {k : Int} (h : roomB s1 s2 l = true) (h1 : 0 ≤ k ∧ k ≤ s1) (h2 : ¬ s2 < k) : giveR s1 s2 l k = (s1, (letR s1 (s2 - k) l).1, (letR s1 (s2 - k) l).2.1, (letR s1 (s2 - k) l).2.2, 0) := by rw [giveR, if_pos ⟨h, h1⟩, if_neg h2]
theorem giveR_len {s1 s2 : Int} {l : List (Int × Int)} {k : Int} (hl : l.length ≤ 1048576) : (giveR s1 s2 l k).2.2.1.length ≤ 1048576 ∧ (giveR s1 s2 l k).2.2.2.1.length ≤ 1048576 := by
  unfold giveR
  repeat' split
  · simp [hl]
  · have := letR_len s1 l (s2 - k)
    dsimp only; omega
  · simp
/-- In memory of their own. -/
def AnsR (w : World) (R : RoomR) (e : Ending) (w' : World) : Prop :=
  (∃ o c o' c', e = .returned (.tuple #[.agg #[.int .i64 R.1, .int .i64 R.2.1, .slice o R.2.2.1.length c], .slice o' R.2.2.2.1.length c', .int .i64 R.2.2.2.2]) ∧ kN.Fresh w.heap.size w'.heap.size w' o c R.2.2.1 ∧ kI.Fresh w.heap.size w'.heap.size w' o' c' R.2.2.2.1) ∧ Below w.heap.size w w'

set_option maxRecDepth 10000 in
set_option maxHeartbeats 4000000 in
theorem implGive_any (s1 s2 : Int) (ao : Option Addr) (cap : Nat) (l : List (Int × Int)) (iv : Int) (w : World) (hl : l.length ≤ 1048576) (hz : kN.In w.heap.size w ao l) :
    Calls Try.prog 39 #[.agg #[.int .i64 s1, .int .i64 s2, .slice ao l.length cap], .int .i64 iv] w fun e w' => AnsR w (giveR s1 s2 l iv) e w' := by
  obtain ⟨W2, hW2⟩ : ∃ W2, W2 = (w.alloc (.cells #[.int .i64 s1, .int .i64 s2, .slice ao l.length cap] 46)).alloc (.cells #[.int .i64 0, .int .i64 0, .slice none 0 0] 46) := ⟨_, rfl⟩
  have hB2 : Below w.heap.size w W2 := by rw [hW2]; exact below2 _ _ _
  have A2 : Bx W2 w.heap.size [.int .i64 s1, .int .i64 s2, .slice ao l.length cap] := by rw [hW2]; exact (Bx.new [.int .i64 s1, .int .i64 s2, .slice ao l.length cap] _ rfl).alloc _
  have R2 : Bx W2 (w.heap.size + 1) [.int .i64 0, .int .i64 0, .slice none 0 0] := by rw [hW2]; exact Bx.new [.int .i64 0, .int .i64 0, .slice none 0 0] _ (by simp)
  have HW := hid hW2
  have HS : Hid (W2.heap.size = w.heap.size + 1 + 1) := by rw [hW2]; simp [Hid]
  clear hW2
  cases hg : roomB s1 s2 l
  · have HG := hid hg
    have HR := hid (giveR_bad (k := iv) hg)
    clear hg
    go_enter Try.func39, Try.ntmps39
    go_wp2_with fail
    rw [← HW.out]
    refine (implGoodRoom_is s1 s2 ao cap l W2 false hl (hz.later hB2) HG.out).mono ?_
    rintro e w1 ⟨rfl, hb1⟩
    have hB1 := hB2.trans (hb1.mono hB2.size)
    have A1 := A2.later hb1
    have R1 := R2.later hb1
    have hs1 : w.heap.size + 1 + 1 ≤ w1.heap.size := by have := hb1.size; rw [HS.out] at this; exact this
    clear hb1 A2 R2
    have r0 := R1.c 0 rfl
    have rf0 := R1.f 0 rfl
    have r1 := R1.c 1 rfl
    have rf1 := R1.f 1 rfl
    have r2 := R1.c 2 rfl
    have rf2 := R1.f 2 rfl
    go_wp2
    refine bodyPost_ret (v := .tuple #[.agg #[.int .i64 0, .int .i64 0, .slice none 0 0], .slice none 0 0, .int .i64 2]) (by simp [results, Try.results39, go_sem, r0, r1, r2]) rfl ?_
    rw [HR.out]
    exact ⟨⟨none, 0, none, 0, rfl, .inl rfl, .inl rfl⟩, (((hB1.setCell (p := ⟨w.heap.size + 1, 0, none⟩) (by simp) _).setCell (p := ⟨w.heap.size + 1, 1, none⟩) (by simp) _).setCell (p := ⟨w.heap.size + 1, 2, none⟩) (by simp) _)⟩
  have HG := hid hg
  obtain ⟨g1, g2, g3, g4⟩ := roomB_good hg
  obtain ⟨q1, q2, q3, q4⟩ := sizesB_ok g1
  have HMM := hid g2
  have HL30 := hid (roomB_len hg)
  clear g1 g2 g3 g4
  by_cases hc1 : iv < 0
  · have HR := hid (giveR_by (s2 := s2) (l := l) (show ¬ (0 ≤ iv ∧ iv ≤ s1) from by omega))
    have hc1' : decide (iv < 0) = true := by simpa using hc1
    clear hg
    go_enter Try.func39, Try.ntmps39
    go_wp2_with fail
    rw [← HW.out]
    refine (implGoodRoom_is s1 s2 ao cap l W2 true hl (hz.later hB2) HG.out).mono ?_
    rintro e w1 ⟨rfl, hb1⟩
    have hB1 := hB2.trans (hb1.mono hB2.size)
    have A1 := A2.later hb1
    have R1 := R2.later hb1
    have hs1 : w.heap.size + 1 + 1 ≤ w1.heap.size := by have := hb1.size; rw [HS.out] at this; exact this
    clear hb1 A2 R2
    have a0 := A1.c 0 rfl
    have af0 := A1.f 0 rfl
    have a1 := A1.c 1 rfl
    have af1 := A1.f 1 rfl
    have a2 := A1.c 2 rfl
    have af2 := A1.f 2 rfl
    have r0 := R1.c 0 rfl
    have rf0 := R1.f 0 rfl
    have r1 := R1.c 1 rfl
    have rf1 := R1.f 1 rfl
    have r2 := R1.c 2 rfl
    have rf2 := R1.f 2 rfl
    go_wp2
    refine bodyPost_ret (v := .tuple #[.agg #[.int .i64 0, .int .i64 0, .slice none 0 0], .slice none 0 0, .int .i64 2]) (by simp [results, Try.results39, go_sem, r0, r1, r2]) rfl ?_
    rw [HR.out]
    exact ⟨⟨none, 0, none, 0, rfl, .inl rfl, .inl rfl⟩, (((hB1.setCell (p := ⟨w.heap.size + 1, 0, none⟩) (by simp) _).setCell (p := ⟨w.heap.size + 1, 1, none⟩) (by simp) _).setCell (p := ⟨w.heap.size + 1, 2, none⟩) (by simp) _)⟩
  have hc1' : decide (iv < 0) = false := by simpa using hc1
  by_cases hc2 : s1 < iv
  · have HR := hid (giveR_by (s2 := s2) (l := l) (show ¬ (0 ≤ iv ∧ iv ≤ s1) from by omega))
    have hc2' : decide (s1 < iv) = true := by simpa using hc2
    clear hg
    go_enter Try.func39, Try.ntmps39
    go_wp2_with fail
    rw [← HW.out]
    refine (implGoodRoom_is s1 s2 ao cap l W2 true hl (hz.later hB2) HG.out).mono ?_
    rintro e w1 ⟨rfl, hb1⟩
    have hB1 := hB2.trans (hb1.mono hB2.size)
    have A1 := A2.later hb1
    have R1 := R2.later hb1
    have hs1 : w.heap.size + 1 + 1 ≤ w1.heap.size := by have := hb1.size; rw [HS.out] at this; exact this
    clear hb1 A2 R2
    have a0 := A1.c 0 rfl
    have af0 := A1.f 0 rfl
    have a1 := A1.c 1 rfl
    have af1 := A1.f 1 rfl
    have a2 := A1.c 2 rfl
    have af2 := A1.f 2 rfl
    have r0 := R1.c 0 rfl
    have rf0 := R1.f 0 rfl
    have r1 := R1.c 1 rfl
    have rf1 := R1.f 1 rfl
    have r2 := R1.c 2 rfl
    have rf2 := R1.f 2 rfl
    go_wp2
    refine bodyPost_ret (v := .tuple #[.agg #[.int .i64 0, .int .i64 0, .slice none 0 0], .slice none 0 0, .int .i64 2]) (by simp [results, Try.results39, go_sem, r0, r1, r2]) rfl ?_
    rw [HR.out]
    exact ⟨⟨none, 0, none, 0, rfl, .inl rfl, .inl rfl⟩, (((hB1.setCell (p := ⟨w.heap.size + 1, 0, none⟩) (by simp) _).setCell (p := ⟨w.heap.size + 1, 1, none⟩) (by simp) _).setCell (p := ⟨w.heap.size + 1, 2, none⟩) (by simp) _)⟩
  have hc2' : decide (s1 < iv) = false := by simpa using hc2
  by_cases hc3 : s2 < iv
  · have HR := hid (giveR_below hg ⟨by omega, by omega⟩ hc3)
    have hc3' : decide (s2 < iv) = true := by simpa using hc3
    clear hg
    go_enter Try.func39, Try.ntmps39
    go_wp2_with fail
    rw [← HW.out]
    refine (implGoodRoom_is s1 s2 ao cap l W2 true hl (hz.later hB2) HG.out).mono ?_
    rintro e w1 ⟨rfl, hb1⟩
    have hB1 := hB2.trans (hb1.mono hB2.size)
    have A1 := A2.later hb1
    have R1 := R2.later hb1
    have hs1 : w.heap.size + 1 + 1 ≤ w1.heap.size := by have := hb1.size; rw [HS.out] at this; exact this
    clear hb1 A2 R2
    have a0 := A1.c 0 rfl
    have af0 := A1.f 0 rfl
    have a1 := A1.c 1 rfl
    have af1 := A1.f 1 rfl
    have a2 := A1.c 2 rfl
    have af2 := A1.f 2 rfl
    go_wp2_with fail
    refine (copyRoom_any s1 s2 ao cap l w1 hl (hz.later hB1)).mono ?_
    rintro e w2 ⟨⟨go1, rfl, hF⟩, hb⟩
    have R3 := R1.later hb
    have hB3 := hB1.trans (hb.mono hB1.size)
    have HF : Hid (kN.Fresh (w.heap.size + 1 + 1) w2.heap.size w2 go1 l.length l) := hF.wide hs1 (Nat.le_refl _)
    clear hb hF
    have r0 := R3.c 0 rfl
    have rf0 := R3.f 0 rfl
    have r1 := R3.c 1 rfl
    have rf1 := R3.f 1 rfl
    have r2 := R3.c 2 rfl
    have rf2 := R3.f 2 rfl
    go_wp2
    refine bodyPost_ret (v := .tuple #[.agg #[.int .i64 s1, .int .i64 s2, .slice go1 l.length l.length], .slice none 0 0, .int .i64 3]) (by simp [results, Try.results39, go_sem, r0, r1, r2]) rfl ?_
    rw [HR.out]
    exact ⟨⟨go1, l.length, none, 0, rfl, (((HF.out.setBelow (a := ⟨w.heap.size + 1, 0, none⟩) (by simp) _).setBelow (a := ⟨w.heap.size + 1, 1, none⟩) (by simp) _).setBelow (a := ⟨w.heap.size + 1, 2, none⟩) (by simp) _).wide (by omega) (by simp), .inl rfl⟩, (((hB3.setCell (p := ⟨w.heap.size + 1, 0, none⟩) (by simp) _).setCell (p := ⟨w.heap.size + 1, 1, none⟩) (by simp) _).setCell (p := ⟨w.heap.size + 1, 2, none⟩) (by simp) _)⟩
  have hc3' : decide (s2 < iv) = false := by simpa using hc3
  obtain ⟨⟨U1, L1, L2⟩, eR⟩ : ∃ r, letR s1 (s2 - iv) l = r := ⟨_, rfl⟩
  have HLR := hid eR
  have HR : Hid (giveR s1 s2 l iv = (s1, U1, L1, L2, 0)) := by rw [Hid, giveR_done hg ⟨by omega, by omega⟩ hc3, eR]
  clear hg eR
  go_enter Try.func39, Try.ntmps39
  go_wp2_with fail
  rw [← HW.out]
  refine (implGoodRoom_is s1 s2 ao cap l W2 true hl (hz.later hB2) HG.out).mono ?_
  rintro e w1 ⟨rfl, hb1⟩
  have hB1 := hB2.trans (hb1.mono hB2.size)
  have A1 := A2.later hb1
  have R1 := R2.later hb1
  have hs1 : w.heap.size + 1 + 1 ≤ w1.heap.size := by have := hb1.size; rw [HS.out] at this; exact this
  clear hb1 A2 R2
  have a0 := A1.c 0 rfl
  have af0 := A1.f 0 rfl
  have a1 := A1.c 1 rfl
  have af1 := A1.f 1 rfl
  have a2 := A1.c 2 rfl
  have af2 := A1.f 2 rfl
  go_wp2_with fail
  refine (copyRoom_any s1 s2 ao cap l w1 hl (hz.later hB1)).mono ?_
  rintro e w2 ⟨⟨go1, rfl, hF⟩, hb⟩
  have R3 := R1.later hb
  have hB3 := hB1.trans (hb.mono hB1.size)
  have hs12 := hb.size
  have HF : Hid (kN.Fresh (w.heap.size + 1 + 1) w2.heap.size w2 go1 l.length l) := hF.wide hs1 (Nat.le_refl _)
  clear hb hF
  have hn3 := below1 w2 (.cells #[.int .i64 s1, .int .i64 (s2 - iv), .slice go1 l.length l.length] 46)
  have hB4 := Below.allocS hB3 (.cells #[.int .i64 s1, .int .i64 (s2 - iv), .slice go1 l.length l.length] 46)
  have HI4 := hid ((HF.out.later hn3).in)
  have R4 := R3.later hn3
  clear hn3
  go_wp2_with fail
  refine (letIn_any s1 ((s2 - iv)) _ _ l _ HL30.out ⟨by omega, by omega⟩ ⟨by omega, by omega⟩ HMM.out HI4.out).mono ?_
  rintro e w5 ⟨⟨o, c, o', c', rfl, hF5, hN5⟩, hb5⟩
  rw [HLR.out] at hF5 hN5 ⊢
  dsimp only at hF5 hN5 ⊢
  have hB5 := hB4.trans (hb5.mono hB4.size)
  have R5 := R4.later hb5
  have hs5 : w2.heap.size + 1 ≤ w5.heap.size := by have := hb5.size; simpa using this
  have hs2 := hB3.size
  have F5 : Hid (kN.Fresh (w.heap.size + 1 + 1) w5.heap.size w5 o c L1) := hF5.wide (by simp; omega) (Nat.le_refl _)
  have N5 : Hid (kI.Fresh (w.heap.size + 1 + 1) w5.heap.size w5 o' c' L2) := hN5.wide (by simp; omega) (Nat.le_refl _)
  have hp5 := R5.size
  clear hb5 hF5 hN5
  have r0 := R5.c 0 rfl
  have rf0 := R5.f 0 rfl
  have r1 := R5.c 1 rfl
  have rf1 := R5.f 1 rfl
  have r2 := R5.c 2 rfl
  have rf2 := R5.f 2 rfl
  go_wp2
  refine bodyPost_ret (v := .tuple #[.agg #[.int .i64 s1, .int .i64 U1, .slice o L1.length c], .slice o' L2.length c', .int .i64 0]) (by simp [results, Try.results39, go_sem, r0, r1, r2, hp5]) rfl ?_
  rw [HR.out]
  exact ⟨⟨o, c, o', c', rfl, ((((F5.out.setBelow (a := ⟨w.heap.size + 1, 0, none⟩) (by simp) _).setBelow (a := ⟨w.heap.size + 1, 1, none⟩) (by simp) _).setBelow (a := ⟨w.heap.size + 1, 2, none⟩) (by simp) _).later (below1 _ _)).wide (by omega) (by simp), ((((N5.out.setBelow (a := ⟨w.heap.size + 1, 0, none⟩) (by simp) _).setBelow (a := ⟨w.heap.size + 1, 1, none⟩) (by simp) _).setBelow (a := ⟨w.heap.size + 1, 2, none⟩) (by simp) _).later (below1 _ _)).wide (by omega) (by simp)⟩, Below.allocS (((hB5.setCell (p := ⟨w.heap.size + 1, 0, none⟩) (by simp) _).setCell (p := ⟨w.heap.size + 1, 1, none⟩) (by simp) _).setCell (p := ⟨w.heap.size + 1, 2, none⟩) (by simp) _) _⟩

set_option maxRecDepth 10000 in
set_option maxHeartbeats 4000000 in
theorem specGive_any (s1 s2 : Int) (ao : Option Addr) (cap : Nat) (l : List (Int × Int)) (iv : Int) (w : World) (hl : l.length ≤ 1048576) (hno : ao = none → cap = 0) (hz : kN.In w.heap.size w ao l) :
    Calls Try.prog 38 #[.agg #[.int .i64 s1, .int .i64 s2, .slice ao l.length cap], .int .i64 iv] w fun e w' => AnsR w (giveR s1 s2 l iv) e w' := by
  obtain ⟨W2, hW2⟩ : ∃ W2, W2 = (w.alloc (.cells #[.int .i64 s1, .int .i64 s2, .slice ao l.length cap] 46)).alloc (.cells #[.int .i64 0, .int .i64 0, .slice none 0 0] 46) := ⟨_, rfl⟩
  have hB2 : Below w.heap.size w W2 := by rw [hW2]; exact below2 _ _ _
  have A2 : Bx W2 w.heap.size [.int .i64 s1, .int .i64 s2, .slice ao l.length cap] := by rw [hW2]; exact (Bx.new [.int .i64 s1, .int .i64 s2, .slice ao l.length cap] _ rfl).alloc _
  have R2 : Bx W2 (w.heap.size + 1) [.int .i64 0, .int .i64 0, .slice none 0 0] := by rw [hW2]; exact Bx.new [.int .i64 0, .int .i64 0, .slice none 0 0] _ (by simp)
  have HW := hid hW2
  have HS : Hid (W2.heap.size = w.heap.size + 1 + 1) := by rw [hW2]; simp [Hid]
  clear hW2
  cases hg : roomB s1 s2 l
  · have HG := hid hg
    have HR := hid (giveR_bad (k := iv) hg)
    clear hg
    go_enter Try.func38, Try.ntmps38
    go_wp2_with fail
    rw [← HW.out]
    refine (specGoodRoom_is s1 s2 ao cap l W2 false hl (hz.later hB2) HG.out).mono ?_
    rintro e w1 ⟨rfl, hb1⟩
    have hB1 := hB2.trans (hb1.mono hB2.size)
    have A1 := A2.later hb1
    have R1 := R2.later hb1
    have hs1 : w.heap.size + 1 + 1 ≤ w1.heap.size := by have := hb1.size; rw [HS.out] at this; exact this
    clear hb1 A2 R2
    have r0 := R1.c 0 rfl
    have rf0 := R1.f 0 rfl
    have r1 := R1.c 1 rfl
    have rf1 := R1.f 1 rfl
    have r2 := R1.c 2 rfl
    have rf2 := R1.f 2 rfl
    go_wp2
    refine bodyPost_ret (v := .tuple #[.agg #[.int .i64 0, .int .i64 0, .slice none 0 0], .slice none 0 0, .int .i64 2]) (by simp [results, Try.results38, go_sem, r0, r1, r2]) rfl ?_
    rw [HR.out]
    exact ⟨⟨none, 0, none, 0, rfl, .inl rfl, .inl rfl⟩, (((hB1.setCell (p := ⟨w.heap.size + 1, 0, none⟩) (by simp) _).setCell (p := ⟨w.heap.size + 1, 1, none⟩) (by simp) _).setCell (p := ⟨w.heap.size + 1, 2, none⟩) (by simp) _)⟩
  have HG := hid hg
  obtain ⟨g1, g2, g3, g4⟩ := roomB_good hg
  obtain ⟨q1, q2, q3, q4⟩ := sizesB_ok g1
  have HMM := hid g2
  have HL30 := hid (roomB_len hg)
  clear g1 g2 g3 g4
  cases hi : (decide (0 ≤ iv) && decide (iv ≤ s1))
  · have HI := hid hi
    have HR := hid (giveR_by (s2 := s2) (l := l) (show ¬ (0 ≤ iv ∧ iv ≤ s1) from by simp at hi; omega))
    clear hg hi
    go_enter Try.func38, Try.ntmps38
    go_wp2_with fail
    rw [← HW.out]
    refine (specGoodRoom_is s1 s2 ao cap l W2 true hl (hz.later hB2) HG.out).mono ?_
    rintro e w1 ⟨rfl, hb1⟩
    have hB1 := hB2.trans (hb1.mono hB2.size)
    have A1 := A2.later hb1
    have R1 := R2.later hb1
    have hs1 : w.heap.size + 1 + 1 ≤ w1.heap.size := by have := hb1.size; rw [HS.out] at this; exact this
    clear hb1 A2 R2
    have a0 := A1.c 0 rfl
    have af0 := A1.f 0 rfl
    have a1 := A1.c 1 rfl
    have af1 := A1.f 1 rfl
    have a2 := A1.c 2 rfl
    have af2 := A1.f 2 rfl
    go_wp2_with fail
    refine (l1In_is iv 0 s1 _ false HI.out).mono ?_
    rintro e w2 ⟨rfl, hw2⟩
    rw [hw2]
    clear hw2 w2 a0 a1 a2 af0 af1 af2
    have r0 := R1.c 0 rfl
    have rf0 := R1.f 0 rfl
    have r1 := R1.c 1 rfl
    have rf1 := R1.f 1 rfl
    have r2 := R1.c 2 rfl
    have rf2 := R1.f 2 rfl
    go_wp2
    refine bodyPost_ret (v := .tuple #[.agg #[.int .i64 0, .int .i64 0, .slice none 0 0], .slice none 0 0, .int .i64 2]) (by simp [results, Try.results38, go_sem, r0, r1, r2]) rfl ?_
    rw [HR.out]
    exact ⟨⟨none, 0, none, 0, rfl, .inl rfl, .inl rfl⟩, (((hB1.setCell (p := ⟨w.heap.size + 1, 0, none⟩) (by simp) _).setCell (p := ⟨w.heap.size + 1, 1, none⟩) (by simp) _).setCell (p := ⟨w.heap.size + 1, 2, none⟩) (by simp) _)⟩
  have HI := hid hi
  have hin : 0 ≤ iv ∧ iv ≤ s1 := by simp at hi; omega
  clear hi
  by_cases hc3 : s2 < iv
  · have HR := hid (giveR_below hg hin hc3)
    have hc3' : decide (s2 < iv) = true := by simpa using hc3
    clear hg
    go_enter Try.func38, Try.ntmps38
    go_wp2_with fail
    rw [← HW.out]
    refine (specGoodRoom_is s1 s2 ao cap l W2 true hl (hz.later hB2) HG.out).mono ?_
    rintro e w1 ⟨rfl, hb1⟩
    have hB1 := hB2.trans (hb1.mono hB2.size)
    have A1 := A2.later hb1
    have R1 := R2.later hb1
    have hs1 : w.heap.size + 1 + 1 ≤ w1.heap.size := by have := hb1.size; rw [HS.out] at this; exact this
    clear hb1 A2 R2
    have a0 := A1.c 0 rfl
    have af0 := A1.f 0 rfl
    have a1 := A1.c 1 rfl
    have af1 := A1.f 1 rfl
    have a2 := A1.c 2 rfl
    have af2 := A1.f 2 rfl
    go_wp2_with fail
    refine (l1In_is iv 0 s1 _ true HI.out).mono ?_
    rintro e w2 ⟨rfl, hw2⟩
    rw [hw2]
    clear hw2 w2 a0 a1 a2 af0 af1 af2
    have a0 := A1.c 0 rfl
    have af0 := A1.f 0 rfl
    have a1 := A1.c 1 rfl
    have af1 := A1.f 1 rfl
    have a2 := A1.c 2 rfl
    have af2 := A1.f 2 rfl
    go_wp2_with fail
    refine (l5Own_any s1 s2 ao cap l w1 hl hno (hz.later hB1)).mono ?_
    rintro e w2 ⟨⟨g, c, rfl, hF, _⟩, hb⟩
    have A3 := A1.later hb
    have R3 := R1.later hb
    have hB3 := hB1.trans (hb.mono hB1.size)
    have hs3 := hb.size
    have HF : Hid (kN.Fresh (w.heap.size + 1 + 1) w2.heap.size w2 (some ⟨g, 0, none⟩) c l) := hF.wide hs1 (Nat.le_refl _)
    have hgc := hF.cap
    clear hb hF a0 a1 a2 af0 af1 af2 A1 R1
    have a0 := A3.c 0 rfl
    have af0 := A3.f 0 rfl
    have a1 := A3.c 1 rfl
    have af1 := A3.f 1 rfl
    have a2 := A3.c 2 rfl
    have af2 := A3.f 2 rfl
    have r0 := R3.c 0 rfl
    have rf0 := R3.f 0 rfl
    have r1 := R3.c 1 rfl
    have rf1 := R3.f 1 rfl
    have r2 := R3.c 2 rfl
    have rf2 := R3.f 2 rfl
    go_wp2
    refine bodyPost_ret (v := .tuple #[.agg #[.int .i64 s1, .int .i64 s2, .slice (some ⟨g, 0, none⟩) l.length c], .slice none 0 0, .int .i64 3]) (by simp [results, Try.results38, go_sem, r0, r1, r2]) rfl ?_
    rw [HR.out]
    exact ⟨⟨_, c, none, 0, rfl, ((((((HF.out.setBelow (a := ⟨w.heap.size, 0, none⟩) (by simp; omega) _).setBelow (a := ⟨w.heap.size, 1, none⟩) (by simp; omega) _).setBelow (a := ⟨w.heap.size, 2, none⟩) (by simp; omega) _).setBelow (a := ⟨w.heap.size + 1, 0, none⟩) (by simp) _).setBelow (a := ⟨w.heap.size + 1, 1, none⟩) (by simp) _).setBelow (a := ⟨w.heap.size + 1, 2, none⟩) (by simp) _).wide (by omega) (by simp), .inl rfl⟩, ((((((hB3.setCell (p := ⟨w.heap.size, 0, none⟩) (by simp) _).setCell (p := ⟨w.heap.size, 1, none⟩) (by simp) _).setCell (p := ⟨w.heap.size, 2, none⟩) (by simp) _).setCell (p := ⟨w.heap.size + 1, 0, none⟩) (by simp) _).setCell (p := ⟨w.heap.size + 1, 1, none⟩) (by simp) _).setCell (p := ⟨w.heap.size + 1, 2, none⟩) (by simp) _)⟩
  have hc3' : decide (s2 < iv) = false := by simpa using hc3
  obtain ⟨⟨U1, L1, L2⟩, eR⟩ : ∃ r, letR s1 (s2 - iv) l = r := ⟨_, rfl⟩
  have HLR := hid eR
  have HR : Hid (giveR s1 s2 l iv = (s1, U1, L1, L2, 0)) := by rw [Hid, giveR_done hg hin hc3, eR]
  clear hg eR
  go_enter Try.func38, Try.ntmps38
  go_wp2_with fail
  rw [← HW.out]
  refine (specGoodRoom_is s1 s2 ao cap l W2 true hl (hz.later hB2) HG.out).mono ?_
  rintro e w1 ⟨rfl, hb1⟩
  have hB1 := hB2.trans (hb1.mono hB2.size)
  have A1 := A2.later hb1
  have R1 := R2.later hb1
  have hs1 : w.heap.size + 1 + 1 ≤ w1.heap.size := by have := hb1.size; rw [HS.out] at this; exact this
  clear hb1 A2 R2
  have a0 := A1.c 0 rfl
  have af0 := A1.f 0 rfl
  have a1 := A1.c 1 rfl
  have af1 := A1.f 1 rfl
  have a2 := A1.c 2 rfl
  have af2 := A1.f 2 rfl
  go_wp2_with fail
  refine (l1In_is iv 0 s1 _ true HI.out).mono ?_
  rintro e w2 ⟨rfl, hw2⟩
  rw [hw2]
  clear hw2 w2 a0 a1 a2 af0 af1 af2
  have a0 := A1.c 0 rfl
  have af0 := A1.f 0 rfl
  have a1 := A1.c 1 rfl
  have af1 := A1.f 1 rfl
  have a2 := A1.c 2 rfl
  have af2 := A1.f 2 rfl
  go_wp2_with fail
  refine (l5Own_any s1 s2 ao cap l w1 hl hno (hz.later hB1)).mono ?_
  rintro e w2 ⟨⟨g, c, rfl, hF, _⟩, hb⟩
  have A3 := A1.later hb
  have R3 := R1.later hb
  have hB3 := hB1.trans (hb.mono hB1.size)
  have hs3 := hb.size
  have HF : Hid (kN.Fresh (w.heap.size + 1 + 1) w2.heap.size w2 (some ⟨g, 0, none⟩) c l) := hF.wide hs1 (Nat.le_refl _)
  have hgc := hF.cap
  clear hb hF a0 a1 a2 af0 af1 af2 A1 R1
  have a0 := A3.c 0 rfl
  have af0 := A3.f 0 rfl
  have a1 := A3.c 1 rfl
  have af1 := A3.f 1 rfl
  have a2 := A3.c 2 rfl
  have af2 := A3.f 2 rfl
  have r0 := R3.c 0 rfl
  have rf0 := R3.f 0 rfl
  have r1 := R3.c 1 rfl
  have rf1 := R3.f 1 rfl
  have r2 := R3.c 2 rfl
  have rf2 := R3.f 2 rfl
  have A4 : Bx (((w2.setCell ⟨w.heap.size, 0, none⟩ (.int .i64 s1)).setCell ⟨w.heap.size, 1, none⟩ (.int .i64 s2)).setCell ⟨w.heap.size, 2, none⟩ (.slice (some ⟨g, 0, none⟩) l.length c)) w.heap.size [.int .i64 s1, .int .i64 s2, .slice (some ⟨g, 0, none⟩) l.length c] := ((A3.set 0 _).set 1 _).set 2 _
  have y0 := A4.c 0 rfl
  have y1 := A4.c 1 rfl
  have y2 := A4.c 2 rfl
  have yf1 := A4.f 1 rfl
  have A5 : Bx ((((w2.setCell ⟨w.heap.size, 0, none⟩ (.int .i64 s1)).setCell ⟨w.heap.size, 1, none⟩ (.int .i64 s2)).setCell ⟨w.heap.size, 2, none⟩ (.slice (some ⟨g, 0, none⟩) l.length c)).setCell ⟨w.heap.size, 1, none⟩ (.int .i64 (s2 - iv))) w.heap.size [.int .i64 s1, .int .i64 (s2 - iv), .slice (some ⟨g, 0, none⟩) l.length c] := A4.set 1 _
  have v0 := A5.c 0 rfl
  have v1 := A5.c 1 rfl
  have v2 := A5.c 2 rfl
  go_wp2_with fail
  clear y0 y1 y2 yf1 A4 v0 v1 v2 A5
  obtain ⟨V, hV⟩ : ∃ V, V = (((w2.setCell ⟨w.heap.size, 0, none⟩ (.int .i64 s1)).setCell ⟨w.heap.size, 1, none⟩ (.int .i64 s2)).setCell ⟨w.heap.size, 2, none⟩ (.slice (some ⟨g, 0, none⟩) l.length c)).setCell ⟨w.heap.size, 1, none⟩ (.int .i64 (s2 - iv)) := ⟨_, rfl⟩
  have hB4 : Below w.heap.size w V := by rw [hV]; exact (((hB3.setCell (p := ⟨w.heap.size, 0, none⟩) (by simp) _).setCell (p := ⟨w.heap.size, 1, none⟩) (by simp) _).setCell (p := ⟨w.heap.size, 2, none⟩) (by simp) _).setCell (p := ⟨w.heap.size, 1, none⟩) (by simp) _
  have R4 : Bx V (w.heap.size + 1) [.int .i64 0, .int .i64 0, .slice none 0 0] := by rw [hV]; exact (((R3.other (by simp) _).other (by simp) _).other (by simp) _).other (by simp) _
  have F4 : Hid (kN.Fresh (w.heap.size + 1 + 1) V.heap.size V (some ⟨g, 0, none⟩) c l) := by rw [hV]; exact ((((HF.out.setBelow (a := ⟨w.heap.size, 0, none⟩) (by simp; omega) _).setBelow (a := ⟨w.heap.size, 1, none⟩) (by simp; omega) _).setBelow (a := ⟨w.heap.size, 2, none⟩) (by simp; omega) _).setBelow (a := ⟨w.heap.size, 1, none⟩) (by simp; omega) _).wide (Nat.le_refl _) (by simp)
  have hs4 : w.heap.size + 1 + 1 ≤ V.heap.size := by rw [hV]; simp; omega
  have HI4 := hid F4.out.in
  rw [← hV]
  clear hV r0 r1 r2 rf0 rf1 rf2
  refine (l5Let_any s1 (s2 - iv) (some ⟨g, 0, none⟩) c l _ HL30.out hgc (by simp) ⟨by omega, by omega⟩ ⟨by omega, by omega⟩ HMM.out HI4.out).mono ?_
  rintro e w5 ⟨⟨o, c5, o', c', rfl, hF5, hN5⟩, hb5⟩
  rw [HLR.out] at hF5 hN5 ⊢
  dsimp only at hF5 hN5 ⊢
  have hB5 := hB4.trans (hb5.mono hB4.size)
  have R5 := R4.later hb5
  have F5 : Hid (kN.Fresh (w.heap.size + 1 + 1) w5.heap.size w5 o c5 L1) := hF5.wide hs4 (Nat.le_refl _)
  have N5 : Hid (kI.Fresh (w.heap.size + 1 + 1) w5.heap.size w5 o' c' L2) := hN5.wide hs4 (Nat.le_refl _)
  clear hb5 hF5 hN5
  have r0 := R5.c 0 rfl
  have rf0 := R5.f 0 rfl
  have r1 := R5.c 1 rfl
  have rf1 := R5.f 1 rfl
  have r2 := R5.c 2 rfl
  have rf2 := R5.f 2 rfl
  go_wp2
  refine bodyPost_ret (v := .tuple #[.agg #[.int .i64 s1, .int .i64 U1, .slice o L1.length c5], .slice o' L2.length c', .int .i64 0]) (by simp [results, Try.results38, go_sem, r0, r1, r2]) rfl ?_
  rw [HR.out]
  exact ⟨⟨o, c5, o', c', rfl, (((F5.out.setBelow (a := ⟨w.heap.size + 1, 0, none⟩) (by simp) _).setBelow (a := ⟨w.heap.size + 1, 1, none⟩) (by simp) _).setBelow (a := ⟨w.heap.size + 1, 2, none⟩) (by simp) _).wide (by omega) (by simp), (((N5.out.setBelow (a := ⟨w.heap.size + 1, 0, none⟩) (by simp) _).setBelow (a := ⟨w.heap.size + 1, 1, none⟩) (by simp) _).setBelow (a := ⟨w.heap.size + 1, 2, none⟩) (by simp) _).wide (by omega) (by simp)⟩, (((hB5.setCell (p := ⟨w.heap.size + 1, 0, none⟩) (by simp) _).setCell (p := ⟨w.heap.size + 1, 1, none⟩) (by simp) _).setCell (p := ⟨w.heap.size + 1, 2, none⟩) (by simp) _)⟩
end Go.Proofs.Ytcdkdigafcfgmaa
