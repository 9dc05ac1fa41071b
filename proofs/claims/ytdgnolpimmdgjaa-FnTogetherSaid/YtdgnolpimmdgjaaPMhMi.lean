/- GiveRoom: what it answers, the program, the specification. No conditions but those written. Those that have room are let in: the specification, its row its own. No conditions but those written. GiveRoom: the specification, its row its own. No conditions but those written. LeaveRoom: what it answers, the program, the specification. No conditions but those written. -/
import Derived.Test.YtdgnolpimmdgjaaPMdGd
import Derived.Test.YtdgnolpimmdgjaaPXuMe
import Derived.Test.YtdgnolpimmdgjaaPGfXa
import Derived.BigRegion
import Derived.RegionTactic
import Derived.ChangeAlike
namespace Go.Proofs.Ytdgnolpimmdgjaa
section
open Go.RowKit

/-- A room, those that go, a code. -/
abbrev RoomR := Int × Int × List (Int × Int) × List Int × Int
/-- What GiveRoom answers. -/
def giveR (s1 s2 : Int) (l : List (Int × Int)) (k : Int) : RoomR :=
  if roomB s1 s2 l = true ∧ (0 ≤ k ∧ k ≤ s1) then
    if s2 < k then (s1, s2, l, [], 3) else (s1, (letR s1 (s2 - k) l).1, (letR s1 (s2 - k) l).2.1, (letR s1 (s2 - k) l).2.2, 0)
  else (0, 0, [], [], 2)
theorem giveR_bad {s1 s2 : Int} {l : List (Int × Int)} {k : Int} (h : roomB s1 s2 l = false) : giveR s1 s2 l k = (0, 0, [], [], 2) := by rw [giveR, if_neg]; rw [h]; simp
theorem giveR_by {s1 s2 : Int} {l : List (Int × Int)} {k : Int} (h : ¬ (0 ≤ k ∧ k ≤ s1)) : giveR s1 s2 l k = (0, 0, [], [], 2) := by rw [giveR, if_neg]; exact fun x => h x.2
theorem giveR_below {s1 s2 : Int} {l : List (Int × Int)} {k : Int} (h : roomB s1 s2 l = true) (h1 : 0 ≤ k ∧ k ≤ s1) (h2 : s2 < k) : giveR s1 s2 l k = (s1, s2, l, [], 3) := by rw [giveR, if_pos ⟨h, h1⟩, if_pos h2]
theorem giveR_done {s1 s2 : Int} {l : List (Int × Int)} {k : Int} (h : roomB s1 s2 l = true) (h1 : 0 ≤ k ∧ k ≤ s1) (h2 : ¬ s2 < k) : giveR s1 s2 l k = (s1, (letR s1 (s2 - k) l).1, (letR s1 (s2 - k) l).2.1, (letR s1 (s2 - k) l).2.2, 0) := by rw [giveR, if_pos ⟨h, h1⟩, if_neg h2]
theorem giveR_len {s1 s2 : Int} {l : List (Int × Int)} {k : Int} (hl : l.length ≤ 1048576) : (giveR s1 s2 l k).2.2.1.length ≤ 1048576 ∧ (giveR s1 s2 l k).2.2.2.1.length ≤ 1048576 := by
  unfold giveR
  repeat' split
  · simp [hl]
  · have := letR_len s1 l (s2 - k)
    dsimp only; omega
  · simp
/-- In memory of their own. -/
def AnsR (w : World) (R : RoomR) (e : Ending) (w' : World) : Prop :=
  (∃ o c o' c', e = .returned (.tuple #[.agg #[.int .i64 R.1, .int .i64 R.2.1, .slice o R.2.2.1.length c], .slice o' R.2.2.2.1.length c', .int .i64 R.2.2.2.2]) ∧ kN.Fresh w.heap.size w'.heap.size w' o c R.2.2.1 ∧ kI.Fresh w.heap.size w'.heap.size w' o' c' R.2.2.2.1) ∧ Below w.heap.size w w'

set_option maxRecDepth 10000 in
set_option maxHeartbeats 4000000 in
theorem implGive_any (s1 s2 : Int) (ao : Option Addr) (cap : Nat) (l : List (Int × Int)) (iv : Int) (w : World) (hl : l.length ≤ 1048576) (hz : kN.In w.heap.size w ao l) :
    Calls Try.prog 10 #[.agg #[.int .i64 s1, .int .i64 s2, .slice ao l.length cap], .int .i64 iv] w fun e w' => AnsR w (giveR s1 s2 l iv) e w' := by
  obtain ⟨W2, hW2⟩ : ∃ W2, W2 = (w.alloc (.cells #[.int .i64 s1, .int .i64 s2, .slice ao l.length cap] 34)).alloc (.cells #[.int .i64 0, .int .i64 0, .slice none 0 0] 34) := ⟨_, rfl⟩
  have hB2 : Below w.heap.size w W2 := by rw [hW2]; exact below2 _ _ _
  have A2 : Bx W2 w.heap.size [.int .i64 s1, .int .i64 s2, .slice ao l.length cap] := by rw [hW2]; exact (Bx.new [.int .i64 s1, .int .i64 s2, .slice ao l.length cap] _ rfl).alloc _
  have R2 : Bx W2 (w.heap.size + 1) [.int .i64 0, .int .i64 0, .slice none 0 0] := by rw [hW2]; exact Bx.new [.int .i64 0, .int .i64 0, .slice none 0 0] _ (by simp)
  have HW := hid hW2
  have HS : Hid (W2.heap.size = w.heap.size + 1 + 1) := by rw [hW2]; simp [Hid]
  clear hW2
  cases hg : roomB s1 s2 l
  · have HG := hid hg
    have HR := hid (giveR_bad (k := iv) hg)
    clear hg
    go_enter Try.func10, Try.ntmps10
    go_wp2_with fail
    rw [← HW.out]
    refine (implGoodRoom_is s1 s2 ao cap l W2 false hl (hz.later hB2) HG.out).mono ?_
    rintro e w1 ⟨rfl, hb1⟩
    have hB1 := hB2.trans (hb1.mono hB2.size)
    have A1 := A2.later hb1
    have R1 := R2.later hb1
    have hs1 : w.heap.size + 1 + 1 ≤ w1.heap.size := by have := hb1.size; rw [HS.out] at this; exact this
    clear hb1 A2 R2
    have r0 := R1.c 0 rfl
    have rf0 := R1.f 0 rfl
    have r1 := R1.c 1 rfl
    have rf1 := R1.f 1 rfl
    have r2 := R1.c 2 rfl
    have rf2 := R1.f 2 rfl
    go_wp2
    refine bodyPost_ret (v := .tuple #[.agg #[.int .i64 0, .int .i64 0, .slice none 0 0], .slice none 0 0, .int .i64 2]) (by simp [results, Try.results10, go_sem, r0, r1, r2]) rfl ?_
    rw [HR.out]
    exact ⟨⟨none, 0, none, 0, rfl, .inl rfl, .inl rfl⟩, (((hB1.setCell (p := ⟨w.heap.size + 1, 0, none⟩) (by simp) _).setCell (p := ⟨w.heap.size + 1, 1, none⟩) (by simp) _).setCell (p := ⟨w.heap.size + 1, 2, none⟩) (by simp) _)⟩
  have HG := hid hg
  obtain ⟨g1, g2, g3, g4⟩ := roomB_good hg
  obtain ⟨q1, q2, q3, q4⟩ := sizesB_ok g1
  have HMM := hid g2
  have HL30 := hid (roomB_len hg)
  clear g1 g2 g3 g4
  by_cases hc1 : iv < 0
  · have HR := hid (giveR_by (s2 := s2) (l := l) (show ¬ (0 ≤ iv ∧ iv ≤ s1) from by omega))
    have hc1' : decide (iv < 0) = true := by simpa using hc1
    clear hg
    go_enter Try.func10, Try.ntmps10
    go_wp2_with fail
    rw [← HW.out]
    refine (implGoodRoom_is s1 s2 ao cap l W2 true hl (hz.later hB2) HG.out).mono ?_
    rintro e w1 ⟨rfl, hb1⟩
    have hB1 := hB2.trans (hb1.mono hB2.size)
    have A1 := A2.later hb1
    have R1 := R2.later hb1
    have hs1 : w.heap.size + 1 + 1 ≤ w1.heap.size := by have := hb1.size; rw [HS.out] at this; exact this
    clear hb1 A2 R2
    have a0 := A1.c 0 rfl
    have af0 := A1.f 0 rfl
    have a1 := A1.c 1 rfl
    have af1 := A1.f 1 rfl
    have a2 := A1.c 2 rfl
    have af2 := A1.f 2 rfl
    have r0 := R1.c 0 rfl
    have rf0 := R1.f 0 rfl
    have r1 := R1.c 1 rfl
    have rf1 := R1.f 1 rfl
    have r2 := R1.c 2 rfl
    have rf2 := R1.f 2 rfl
    go_wp2
    refine bodyPost_ret (v := .tuple #[.agg #[.int .i64 0, .int .i64 0, .slice none 0 0], .slice none 0 0, .int .i64 2]) (by simp [results, Try.results10, go_sem, r0, r1, r2]) rfl ?_
    rw [HR.out]
    exact ⟨⟨none, 0, none, 0, rfl, .inl rfl, .inl rfl⟩, (((hB1.setCell (p := ⟨w.heap.size + 1, 0, none⟩) (by simp) _).setCell (p := ⟨w.heap.size + 1, 1, none⟩) (by simp) _).setCell (p := ⟨w.heap.size + 1, 2, none⟩) (by simp) _)⟩
  have hc1' : decide (iv < 0) = false := by simpa using hc1
  by_cases hc2 : s1 < iv
  · have HR := hid (giveR_by (s2 := s2) (l := l) (show ¬ (0 ≤ iv ∧ iv ≤ s1) from by omega))
    have hc2' : decide (s1 < iv) = true := by simpa using hc2
    clear hg
    go_enter Try.func10, Try.ntmps10
    go_wp2_with fail
    rw [← HW.out]
    refine (implGoodRoom_is s1 s2 ao cap l W2 true hl (hz.later hB2) HG.out).mono ?_
    rintro e w1 ⟨rfl, hb1⟩
    have hB1 := hB2.trans (hb1.mono hB2.size)
    have A1 := A2.later hb1
    have R1 := R2.later hb1
    have hs1 : w.heap.size + 1 + 1 ≤ w1.heap.size := by have := hb1.size; rw [HS.out] at this; exact this
    clear hb1 A2 R2
    have a0 := A1.c 0 rfl
    have af0 := A1.f 0 rfl
    have a1 := A1.c 1 rfl
    have af1 := A1.f 1 rfl
    have a2 := A1.c 2 rfl
    have af2 := A1.f 2 rfl
    have r0 := R1.c 0 rfl
    have rf0 := R1.f 0 rfl
    have r1 := R1.c 1 rfl
    have rf1 := R1.f 1 rfl
    have r2 := R1.c 2 rfl
    have rf2 := R1.f 2 rfl
    go_wp2
    refine bodyPost_ret (v := .tuple #[.agg #[.int .i64 0, .int .i64 0, .slice none 0 0], .slice none 0 0, .int .i64 2]) (by simp [results, Try.results10, go_sem, r0, r1, r2]) rfl ?_
    rw [HR.out]
    exact ⟨⟨none, 0, none, 0, rfl, .inl rfl, .inl rfl⟩, (((hB1.setCell (p := ⟨w.heap.size + 1, 0, none⟩) (by simp) _).setCell (p := ⟨w.heap.size + 1, 1, none⟩) (by simp) _).setCell (p := ⟨w.heap.size + 1, 2, none⟩) (by simp) _)⟩
  have hc2' : decide (s1 < iv) = false := by simpa using hc2
  by_cases hc3 : s2 < iv
  · have HR := hid (giveR_below hg ⟨by omega, by omega⟩ hc3)
    have hc3' : decide (s2 < iv) = true := by simpa using hc3
    clear hg
    go_enter Try.func10, Try.ntmps10
    go_wp2_with fail
    rw [← HW.out]
    refine (implGoodRoom_is s1 s2 ao cap l W2 true hl (hz.later hB2) HG.out).mono ?_
    rintro e w1 ⟨rfl, hb1⟩
    have hB1 := hB2.trans (hb1.mono hB2.size)
    have A1 := A2.later hb1
    have R1 := R2.later hb1
    have hs1 : w.heap.size + 1 + 1 ≤ w1.heap.size := by have := hb1.size; rw [HS.out] at this; exact this
    clear hb1 A2 R2
    have a0 := A1.c 0 rfl
    have af0 := A1.f 0 rfl
    have a1 := A1.c 1 rfl
    have af1 := A1.f 1 rfl
    have a2 := A1.c 2 rfl
    have af2 := A1.f 2 rfl
    go_wp2_with fail
    refine (copyRoom_any s1 s2 ao cap l w1 hl (hz.later hB1)).mono ?_
    rintro e w2 ⟨⟨go1, rfl, hF⟩, hb⟩
    have R3 := R1.later hb
    have hB3 := hB1.trans (hb.mono hB1.size)
    have HF : Hid (kN.Fresh (w.heap.size + 1 + 1) w2.heap.size w2 go1 l.length l) := hF.wide hs1 (Nat.le_refl _)
    clear hb hF
    have r0 := R3.c 0 rfl
    have rf0 := R3.f 0 rfl
    have r1 := R3.c 1 rfl
    have rf1 := R3.f 1 rfl
    have r2 := R3.c 2 rfl
    have rf2 := R3.f 2 rfl
    go_wp2
    refine bodyPost_ret (v := .tuple #[.agg #[.int .i64 s1, .int .i64 s2, .slice go1 l.length l.length], .slice none 0 0, .int .i64 3]) (by simp [results, Try.results10, go_sem, r0, r1, r2]) rfl ?_
    rw [HR.out]
    exact ⟨⟨go1, l.length, none, 0, rfl, (((HF.out.setBelow (a := ⟨w.heap.size + 1, 0, none⟩) (by simp) _).setBelow (a := ⟨w.heap.size + 1, 1, none⟩) (by simp) _).setBelow (a := ⟨w.heap.size + 1, 2, none⟩) (by simp) _).wide (by omega) (by simp), .inl rfl⟩, (((hB3.setCell (p := ⟨w.heap.size + 1, 0, none⟩) (by simp) _).setCell (p := ⟨w.heap.size + 1, 1, none⟩) (by simp) _).setCell (p := ⟨w.heap.size + 1, 2, none⟩) (by simp) _)⟩
  have hc3' : decide (s2 < iv) = false := by simpa using hc3
  obtain ⟨⟨U1, L1, L2⟩, eR⟩ : ∃ r, letR s1 (s2 - iv) l = r := ⟨_, rfl⟩
  have HLR := hid eR
  have HR : Hid (giveR s1 s2 l iv = (s1, U1, L1, L2, 0)) := by rw [Hid, giveR_done hg ⟨by omega, by omega⟩ hc3, eR]
  clear hg eR
  go_enter Try.func10, Try.ntmps10
  go_wp2_with fail
  rw [← HW.out]
  refine (implGoodRoom_is s1 s2 ao cap l W2 true hl (hz.later hB2) HG.out).mono ?_
  rintro e w1 ⟨rfl, hb1⟩
  have hB1 := hB2.trans (hb1.mono hB2.size)
  have A1 := A2.later hb1
  have R1 := R2.later hb1
  have hs1 : w.heap.size + 1 + 1 ≤ w1.heap.size := by have := hb1.size; rw [HS.out] at this; exact this
  clear hb1 A2 R2
  have a0 := A1.c 0 rfl
  have af0 := A1.f 0 rfl
  have a1 := A1.c 1 rfl
  have af1 := A1.f 1 rfl
  have a2 := A1.c 2 rfl
  have af2 := A1.f 2 rfl
  go_wp2_with fail
  refine (copyRoom_any s1 s2 ao cap l w1 hl (hz.later hB1)).mono ?_
  rintro e w2 ⟨⟨go1, rfl, hF⟩, hb⟩
  have R3 := R1.later hb
  have hB3 := hB1.trans (hb.mono hB1.size)
  have hs12 := hb.size
  have HF : Hid (kN.Fresh (w.heap.size + 1 + 1) w2.heap.size w2 go1 l.length l) := hF.wide hs1 (Nat.le_refl _)
  clear hb hF
  have hn3 := below1 w2 (.cells #[.int .i64 s1, .int .i64 (s2 - iv), .slice go1 l.length l.length] 34)
  have hB4 := Below.allocS hB3 (.cells #[.int .i64 s1, .int .i64 (s2 - iv), .slice go1 l.length l.length] 34)
  have HI4 := hid ((HF.out.later hn3).in)
  have R4 := R3.later hn3
  clear hn3
  go_wp2_with fail
  refine (letIn_any s1 ((s2 - iv)) _ _ l _ HL30.out ⟨by omega, by omega⟩ ⟨by omega, by omega⟩ HMM.out HI4.out).mono ?_
  rintro e w5 ⟨⟨o, c, o', c', rfl, hF5, hN5⟩, hb5⟩
  rw [HLR.out] at hF5 hN5 ⊢
  dsimp only at hF5 hN5 ⊢
  have hB5 := hB4.trans (hb5.mono hB4.size)
  have R5 := R4.later hb5
  have hs5 : w2.heap.size + 1 ≤ w5.heap.size := by have := hb5.size; simpa using this
  have hs2 := hB3.size
  have F5 : Hid (kN.Fresh (w.heap.size + 1 + 1) w5.heap.size w5 o c L1) := hF5.wide (by simp; omega) (Nat.le_refl _)
  have N5 : Hid (kI.Fresh (w.heap.size + 1 + 1) w5.heap.size w5 o' c' L2) := hN5.wide (by simp; omega) (Nat.le_refl _)
  have hp5 := R5.size
  clear hb5 hF5 hN5
  have r0 := R5.c 0 rfl
  have rf0 := R5.f 0 rfl
  have r1 := R5.c 1 rfl
  have rf1 := R5.f 1 rfl
  have r2 := R5.c 2 rfl
  have rf2 := R5.f 2 rfl
  go_wp2
  refine bodyPost_ret (v := .tuple #[.agg #[.int .i64 s1, .int .i64 U1, .slice o L1.length c], .slice o' L2.length c', .int .i64 0]) (by simp [results, Try.results10, go_sem, r0, r1, r2, hp5]) rfl ?_
  rw [HR.out]
  exact ⟨⟨o, c, o', c', rfl, ((((F5.out.setBelow (a := ⟨w.heap.size + 1, 0, none⟩) (by simp) _).setBelow (a := ⟨w.heap.size + 1, 1, none⟩) (by simp) _).setBelow (a := ⟨w.heap.size + 1, 2, none⟩) (by simp) _).later (below1 _ _)).wide (by omega) (by simp), ((((N5.out.setBelow (a := ⟨w.heap.size + 1, 0, none⟩) (by simp) _).setBelow (a := ⟨w.heap.size + 1, 1, none⟩) (by simp) _).setBelow (a := ⟨w.heap.size + 1, 2, none⟩) (by simp) _).later (below1 _ _)).wide (by omega) (by simp)⟩, Below.allocS (((hB5.setCell (p := ⟨w.heap.size + 1, 0, none⟩) (by simp) _).setCell (p := ⟨w.heap.size + 1, 1, none⟩) (by simp) _).setCell (p := ⟨w.heap.size + 1, 2, none⟩) (by simp) _) _⟩

set_option maxRecDepth 10000 in
set_option maxHeartbeats 4000000 in
theorem specGive_any (s1 s2 : Int) (ao : Option Addr) (cap : Nat) (l : List (Int × Int)) (iv : Int) (w : World) (hl : l.length ≤ 1048576) (hno : ao = none → cap = 0) (hz : kN.In w.heap.size w ao l) :
    Calls Try.prog 11 #[.agg #[.int .i64 s1, .int .i64 s2, .slice ao l.length cap], .int .i64 iv] w fun e w' => AnsR w (giveR s1 s2 l iv) e w' := by
  obtain ⟨W2, hW2⟩ : ∃ W2, W2 = (w.alloc (.cells #[.int .i64 s1, .int .i64 s2, .slice ao l.length cap] 34)).alloc (.cells #[.int .i64 0, .int .i64 0, .slice none 0 0] 34) := ⟨_, rfl⟩
  have hB2 : Below w.heap.size w W2 := by rw [hW2]; exact below2 _ _ _
  have A2 : Bx W2 w.heap.size [.int .i64 s1, .int .i64 s2, .slice ao l.length cap] := by rw [hW2]; exact (Bx.new [.int .i64 s1, .int .i64 s2, .slice ao l.length cap] _ rfl).alloc _
  have R2 : Bx W2 (w.heap.size + 1) [.int .i64 0, .int .i64 0, .slice none 0 0] := by rw [hW2]; exact Bx.new [.int .i64 0, .int .i64 0, .slice none 0 0] _ (by simp)
  have HW := hid hW2
  have HS : Hid (W2.heap.size = w.heap.size + 1 + 1) := by rw [hW2]; simp [Hid]
  clear hW2
  cases hg : roomB s1 s2 l
  · have HG := hid hg
    have HR := hid (giveR_bad (k := iv) hg)
    clear hg
    go_enter Try.func11, Try.ntmps11
    go_wp2_with fail
    rw [← HW.out]
    refine (specGoodRoom_is s1 s2 ao cap l W2 false hl (hz.later hB2) HG.out).mono ?_
    rintro e w1 ⟨rfl, hb1⟩
    have hB1 := hB2.trans (hb1.mono hB2.size)
    have A1 := A2.later hb1
    have R1 := R2.later hb1
    have hs1 : w.heap.size + 1 + 1 ≤ w1.heap.size := by have := hb1.size; rw [HS.out] at this; exact this
    clear hb1 A2 R2
    have r0 := R1.c 0 rfl
    have rf0 := R1.f 0 rfl
    have r1 := R1.c 1 rfl
    have rf1 := R1.f 1 rfl
    have r2 := R1.c 2 rfl
    have rf2 := R1.f 2 rfl
    go_wp2
    refine bodyPost_ret (v := .tuple #[.agg #[.int .i64 0, .int .i64 0, .slice none 0 0], .slice none 0 0, .int .i64 2]) (by simp [results, Try.results11, go_sem, r0, r1, r2]) rfl ?_
    rw [HR.out]
    exact ⟨⟨none, 0, none, 0, rfl, .inl rfl, .inl rfl⟩, (((hB1.setCell (p := ⟨w.heap.size + 1, 0, none⟩) (by simp) _).setCell (p := ⟨w.heap.size + 1, 1, none⟩) (by simp) _).setCell (p := ⟨w.heap.size + 1, 2, none⟩) (by simp) _)⟩
  have HG := hid hg
  obtain ⟨g1, g2, g3, g4⟩ := roomB_good hg
  obtain ⟨q1, q2, q3, q4⟩ := sizesB_ok g1
  have HMM := hid g2
  have HL30 := hid (roomB_len hg)
  clear g1 g2 g3 g4
  cases hi : (decide (0 ≤ iv) && decide (iv ≤ s1))
  · have HI := hid hi
    have HR := hid (giveR_by (s2 := s2) (l := l) (show ¬ (0 ≤ iv ∧ iv ≤ s1) from by simp at hi; omega))
    clear hg hi
    go_enter Try.func11, Try.ntmps11
    go_wp2_with fail
    rw [← HW.out]
    refine (specGoodRoom_is s1 s2 ao cap l W2 true hl (hz.later hB2) HG.out).mono ?_
    rintro e w1 ⟨rfl, hb1⟩
    have hB1 := hB2.trans (hb1.mono hB2.size)
    have A1 := A2.later hb1
    have R1 := R2.later hb1
    have hs1 : w.heap.size + 1 + 1 ≤ w1.heap.size := by have := hb1.size; rw [HS.out] at this; exact this
    clear hb1 A2 R2
    have a0 := A1.c 0 rfl
    have af0 := A1.f 0 rfl
    have a1 := A1.c 1 rfl
    have af1 := A1.f 1 rfl
    have a2 := A1.c 2 rfl
    have af2 := A1.f 2 rfl
    go_wp2_with fail
    refine (l1In_is iv 0 s1 _ false HI.out).mono ?_
    rintro e w2 ⟨rfl, hw2⟩
    rw [hw2]
    clear hw2 w2 a0 a1 a2 af0 af1 af2
    have r0 := R1.c 0 rfl
    have rf0 := R1.f 0 rfl
    have r1 := R1.c 1 rfl
    have rf1 := R1.f 1 rfl
    have r2 := R1.c 2 rfl
    have rf2 := R1.f 2 rfl
    go_wp2
    refine bodyPost_ret (v := .tuple #[.agg #[.int .i64 0, .int .i64 0, .slice none 0 0], .slice none 0 0, .int .i64 2]) (by simp [results, Try.results11, go_sem, r0, r1, r2]) rfl ?_
    rw [HR.out]
    exact ⟨⟨none, 0, none, 0, rfl, .inl rfl, .inl rfl⟩, (((hB1.setCell (p := ⟨w.heap.size + 1, 0, none⟩) (by simp) _).setCell (p := ⟨w.heap.size + 1, 1, none⟩) (by simp) _).setCell (p := ⟨w.heap.size + 1, 2, none⟩) (by simp) _)⟩
  have HI := hid hi
  have hin : 0 ≤ iv ∧ iv ≤ s1 := by simp at hi; omega
  clear hi
  by_cases hc3 : s2 < iv
  · have HR := hid (giveR_below hg hin hc3)
    have hc3' : decide (s2 < iv) = true := by simpa using hc3
    clear hg
    go_enter Try.func11, Try.ntmps11
    go_wp2_with fail
    rw [← HW.out]
    refine (specGoodRoom_is s1 s2 ao cap l W2 true hl (hz.later hB2) HG.out).mono ?_
    rintro e w1 ⟨rfl, hb1⟩
    have hB1 := hB2.trans (hb1.mono hB2.size)
    have A1 := A2.later hb1
    have R1 := R2.later hb1
    have hs1 : w.heap.size + 1 + 1 ≤ w1.heap.size := by have := hb1.size; rw [HS.out] at this; exact this
    clear hb1 A2 R2
    have a0 := A1.c 0 rfl
    have af0 := A1.f 0 rfl
    have a1 := A1.c 1 rfl
    have af1 := A1.f 1 rfl
    have a2 := A1.c 2 rfl
    have af2 := A1.f 2 rfl
    go_wp2_with fail
    refine (l1In_is iv 0 s1 _ true HI.out).mono ?_
    rintro e w2 ⟨rfl, hw2⟩
    rw [hw2]
    clear hw2 w2 a0 a1 a2 af0 af1 af2
    have a0 := A1.c 0 rfl
    have af0 := A1.f 0 rfl
    have a1 := A1.c 1 rfl
    have af1 := A1.f 1 rfl
    have a2 := A1.c 2 rfl
    have af2 := A1.f 2 rfl
    go_wp2_with fail
    refine (l5Own_any s1 s2 ao cap l w1 hl hno (hz.later hB1)).mono ?_
    rintro e w2 ⟨⟨g, c, rfl, hF, _⟩, hb⟩
    have A3 := A1.later hb
    have R3 := R1.later hb
    have hB3 := hB1.trans (hb.mono hB1.size)
    have hs3 := hb.size
    have HF : Hid (kN.Fresh (w.heap.size + 1 + 1) w2.heap.size w2 (some ⟨g, 0, none⟩) c l) := hF.wide hs1 (Nat.le_refl _)
    have hgc := hF.cap
    clear hb hF a0 a1 a2 af0 af1 af2 A1 R1
    have a0 := A3.c 0 rfl
    have af0 := A3.f 0 rfl
    have a1 := A3.c 1 rfl
    have af1 := A3.f 1 rfl
    have a2 := A3.c 2 rfl
    have af2 := A3.f 2 rfl
    have r0 := R3.c 0 rfl
    have rf0 := R3.f 0 rfl
    have r1 := R3.c 1 rfl
    have rf1 := R3.f 1 rfl
    have r2 := R3.c 2 rfl
    have rf2 := R3.f 2 rfl
    go_wp2
    refine bodyPost_ret (v := .tuple #[.agg #[.int .i64 s1, .int .i64 s2, .slice (some ⟨g, 0, none⟩) l.length c], .slice none 0 0, .int .i64 3]) (by simp [results, Try.results11, go_sem, r0, r1, r2]) rfl ?_
    rw [HR.out]
    exact ⟨⟨_, c, none, 0, rfl, ((((((HF.out.setBelow (a := ⟨w.heap.size, 0, none⟩) (by simp; omega) _).setBelow (a := ⟨w.heap.size, 1, none⟩) (by simp; omega) _).setBelow (a := ⟨w.heap.size, 2, none⟩) (by simp; omega) _).setBelow (a := ⟨w.heap.size + 1, 0, none⟩) (by simp) _).setBelow (a := ⟨w.heap.size + 1, 1, none⟩) (by simp) _).setBelow (a := ⟨w.heap.size + 1, 2, none⟩) (by simp) _).wide (by omega) (by simp), .inl rfl⟩, ((((((hB3.setCell (p := ⟨w.heap.size, 0, none⟩) (by simp) _).setCell (p := ⟨w.heap.size, 1, none⟩) (by simp) _).setCell (p := ⟨w.heap.size, 2, none⟩) (by simp) _).setCell (p := ⟨w.heap.size + 1, 0, none⟩) (by simp) _).setCell (p := ⟨w.heap.size + 1, 1, none⟩) (by simp) _).setCell (p := ⟨w.heap.size + 1, 2, none⟩) (by simp) _)⟩
  have hc3' : decide (s2 < iv) = false := by simpa using hc3
  obtain ⟨⟨U1, L1, L2⟩, eR⟩ : ∃ r, letR s1 (s2 - iv) l = r := ⟨_, rfl⟩
  have HLR := hid eR
  have HR : Hid (giveR s1 s2 l iv = (s1, U1, L1, L2, 0)) := by rw [Hid, giveR_done hg hin hc3, eR]
  clear hg eR
  go_enter Try.func11, Try.ntmps11
  go_wp2_with fail
  rw [← HW.out]
  refine (specGoodRoom_is s1 s2 ao cap l W2 true hl (hz.later hB2) HG.out).mono ?_
  rintro e w1 ⟨rfl, hb1⟩
  have hB1 := hB2.trans (hb1.mono hB2.size)
  have A1 := A2.later hb1
  have R1 := R2.later hb1
  have hs1 : w.heap.size + 1 + 1 ≤ w1.heap.size := by have := hb1.size; rw [HS.out] at this; exact this
  clear hb1 A2 R2
  have a0 := A1.c 0 rfl
  have af0 := A1.f 0 rfl
  have a1 := A1.c 1 rfl
  have af1 := A1.f 1 rfl
  have a2 := A1.c 2 rfl
  have af2 := A1.f 2 rfl
  go_wp2_with fail
  refine (l1In_is iv 0 s1 _ true HI.out).mono ?_
  rintro e w2 ⟨rfl, hw2⟩
  rw [hw2]
  clear hw2 w2 a0 a1 a2 af0 af1 af2
  have a0 := A1.c 0 rfl
  have af0 := A1.f 0 rfl
  have a1 := A1.c 1 rfl
  have af1 := A1.f 1 rfl
  have a2 := A1.c 2 rfl
  have af2 := A1.f 2 rfl
  go_wp2_with fail
  refine (l5Own_any s1 s2 ao cap l w1 hl hno (hz.later hB1)).mono ?_
  rintro e w2 ⟨⟨g, c, rfl, hF, _⟩, hb⟩
  have A3 := A1.later hb
  have R3 := R1.later hb
  have hB3 := hB1.trans (hb.mono hB1.size)
  have hs3 := hb.size
  have HF : Hid (kN.Fresh (w.heap.size + 1 + 1) w2.heap.size w2 (some ⟨g, 0, none⟩) c l) := hF.wide hs1 (Nat.le_refl _)
  have hgc := hF.cap
  clear hb hF a0 a1 a2 af0 af1 af2 A1 R1
  have a0 := A3.c 0 rfl
  have af0 := A3.f 0 rfl
  have a1 := A3.c 1 rfl
  have af1 := A3.f 1 rfl
  have a2 := A3.c 2 rfl
  have af2 := A3.f 2 rfl
  have r0 := R3.c 0 rfl
  have rf0 := R3.f 0 rfl
  have r1 := R3.c 1 rfl
  have rf1 := R3.f 1 rfl
  have r2 := R3.c 2 rfl
  have rf2 := R3.f 2 rfl
  have A4 : Bx (((w2.setCell ⟨w.heap.size, 0, none⟩ (.int .i64 s1)).setCell ⟨w.heap.size, 1, none⟩ (.int .i64 s2)).setCell ⟨w.heap.size, 2, none⟩ (.slice (some ⟨g, 0, none⟩) l.length c)) w.heap.size [.int .i64 s1, .int .i64 s2, .slice (some ⟨g, 0, none⟩) l.length c] := ((A3.set 0 _).set 1 _).set 2 _
  have y0 := A4.c 0 rfl
  have y1 := A4.c 1 rfl
  have y2 := A4.c 2 rfl
  have yf1 := A4.f 1 rfl
  have A5 : Bx ((((w2.setCell ⟨w.heap.size, 0, none⟩ (.int .i64 s1)).setCell ⟨w.heap.size, 1, none⟩ (.int .i64 s2)).setCell ⟨w.heap.size, 2, none⟩ (.slice (some ⟨g, 0, none⟩) l.length c)).setCell ⟨w.heap.size, 1, none⟩ (.int .i64 (s2 - iv))) w.heap.size [.int .i64 s1, .int .i64 (s2 - iv), .slice (some ⟨g, 0, none⟩) l.length c] := A4.set 1 _
  have v0 := A5.c 0 rfl
  have v1 := A5.c 1 rfl
  have v2 := A5.c 2 rfl
  go_wp2_with fail
  clear y0 y1 y2 yf1 A4 v0 v1 v2 A5
  obtain ⟨V, hV⟩ : ∃ V, V = (((w2.setCell ⟨w.heap.size, 0, none⟩ (.int .i64 s1)).setCell ⟨w.heap.size, 1, none⟩ (.int .i64 s2)).setCell ⟨w.heap.size, 2, none⟩ (.slice (some ⟨g, 0, none⟩) l.length c)).setCell ⟨w.heap.size, 1, none⟩ (.int .i64 (s2 - iv)) := ⟨_, rfl⟩
  have hB4 : Below w.heap.size w V := by rw [hV]; exact (((hB3.setCell (p := ⟨w.heap.size, 0, none⟩) (by simp) _).setCell (p := ⟨w.heap.size, 1, none⟩) (by simp) _).setCell (p := ⟨w.heap.size, 2, none⟩) (by simp) _).setCell (p := ⟨w.heap.size, 1, none⟩) (by simp) _
  have R4 : Bx V (w.heap.size + 1) [.int .i64 0, .int .i64 0, .slice none 0 0] := by rw [hV]; exact (((R3.other (by simp) _).other (by simp) _).other (by simp) _).other (by simp) _
  have F4 : Hid (kN.Fresh (w.heap.size + 1 + 1) V.heap.size V (some ⟨g, 0, none⟩) c l) := by rw [hV]; exact ((((HF.out.setBelow (a := ⟨w.heap.size, 0, none⟩) (by simp; omega) _).setBelow (a := ⟨w.heap.size, 1, none⟩) (by simp; omega) _).setBelow (a := ⟨w.heap.size, 2, none⟩) (by simp; omega) _).setBelow (a := ⟨w.heap.size, 1, none⟩) (by simp; omega) _).wide (Nat.le_refl _) (by simp)
  have hs4 : w.heap.size + 1 + 1 ≤ V.heap.size := by rw [hV]; simp; omega
  have HI4 := hid F4.out.in
  rw [← hV]
  clear hV r0 r1 r2 rf0 rf1 rf2
  refine (l5Let_any s1 (s2 - iv) (some ⟨g, 0, none⟩) c l _ HL30.out hgc (by simp) ⟨by omega, by omega⟩ ⟨by omega, by omega⟩ HMM.out HI4.out).mono ?_
  rintro e w5 ⟨⟨o, c5, o', c', rfl, hF5, hN5⟩, hb5⟩
  rw [HLR.out] at hF5 hN5 ⊢
  dsimp only at hF5 hN5 ⊢
  have hB5 := hB4.trans (hb5.mono hB4.size)
  have R5 := R4.later hb5
  have F5 : Hid (kN.Fresh (w.heap.size + 1 + 1) w5.heap.size w5 o c5 L1) := hF5.wide hs4 (Nat.le_refl _)
  have N5 : Hid (kI.Fresh (w.heap.size + 1 + 1) w5.heap.size w5 o' c' L2) := hN5.wide hs4 (Nat.le_refl _)
  clear hb5 hF5 hN5
  have r0 := R5.c 0 rfl
  have rf0 := R5.f 0 rfl
  have r1 := R5.c 1 rfl
  have rf1 := R5.f 1 rfl
  have r2 := R5.c 2 rfl
  have rf2 := R5.f 2 rfl
  go_wp2
  refine bodyPost_ret (v := .tuple #[.agg #[.int .i64 s1, .int .i64 U1, .slice o L1.length c5], .slice o' L2.length c', .int .i64 0]) (by simp [results, Try.results11, go_sem, r0, r1, r2]) rfl ?_
  rw [HR.out]
  exact ⟨⟨o, c5, o', c', rfl, (((F5.out.setBelow (a := ⟨w.heap.size + 1, 0, none⟩) (by simp) _).setBelow (a := ⟨w.heap.size + 1, 1, none⟩) (by simp) _).setBelow (a := ⟨w.heap.size + 1, 2, none⟩) (by simp) _).wide (by omega) (by simp), (((N5.out.setBelow (a := ⟨w.heap.size + 1, 0, none⟩) (by simp) _).setBelow (a := ⟨w.heap.size + 1, 1, none⟩) (by simp) _).setBelow (a := ⟨w.heap.size + 1, 2, none⟩) (by simp) _).wide (by omega) (by simp)⟩, (((hB5.setCell (p := ⟨w.heap.size + 1, 0, none⟩) (by simp) _).setCell (p := ⟨w.heap.size + 1, 1, none⟩) (by simp) _).setCell (p := ⟨w.heap.size + 1, 2, none⟩) (by simp) _)⟩
end
section
open Go.RowKit

set_option maxRecDepth 10000 in
set_option maxHeartbeats 8000000 in
theorem l5Let_own (s1 s2 : Int) (ao : Option Addr) (cap : Nat) (l : List (Int × Int)) (w : World) (hl : l.length ≤ 30) (hcap : l.length ≤ cap) (hno : ao = none → cap = 0) (h1 : 1 ≤ s1 ∧ s1 ≤ 1000) (h2 : 0 ≤ s2 ∧ s2 ≤ s1) (hm : ∀ j, j < l.length → manyB s1 (el l j) = true) (hz : kN.In w.heap.size w ao l) :
    Calls Try.prog 32 #[.agg #[.int .i64 s1, .int .i64 s2, .slice ao l.length cap]] w fun e w' => AnsMo w s1 (letR s1 s2 l) e w' := by
  have HM := hid hm
  clear hm
  have hB0 := below2 w (.cells #[.int .i64 s1, .int .i64 s2, .slice ao l.length cap] 34) (.cells #[.int .i64 0, .int .i64 0, .slice none 0 0] 34)
  have X0 : Hid (Bx ((w.alloc (.cells #[.int .i64 s1, .int .i64 s2, .slice ao l.length cap] 34)).alloc (.cells #[.int .i64 0, .int .i64 0, .slice none 0 0] 34)) w.heap.size [.int .i64 s1, .int .i64 s2, .slice ao l.length cap]) := (Bx.new [.int .i64 s1, .int .i64 s2, .slice ao l.length cap] _ rfl).alloc _
  have R0 : Hid (Bx ((w.alloc (.cells #[.int .i64 s1, .int .i64 s2, .slice ao l.length cap] 34)).alloc (.cells #[.int .i64 0, .int .i64 0, .slice none 0 0] 34)) (w.heap.size + 1) [.int .i64 0, .int .i64 0, .slice none 0 0]) := Bx.new [.int .i64 0, .int .i64 0, .slice none 0 0] _ (by simp)
  go_enter Try.func32, Try.ntmps32
  go_wp2
  go_loopw [5] (fun z wr => ∃ (j : Nat) (u : Int) (v : Value) (qo : Option Addr) (qc : Nat) (D : List (Int × Int)), v = z ∧ Hid (D = l.drop j) ∧ j ≤ l.length ∧ (0 ≤ u ∧ u ≤ s1) ∧ Hid (LetAt s1 s2 l j u) ∧ Hid (Bx wr w.heap.size [.int .i64 s1, .int .i64 u, .slice qo D.length qc]) ∧ Hid (Bx wr (w.heap.size + 1) [.int .i64 0, .int .i64 0, .slice none 0 0]) ∧ Hid (kN.In w.heap.size w qo D) ∧ D.length ≤ qc ∧ Hid (qo = none → qc = 0) ∧ Hid (kI.Own (w.heap.size + 1 + 1) wr v (tasksOf (l.take j))) ∧ Below w.heap.size w wr ∧ w.heap.size + 1 + 1 ≤ wr.heap.size) (fun _ wr => lenAt wr w.heap.size 2)
  case atStart => exact ⟨0, s2, _, ao, cap, l, rfl, rfl, Nat.zero_le _, h2, LetAt.zero _ _ _, X0, R0, hz, hcap, hno, Kind.Own.nil kI _ _, hB0, by simp⟩
  case round =>
    obtain ⟨j, u, v, qo, qc, D, rfl, HD0, hj, hu, hL, hX, hR, hI, hqc, hqn, hO, hB, hsz⟩ := hrel
    have x0 := hX.out.c 0 rfl
    have x1 := hX.out.c 1 rfl
    have x2 := hX.out.c 2 rfl
    have xf1 := hX.out.f 1 rfl
    have xf2 := hX.out.f 2 rfl
    have HX2 := hid x2
    have hdl : D.length ≤ 1048576 := by rw [HD0.out]; simp; omega
    by_cases hD : D.length = 0
    · -- nobody waits
      have HFB : Hid (firstB s1 u D = false) := by simp [Hid, firstB, hD]
      have HD := hid (hL.out.done (by rw [← HD0.out]; exact HFB.out))
      rw [← HD0.out] at HD
      obtain rfl : D = [] := List.length_eq_zero_iff.1 hD
      clear hD
      go_wp2
      go_quiet (fail)
      go_wp2_with fail
      have hBd : Below w.heap.size w (wr.drewN nq) := below_draws hB _
      refine (l5Own_own s1 u qo qc ([] : List (Int × Int)) _ hdl hqn.out (by exact hI.out.later hBd)).mono ?_
      rintro e w2 ⟨⟨g, c, rfl, hF2, _⟩, hb2⟩
      have hB3 := hBd.trans (hb2.mono hBd.size)
      have R3 : Bx w2 (w.heap.size + 1) [.int .i64 0, .int .i64 0, .slice none 0 0] := Bx.later (W := wr.drewN nq) hR.out hb2
      obtain ⟨no, nc, rfl, _, hN⟩ := hO.out.fresh
      have F3 := hid hF2
      have N3 : Hid (kI.Fresh (w.heap.size + 1 + 1) w2.heap.size w2 no nc (tasksOf (l.take j))) := (Kind.Fresh.later (W := wr.drewN nq) hN hb2).wide (Nat.le_refl _) hb2.size
      have hs2 : wr.heap.size ≤ w2.heap.size := hb2.size
      have F4 : Hid (kN.FrO (w.heap.size + 1 + 1) w2.heap.size w2 (some ⟨g, 0, none⟩) c ([] : List (Int × Int))) := F3.out.wide hsz (Nat.le_refl _)
      clear hb2 hN hF2 x0 x1 x2 F3
      have r0 := R3.c 0 rfl
      have r1 := R3.c 1 rfl
      have r2 := R3.c 2 rfl
      have rf0 := R3.f 0 rfl
      have rf1 := R3.f 1 rfl
      have rf2 := R3.f 2 rfl
      go_wp2
      refine bodyPost_ret (v := .tuple #[.agg #[.int .i64 s1, .int .i64 u, .slice (some ⟨g, 0, none⟩) ([] : List (Int × Int)).length c], .slice no (tasksOf (l.take j)).length nc, .int .i64 0]) (by simp [results, Try.results32, go_sem, r0, r1, r2]) rfl ?_
      rw [HD.out]
      exact ⟨⟨_, c, no, nc, rfl, (((F4.out.setBelow (a := ⟨w.heap.size + 1, 0, none⟩) (by simp) _).setBelow (a := ⟨w.heap.size + 1, 1, none⟩) (by simp) _).setBelow (a := ⟨w.heap.size + 1, 2, none⟩) (by simp) _).wide (by omega) (by simp), (((N3.out.setBelow (a := ⟨w.heap.size + 1, 0, none⟩) (by simp) _).setBelow (a := ⟨w.heap.size + 1, 1, none⟩) (by simp) _).setBelow (a := ⟨w.heap.size + 1, 2, none⟩) (by simp) _).wide (by omega) (by simp)⟩, ((hB3.setCell (p := ⟨w.heap.size + 1, 0, none⟩) (by simp) _).setCell (p := ⟨w.heap.size + 1, 1, none⟩) (by simp) _).setCell (p := ⟨w.heap.size + 1, 2, none⟩) (by simp) _⟩
    · have hpos : 0 < D.length := by omega
      obtain ⟨z1, z2⟩ := len1 hD
      obtain ⟨b, off, rfl, hb, hc⟩ := kN_at hI.out hpos
      have hjl : j < l.length := by have : D.length = l.length - j := by rw [HD0.out]; simp
                                    omega
      obtain ⟨⟨y1, y2⟩, ey⟩ : ∃ v, v = el D 0 := ⟨_, rfl⟩
      have d1 := (hB.cell (p := ⟨b, off + 0 * 2, none⟩) hb).trans (hc 0 hpos).1
      have d2 := (hB.cell (p := ⟨b, off + 0 * 2 + 1, none⟩) hb).trans (hc 0 hpos).2
      rw [Nat.zero_mul, Nat.add_zero, ← ey] at d1 d2
      have HY : Hid (el l j = (y1, y2)) := by rw [Hid, ey, HD0.out, el_drop, Nat.add_zero]
      have HED := hid ey
      have hbw : b < wr.heap.size := Nat.lt_of_lt_of_le hb hB.size
      clear ey hc hD
      dsimp only at d1 d2
      have hmb := HM.out j hjl
      rw [HY.out] at hmb
      have hy2 : 1 ≤ y2 ∧ y2 ≤ 1000 := by simp [manyB] at hmb; omega
      clear hmb
      by_cases hml : y2 ≤ s1 - u
      · have hml' : decide (y2 ≤ s1 - u) = true := by simpa using hml
        have HST := hid (hL.out.step hjl (by rw [HY.out]; exact hml))
        rw [HY.out] at HST
        go_wp2
        go_quiet (fail)
        obtain ⟨W1, hW1⟩ : ∃ W1, W1 = wr.drewN nq := ⟨_, rfl⟩
        have X1 : Hid (Bx W1 w.heap.size [.int .i64 s1, .int .i64 u, .slice (some ⟨b, off, none⟩) D.length qc]) := by rw [hW1]; exact hX.out
        have R1 : Hid (Bx W1 (w.heap.size + 1) [.int .i64 0, .int .i64 0, .slice none 0 0]) := by rw [hW1]; exact hR.out
        have O1 : Hid (kI.Own (w.heap.size + 1 + 1) W1 v (tasksOf (l.take j))) := by rw [hW1]; exact hO.out
        have hB1 : Below w.heap.size w W1 := by rw [hW1]; exact below_draws hB _
        have e1 : W1.cell? ⟨b, off, none⟩ = some (.int .i64 y1) := by rw [hW1]; exact d1
        have e2 : W1.cell? ⟨b, off + 1, none⟩ = some (.int .i64 y2) := by rw [hW1]; exact d2
        have hs1 : w.heap.size + 1 + 1 ≤ W1.heap.size := by rw [hW1]; exact hsz
        rw [← hW1]
        clear hW1 hX hR hO x0 x1 x2 xf1 xf2 d1 d2 hbw
        have x0 := X1.out.c 0 rfl
        have x1 := X1.out.c 1 rfl
        have x2 := X1.out.c 2 rfl
        have xf1 := X1.out.f 1 rfl
        have xf2 := X1.out.f 2 rfl
        go_wp2
        go_region
        obtain ⟨V, hV⟩ : ∃ V, V = (W1.setCell ⟨w.heap.size, 1, none⟩ (.int .i64 (u + y2))).drew := ⟨_, rfl⟩
        have X2 : Bx V w.heap.size [.int .i64 s1, .int .i64 (u + y2), .slice (some ⟨b, off, none⟩) D.length qc] := by rw [hV]; exact (X1.out.set 1 (.int .i64 (u + y2))).drew
        have R2 : Bx V (w.heap.size + 1) [.int .i64 0, .int .i64 0, .slice none 0 0] := by rw [hV]; exact (R1.out.other (by simp) _).drew
        have O2 : Hid (kI.Own (w.heap.size + 1 + 1) V v (tasksOf (l.take j))) := by rw [hV]; exact O1.out.setBelow (by simp; omega) _
        have hB2 : Below w.heap.size w V := by rw [hV]; exact (hB1.setCell (p := ⟨w.heap.size, 1, none⟩) (by simp) _).drew
        have f1 : V.cell? ⟨b, off, none⟩ = some (.int .i64 y1) := (hB2.cell (p := ⟨b, off, none⟩) hb).trans ((hB1.cell (p := ⟨b, off, none⟩) hb).symm.trans e1)
        have hs2 : w.heap.size + 1 + 1 ≤ V.heap.size := by rw [hV]; simpa using hs1
        rw [← hV]
        clear hV X1 R1 O1 x0 x1 x2 xf1 xf2 e1 e2
        have x0 := X2.c 0 rfl
        have x1 := X2.c 1 rfl
        have x2 := X2.c 2 rfl
        have xf2 := X2.f 2 rfl
        have hbV : b < V.heap.size := Nat.lt_of_lt_of_le hb hB2.size
        have hBV : w.heap.size < V.heap.size := X2.size
        have hn3 := below1 V (.cells #[.int .i64 y1] 3)
        have X3 := hid (X2.later hn3)
        have R3 := hid (R2.later hn3)
        have HA : Hid (kI.Own (w.heap.size + 1 + 1) (V.alloc (.cells #[.int .i64 y1] 3)) v (tasksOf (l.take j))) := O2.out.below hn3
        have HN : Hid (kI.In (V.heap.size + 1) (V.alloc (.cells #[.int .i64 y1] 3)) (some ⟨V.heap.size, 0, none⟩) [y1]) := int_one (by omega) (by simp)
        have hll : (tasksOf (l.take j)).length + 1 ≤ 4194304 := by rw [tasksOf_len]; simp; omega
        have hB3 := Below.allocS hB2 (.cells #[.int .i64 y1] 3)
        have hq1 : 1 ≤ qc := by omega
        have hq1' : (1 : Int) ≤ (qc : Int) := by omega
        have hq2' : (1 : Int) ≤ (D.length : Int) := by omega
        clear hn3 O2
        go_wp2_with (at_builtin; refine Kind.app kI_ok (V.alloc (.cells #[.int .i64 y1] 3)) rfl (.tmp 32) (.tmp 38) rfl (w.heap.size + 1 + 1) v (tasksOf (l.take j)) rfl HA.out (by simp; omega) (some ⟨V.heap.size, 0, none⟩) [y1] 1 1 rfl rfl (by simp) _ HN.out hll ?_; intro v' w' hO' hB' hG' hn'; have hB4 : Below w.heap.size w w' := hB3.trans (hB'.mono (by omega)); have hs4 : w.heap.size + 1 + 1 ≤ w'.heap.size := (by have := hB'.size; simp at this; omega); have X4 := X3.out.below hB' (by omega); have R4 := R3.out.below hB' (by omega); have O4 : Hid (kI.Own (w.heap.size + 1 + 1) w' v' (tasksOf (l.take (j + 1)))) := (by rw [Hid, tasksOf_succ hjl, HY.out]; exact hO'); clear hO' hB' hG' hn' x0 x1 x2 xf2 X3 R3; have x0 := X4.c 0 rfl; have x1 := X4.c 1 rfl; have x2 := X4.c 2 rfl; have xf2 := X4.f 2 rfl)
        have hDl : D.length = l.length - j := by rw [HD0.out]; simp
        have hlen : (l.drop (j + 1)).length = D.length - 1 := by rw [hDl]; simp; omega
        obtain ⟨qo', hqo'⟩ : ∃ q : Option Addr, q = (if qc = 1 then some ⟨b, off, none⟩ else some ⟨b, off + 2, none⟩) := ⟨_, rfl⟩
        have hIn : kN.In w.heap.size w qo' (l.drop (j + 1)) := by
          by_cases hq : qc = 1
          · exact .inl (List.length_eq_zero_iff.1 (by rw [hlen]; omega))
          · rw [hqo', if_neg hq]
            have h := hI.out.drop 1
            rw [HD0.out, List.drop_drop] at h
            exact h
        have hqn' : qo' = none → qc - 1 = 0 := by intro h; rw [hqo'] at h; split at h <;> cases h
        rw [← hqo']
        refine ⟨⟨j + 1, u + y2, v', qo', qc - 1, l.drop (j + 1), rfl, rfl, by omega, ⟨by omega, by omega⟩, HST, ?_, ?_, hIn, by omega, hqn', ?_, ?_, ?_⟩, ?_⟩
        · rw [hlen]; exact hid (X4.set 2 _)
        · exact hid (R4.other (by simp) _)
        · exact hid (O4.out.setBelow (by simp; omega) _)
        · exact hB4.setCell (p := ⟨w.heap.size, 2, none⟩) (by simp) _
        · simpa using hs4
        · rw [lenAt_eq ((X4.set 2 (.slice qo' (D.length - 1) (qc - 1))).c 2 rfl), lenAt_eq HX2.out]
          omega
      · have hml' : decide (y2 ≤ s1 - u) = false := by simpa using hml
        have HFB : Hid (firstB s1 u D = false) := by rw [Hid, firstB, ← HED.out]; simp; omega
        have HD := hid (hL.out.done (by rw [← HD0.out]; exact HFB.out))
        rw [← HD0.out] at HD
        clear hml
        go_wp2
        go_quiet (fail)
        go_wp2_with fail
        have hBd : Below w.heap.size w (wr.drewN nq) := below_draws hB _
        refine (l5Own_own s1 u (some ⟨b, off, none⟩) qc D _ hdl hqn.out (by exact hI.out.later hBd)).mono ?_
        rintro e w2 ⟨⟨g, c, rfl, hF2, _⟩, hb2⟩
        have hB3 := hBd.trans (hb2.mono hBd.size)
        have R3 : Bx w2 (w.heap.size + 1) [.int .i64 0, .int .i64 0, .slice none 0 0] := Bx.later (W := wr.drewN nq) hR.out hb2
        obtain ⟨no, nc, rfl, _, hN⟩ := hO.out.fresh
        have F3 := hid hF2
        have N3 : Hid (kI.Fresh (w.heap.size + 1 + 1) w2.heap.size w2 no nc (tasksOf (l.take j))) := (Kind.Fresh.later (W := wr.drewN nq) hN hb2).wide (Nat.le_refl _) hb2.size
        have hs2 : wr.heap.size ≤ w2.heap.size := hb2.size
        have F4 : Hid (kN.FrO (w.heap.size + 1 + 1) w2.heap.size w2 (some ⟨g, 0, none⟩) c D) := F3.out.wide hsz (Nat.le_refl _)
        clear hb2 hN hF2 x0 x1 x2 F3
        have r0 := R3.c 0 rfl
        have r1 := R3.c 1 rfl
        have r2 := R3.c 2 rfl
        have rf0 := R3.f 0 rfl
        have rf1 := R3.f 1 rfl
        have rf2 := R3.f 2 rfl
        go_wp2
        refine bodyPost_ret (v := .tuple #[.agg #[.int .i64 s1, .int .i64 u, .slice (some ⟨g, 0, none⟩) D.length c], .slice no (tasksOf (l.take j)).length nc, .int .i64 0]) (by simp [results, Try.results32, go_sem, r0, r1, r2]) rfl ?_
        rw [HD.out]
        exact ⟨⟨_, c, no, nc, rfl, (((F4.out.setBelow (a := ⟨w.heap.size + 1, 0, none⟩) (by simp) _).setBelow (a := ⟨w.heap.size + 1, 1, none⟩) (by simp) _).setBelow (a := ⟨w.heap.size + 1, 2, none⟩) (by simp) _).wide (by omega) (by simp), (((N3.out.setBelow (a := ⟨w.heap.size + 1, 0, none⟩) (by simp) _).setBelow (a := ⟨w.heap.size + 1, 1, none⟩) (by simp) _).setBelow (a := ⟨w.heap.size + 1, 2, none⟩) (by simp) _).wide (by omega) (by simp)⟩, ((hB3.setCell (p := ⟨w.heap.size + 1, 0, none⟩) (by simp) _).setCell (p := ⟨w.heap.size + 1, 1, none⟩) (by simp) _).setCell (p := ⟨w.heap.size + 1, 2, none⟩) (by simp) _⟩
end
section
open Go.RowKit

/-- A room, those that go and a code, its row its own. -/
def AnsRo (w : World) (R : RoomR) (e : Ending) (w' : World) : Prop :=
  (∃ o c o' c', e = .returned (.tuple #[.agg #[.int .i64 R.1, .int .i64 R.2.1, .slice o R.2.2.1.length c], .slice o' R.2.2.2.1.length c', .int .i64 R.2.2.2.2]) ∧ kN.FrO w.heap.size w'.heap.size w' o c R.2.2.1 ∧ kI.Fresh w.heap.size w'.heap.size w' o' c' R.2.2.2.1) ∧ Below w.heap.size w w'
set_option maxRecDepth 10000 in
set_option maxHeartbeats 4000000 in
theorem specGive_own (s1 s2 : Int) (ao : Option Addr) (cap : Nat) (l : List (Int × Int)) (iv : Int) (w : World) (hl : l.length ≤ 1048576) (hno : ao = none → cap = 0) (hz : kN.In w.heap.size w ao l) :
    Calls Try.prog 11 #[.agg #[.int .i64 s1, .int .i64 s2, .slice ao l.length cap], .int .i64 iv] w fun e w' => AnsRo w (giveR s1 s2 l iv) e w' := by
  obtain ⟨W2, hW2⟩ : ∃ W2, W2 = (w.alloc (.cells #[.int .i64 s1, .int .i64 s2, .slice ao l.length cap] 34)).alloc (.cells #[.int .i64 0, .int .i64 0, .slice none 0 0] 34) := ⟨_, rfl⟩
  have hB2 : Below w.heap.size w W2 := by rw [hW2]; exact below2 _ _ _
  have A2 : Bx W2 w.heap.size [.int .i64 s1, .int .i64 s2, .slice ao l.length cap] := by rw [hW2]; exact (Bx.new [.int .i64 s1, .int .i64 s2, .slice ao l.length cap] _ rfl).alloc _
  have R2 : Bx W2 (w.heap.size + 1) [.int .i64 0, .int .i64 0, .slice none 0 0] := by rw [hW2]; exact Bx.new [.int .i64 0, .int .i64 0, .slice none 0 0] _ (by simp)
  have HW := hid hW2
  have HS : Hid (W2.heap.size = w.heap.size + 1 + 1) := by rw [hW2]; simp [Hid]
  clear hW2
  cases hg : roomB s1 s2 l
  · have HG := hid hg
    have HR := hid (giveR_bad (k := iv) hg)
    clear hg
    go_enter Try.func11, Try.ntmps11
    go_wp2_with fail
    rw [← HW.out]
    refine (specGoodRoom_is s1 s2 ao cap l W2 false hl (hz.later hB2) HG.out).mono ?_
    rintro e w1 ⟨rfl, hb1⟩
    have hB1 := hB2.trans (hb1.mono hB2.size)
    have A1 := A2.later hb1
    have R1 := R2.later hb1
    have hs1 : w.heap.size + 1 + 1 ≤ w1.heap.size := by have := hb1.size; rw [HS.out] at this; exact this
    clear hb1 A2 R2
    have r0 := R1.c 0 rfl
    have rf0 := R1.f 0 rfl
    have r1 := R1.c 1 rfl
    have rf1 := R1.f 1 rfl
    have r2 := R1.c 2 rfl
    have rf2 := R1.f 2 rfl
    go_wp2
    refine bodyPost_ret (v := .tuple #[.agg #[.int .i64 0, .int .i64 0, .slice none 0 0], .slice none 0 0, .int .i64 2]) (by simp [results, Try.results11, go_sem, r0, r1, r2]) rfl ?_
    rw [HR.out]
    exact ⟨⟨none, 0, none, 0, rfl, Kind.FrO.nil, .inl rfl⟩, (((hB1.setCell (p := ⟨w.heap.size + 1, 0, none⟩) (by simp) _).setCell (p := ⟨w.heap.size + 1, 1, none⟩) (by simp) _).setCell (p := ⟨w.heap.size + 1, 2, none⟩) (by simp) _)⟩
  have HG := hid hg
  obtain ⟨g1, g2, g3, g4⟩ := roomB_good hg
  obtain ⟨q1, q2, q3, q4⟩ := sizesB_ok g1
  have HMM := hid g2
  have HL30 := hid (roomB_len hg)
  clear g1 g2 g3 g4
  cases hi : (decide (0 ≤ iv) && decide (iv ≤ s1))
  · have HI := hid hi
    have HR := hid (giveR_by (s2 := s2) (l := l) (show ¬ (0 ≤ iv ∧ iv ≤ s1) from by simp at hi; omega))
    clear hg hi
    go_enter Try.func11, Try.ntmps11
    go_wp2_with fail
    rw [← HW.out]
    refine (specGoodRoom_is s1 s2 ao cap l W2 true hl (hz.later hB2) HG.out).mono ?_
    rintro e w1 ⟨rfl, hb1⟩
    have hB1 := hB2.trans (hb1.mono hB2.size)
    have A1 := A2.later hb1
    have R1 := R2.later hb1
    have hs1 : w.heap.size + 1 + 1 ≤ w1.heap.size := by have := hb1.size; rw [HS.out] at this; exact this
    clear hb1 A2 R2
    have a0 := A1.c 0 rfl
    have af0 := A1.f 0 rfl
    have a1 := A1.c 1 rfl
    have af1 := A1.f 1 rfl
    have a2 := A1.c 2 rfl
    have af2 := A1.f 2 rfl
    go_wp2_with fail
    refine (l1In_is iv 0 s1 _ false HI.out).mono ?_
    rintro e w2 ⟨rfl, hw2⟩
    rw [hw2]
    clear hw2 w2 a0 a1 a2 af0 af1 af2
    have r0 := R1.c 0 rfl
    have rf0 := R1.f 0 rfl
    have r1 := R1.c 1 rfl
    have rf1 := R1.f 1 rfl
    have r2 := R1.c 2 rfl
    have rf2 := R1.f 2 rfl
    go_wp2
    refine bodyPost_ret (v := .tuple #[.agg #[.int .i64 0, .int .i64 0, .slice none 0 0], .slice none 0 0, .int .i64 2]) (by simp [results, Try.results11, go_sem, r0, r1, r2]) rfl ?_
    rw [HR.out]
    exact ⟨⟨none, 0, none, 0, rfl, Kind.FrO.nil, .inl rfl⟩, (((hB1.setCell (p := ⟨w.heap.size + 1, 0, none⟩) (by simp) _).setCell (p := ⟨w.heap.size + 1, 1, none⟩) (by simp) _).setCell (p := ⟨w.heap.size + 1, 2, none⟩) (by simp) _)⟩
  have HI := hid hi
  have hin : 0 ≤ iv ∧ iv ≤ s1 := by simp at hi; omega
  clear hi
  by_cases hc3 : s2 < iv
  · have HR := hid (giveR_below hg hin hc3)
    have hc3' : decide (s2 < iv) = true := by simpa using hc3
    clear hg
    go_enter Try.func11, Try.ntmps11
    go_wp2_with fail
    rw [← HW.out]
    refine (specGoodRoom_is s1 s2 ao cap l W2 true hl (hz.later hB2) HG.out).mono ?_
    rintro e w1 ⟨rfl, hb1⟩
    have hB1 := hB2.trans (hb1.mono hB2.size)
    have A1 := A2.later hb1
    have R1 := R2.later hb1
    have hs1 : w.heap.size + 1 + 1 ≤ w1.heap.size := by have := hb1.size; rw [HS.out] at this; exact this
    clear hb1 A2 R2
    have a0 := A1.c 0 rfl
    have af0 := A1.f 0 rfl
    have a1 := A1.c 1 rfl
    have af1 := A1.f 1 rfl
    have a2 := A1.c 2 rfl
    have af2 := A1.f 2 rfl
    go_wp2_with fail
    refine (l1In_is iv 0 s1 _ true HI.out).mono ?_
    rintro e w2 ⟨rfl, hw2⟩
    rw [hw2]
    clear hw2 w2 a0 a1 a2 af0 af1 af2
    have a0 := A1.c 0 rfl
    have af0 := A1.f 0 rfl
    have a1 := A1.c 1 rfl
    have af1 := A1.f 1 rfl
    have a2 := A1.c 2 rfl
    have af2 := A1.f 2 rfl
    go_wp2_with fail
    refine (l5Own_own s1 s2 ao cap l w1 hl hno (hz.later hB1)).mono ?_
    rintro e w2 ⟨⟨g, c, rfl, hF, _⟩, hb⟩
    have A3 := A1.later hb
    have R3 := R1.later hb
    have hB3 := hB1.trans (hb.mono hB1.size)
    have hs3 := hb.size
    have HF : Hid (kN.FrO (w.heap.size + 1 + 1) w2.heap.size w2 (some ⟨g, 0, none⟩) c l) := hF.wide hs1 (Nat.le_refl _)
    have hgc := hF.cap
    clear hb hF a0 a1 a2 af0 af1 af2 A1 R1
    have a0 := A3.c 0 rfl
    have af0 := A3.f 0 rfl
    have a1 := A3.c 1 rfl
    have af1 := A3.f 1 rfl
    have a2 := A3.c 2 rfl
    have af2 := A3.f 2 rfl
    have r0 := R3.c 0 rfl
    have rf0 := R3.f 0 rfl
    have r1 := R3.c 1 rfl
    have rf1 := R3.f 1 rfl
    have r2 := R3.c 2 rfl
    have rf2 := R3.f 2 rfl
    go_wp2
    refine bodyPost_ret (v := .tuple #[.agg #[.int .i64 s1, .int .i64 s2, .slice (some ⟨g, 0, none⟩) l.length c], .slice none 0 0, .int .i64 3]) (by simp [results, Try.results11, go_sem, r0, r1, r2]) rfl ?_
    rw [HR.out]
    exact ⟨⟨_, c, none, 0, rfl, ((((((HF.out.setBelow (a := ⟨w.heap.size, 0, none⟩) (by simp; omega) _).setBelow (a := ⟨w.heap.size, 1, none⟩) (by simp; omega) _).setBelow (a := ⟨w.heap.size, 2, none⟩) (by simp; omega) _).setBelow (a := ⟨w.heap.size + 1, 0, none⟩) (by simp) _).setBelow (a := ⟨w.heap.size + 1, 1, none⟩) (by simp) _).setBelow (a := ⟨w.heap.size + 1, 2, none⟩) (by simp) _).wide (by omega) (by simp), .inl rfl⟩, ((((((hB3.setCell (p := ⟨w.heap.size, 0, none⟩) (by simp) _).setCell (p := ⟨w.heap.size, 1, none⟩) (by simp) _).setCell (p := ⟨w.heap.size, 2, none⟩) (by simp) _).setCell (p := ⟨w.heap.size + 1, 0, none⟩) (by simp) _).setCell (p := ⟨w.heap.size + 1, 1, none⟩) (by simp) _).setCell (p := ⟨w.heap.size + 1, 2, none⟩) (by simp) _)⟩
  have hc3' : decide (s2 < iv) = false := by simpa using hc3
  obtain ⟨⟨U1, L1, L2⟩, eR⟩ : ∃ r, letR s1 (s2 - iv) l = r := ⟨_, rfl⟩
  have HLR := hid eR
  have HR : Hid (giveR s1 s2 l iv = (s1, U1, L1, L2, 0)) := by rw [Hid, giveR_done hg hin hc3, eR]
  clear hg eR
  go_enter Try.func11, Try.ntmps11
  go_wp2_with fail
  rw [← HW.out]
  refine (specGoodRoom_is s1 s2 ao cap l W2 true hl (hz.later hB2) HG.out).mono ?_
  rintro e w1 ⟨rfl, hb1⟩
  have hB1 := hB2.trans (hb1.mono hB2.size)
  have A1 := A2.later hb1
  have R1 := R2.later hb1
  have hs1 : w.heap.size + 1 + 1 ≤ w1.heap.size := by have := hb1.size; rw [HS.out] at this; exact this
  clear hb1 A2 R2
  have a0 := A1.c 0 rfl
  have af0 := A1.f 0 rfl
  have a1 := A1.c 1 rfl
  have af1 := A1.f 1 rfl
  have a2 := A1.c 2 rfl
  have af2 := A1.f 2 rfl
  go_wp2_with fail
  refine (l1In_is iv 0 s1 _ true HI.out).mono ?_
  rintro e w2 ⟨rfl, hw2⟩
  rw [hw2]
  clear hw2 w2 a0 a1 a2 af0 af1 af2
  have a0 := A1.c 0 rfl
  have af0 := A1.f 0 rfl
  have a1 := A1.c 1 rfl
  have af1 := A1.f 1 rfl
  have a2 := A1.c 2 rfl
  have af2 := A1.f 2 rfl
  go_wp2_with fail
  refine (l5Own_own s1 s2 ao cap l w1 hl hno (hz.later hB1)).mono ?_
  rintro e w2 ⟨⟨g, c, rfl, hF, _⟩, hb⟩
  have A3 := A1.later hb
  have R3 := R1.later hb
  have hB3 := hB1.trans (hb.mono hB1.size)
  have hs3 := hb.size
  have HF : Hid (kN.FrO (w.heap.size + 1 + 1) w2.heap.size w2 (some ⟨g, 0, none⟩) c l) := hF.wide hs1 (Nat.le_refl _)
  have hgc := hF.cap
  clear hb hF a0 a1 a2 af0 af1 af2 A1 R1
  have a0 := A3.c 0 rfl
  have af0 := A3.f 0 rfl
  have a1 := A3.c 1 rfl
  have af1 := A3.f 1 rfl
  have a2 := A3.c 2 rfl
  have af2 := A3.f 2 rfl
  have r0 := R3.c 0 rfl
  have rf0 := R3.f 0 rfl
  have r1 := R3.c 1 rfl
  have rf1 := R3.f 1 rfl
  have r2 := R3.c 2 rfl
  have rf2 := R3.f 2 rfl
  have A4 : Bx (((w2.setCell ⟨w.heap.size, 0, none⟩ (.int .i64 s1)).setCell ⟨w.heap.size, 1, none⟩ (.int .i64 s2)).setCell ⟨w.heap.size, 2, none⟩ (.slice (some ⟨g, 0, none⟩) l.length c)) w.heap.size [.int .i64 s1, .int .i64 s2, .slice (some ⟨g, 0, none⟩) l.length c] := ((A3.set 0 _).set 1 _).set 2 _
  have y0 := A4.c 0 rfl
  have y1 := A4.c 1 rfl
  have y2 := A4.c 2 rfl
  have yf1 := A4.f 1 rfl
  have A5 : Bx ((((w2.setCell ⟨w.heap.size, 0, none⟩ (.int .i64 s1)).setCell ⟨w.heap.size, 1, none⟩ (.int .i64 s2)).setCell ⟨w.heap.size, 2, none⟩ (.slice (some ⟨g, 0, none⟩) l.length c)).setCell ⟨w.heap.size, 1, none⟩ (.int .i64 (s2 - iv))) w.heap.size [.int .i64 s1, .int .i64 (s2 - iv), .slice (some ⟨g, 0, none⟩) l.length c] := A4.set 1 _
  have v0 := A5.c 0 rfl
  have v1 := A5.c 1 rfl
  have v2 := A5.c 2 rfl
  go_wp2_with fail
  clear y0 y1 y2 yf1 A4 v0 v1 v2 A5
  obtain ⟨V, hV⟩ : ∃ V, V = (((w2.setCell ⟨w.heap.size, 0, none⟩ (.int .i64 s1)).setCell ⟨w.heap.size, 1, none⟩ (.int .i64 s2)).setCell ⟨w.heap.size, 2, none⟩ (.slice (some ⟨g, 0, none⟩) l.length c)).setCell ⟨w.heap.size, 1, none⟩ (.int .i64 (s2 - iv)) := ⟨_, rfl⟩
  have hB4 : Below w.heap.size w V := by rw [hV]; exact (((hB3.setCell (p := ⟨w.heap.size, 0, none⟩) (by simp) _).setCell (p := ⟨w.heap.size, 1, none⟩) (by simp) _).setCell (p := ⟨w.heap.size, 2, none⟩) (by simp) _).setCell (p := ⟨w.heap.size, 1, none⟩) (by simp) _
  have R4 : Bx V (w.heap.size + 1) [.int .i64 0, .int .i64 0, .slice none 0 0] := by rw [hV]; exact (((R3.other (by simp) _).other (by simp) _).other (by simp) _).other (by simp) _
  have F4 : Hid (kN.FrO (w.heap.size + 1 + 1) V.heap.size V (some ⟨g, 0, none⟩) c l) := by rw [hV]; exact ((((HF.out.setBelow (a := ⟨w.heap.size, 0, none⟩) (by simp; omega) _).setBelow (a := ⟨w.heap.size, 1, none⟩) (by simp; omega) _).setBelow (a := ⟨w.heap.size, 2, none⟩) (by simp; omega) _).setBelow (a := ⟨w.heap.size, 1, none⟩) (by simp; omega) _).wide (Nat.le_refl _) (by simp)
  have hs4 : w.heap.size + 1 + 1 ≤ V.heap.size := by rw [hV]; simp; omega
  have HI4 := hid F4.out.in
  rw [← hV]
  clear hV r0 r1 r2 rf0 rf1 rf2
  refine (l5Let_own s1 (s2 - iv) (some ⟨g, 0, none⟩) c l _ HL30.out hgc (by simp) ⟨by omega, by omega⟩ ⟨by omega, by omega⟩ HMM.out HI4.out).mono ?_
  rintro e w5 ⟨⟨o, c5, o', c', rfl, hF5, hN5⟩, hb5⟩
  rw [HLR.out] at hF5 hN5 ⊢
  dsimp only at hF5 hN5 ⊢
  have hB5 := hB4.trans (hb5.mono hB4.size)
  have R5 := R4.later hb5
  have F5 : Hid (kN.FrO (w.heap.size + 1 + 1) w5.heap.size w5 o c5 L1) := hF5.wide hs4 (Nat.le_refl _)
  have N5 : Hid (kI.Fresh (w.heap.size + 1 + 1) w5.heap.size w5 o' c' L2) := hN5.wide hs4 (Nat.le_refl _)
  clear hb5 hF5 hN5
  have r0 := R5.c 0 rfl
  have rf0 := R5.f 0 rfl
  have r1 := R5.c 1 rfl
  have rf1 := R5.f 1 rfl
  have r2 := R5.c 2 rfl
  have rf2 := R5.f 2 rfl
  go_wp2
  refine bodyPost_ret (v := .tuple #[.agg #[.int .i64 s1, .int .i64 U1, .slice o L1.length c5], .slice o' L2.length c', .int .i64 0]) (by simp [results, Try.results11, go_sem, r0, r1, r2]) rfl ?_
  rw [HR.out]
  exact ⟨⟨o, c5, o', c', rfl, (((F5.out.setBelow (a := ⟨w.heap.size + 1, 0, none⟩) (by simp) _).setBelow (a := ⟨w.heap.size + 1, 1, none⟩) (by simp) _).setBelow (a := ⟨w.heap.size + 1, 2, none⟩) (by simp) _).wide (by omega) (by simp), (((N5.out.setBelow (a := ⟨w.heap.size + 1, 0, none⟩) (by simp) _).setBelow (a := ⟨w.heap.size + 1, 1, none⟩) (by simp) _).setBelow (a := ⟨w.heap.size + 1, 2, none⟩) (by simp) _).wide (by omega) (by simp)⟩, (((hB5.setCell (p := ⟨w.heap.size + 1, 0, none⟩) (by simp) _).setCell (p := ⟨w.heap.size + 1, 1, none⟩) (by simp) _).setCell (p := ⟨w.heap.size + 1, 2, none⟩) (by simp) _)⟩
end
section
open Go.RowKit

/-- Those that wait, without a task. -/
def outN (l : List (Int × Int)) (t : Int) : List (Int × Int) := l.filter (fun x => x.1 != t)
theorem outN_snoc (l : List (Int × Int)) (t : Int) (x : Int × Int) : outN (l ++ [x]) t = if x.1 = t then outN l t else outN l t ++ [x] := by
  rw [outN, List.filter_append]
  by_cases e : x.1 = t <;> simp [outN, e]
theorem outN_len (l : List (Int × Int)) (t : Int) : (outN l t).length ≤ l.length := List.length_filter_le _ _
theorem outN_many {s1 : Int} {l : List (Int × Int)} {t : Int} (h : ∀ j, j < l.length → manyB s1 (el l j) = true) : ∀ j, j < (outN l t).length → manyB s1 (el (outN l t) j) = true := fun j hj => by
  have hm : el (outN l t) j ∈ l := (List.mem_filter.1 (el_mem hj)).1
  obtain ⟨i, hi, e⟩ := mem_el hm
  rw [← e]; exact h i hi
theorem outN_none : ∀ (l : List (Int × Int)) (t : Int), t ∉ tasksOf l → outN l t = l
  | [], _, _ => rfl
  | x :: r, t, h => by
    simp only [tasksOf, List.map_cons, List.mem_cons, not_or] at h
    have h2 := outN_none r t (by simpa [tasksOf] using h.2)
    unfold outN at h2 ⊢
    rw [List.filter_cons, if_pos (by simpa using fun e : x.1 = t => h.1 e.symm), h2]
theorem outN_idx : ∀ (l : List (Int × Int)) (t : Int), (tasksOf l).Nodup → t ∈ tasksOf l → outN l t = l.take ((tasksOf l).idxOf t) ++ l.drop ((tasksOf l).idxOf t + 1)
  | [], _, _, h => by simp [tasksOf] at h
  | x :: r, t, hn, h => by
    have hn' : x.1 ∉ tasksOf r ∧ (tasksOf r).Nodup := by simpa [tasksOf] using hn
    by_cases e : x.1 = t
    · subst e
      have h2 := outN_none r x.1 hn'.1
      unfold outN at h2 ⊢
      rw [List.filter_cons, if_neg (by simp), h2]
      simp [tasksOf]
    · have hm : t ∈ tasksOf r := by
        simp only [tasksOf, List.map_cons, List.mem_cons] at h
        rcases h with h | h
        · exact absurd h.symm e
        · exact h
      have h2 := outN_idx r t hn'.2 hm
      have e' : (x.1 == t) = false := by simpa using e
      have hi : (tasksOf (x :: r)).idxOf t = (tasksOf r).idxOf t + 1 := by
        show (x.1 :: tasksOf r).idxOf t = _
        rw [List.idxOf_cons, e']; rfl
      rw [hi]
      unfold outN at h2 ⊢
      rw [List.filter_cons, if_pos (by simpa using e), h2]
      simp
theorem lineB_nodup {q : List Int} (h : lineB q = true) : q.Nodup := by
  simp [lineB] at h; exact h.2.2
/-- What LeaveRoom answers. -/
def leaveR (s1 s2 : Int) (l : List (Int × Int)) (t : Int) : RoomR :=
  if roomB s1 s2 l = true ∧ taskB t = true then
    if hasB (tasksOf l) t = true then (s1, (letR s1 s2 (outN l t)).1, (letR s1 s2 (outN l t)).2.1, (letR s1 s2 (outN l t)).2.2, 0) else (s1, s2, l, [], 3)
  else (0, 0, [], [], 2)
theorem leaveR_bad {s1 s2 : Int} {l : List (Int × Int)} {t : Int} (h : roomB s1 s2 l = false) : leaveR s1 s2 l t = (0, 0, [], [], 2) := by rw [leaveR, if_neg]; rw [h]; simp
theorem leaveR_task {s1 s2 : Int} {l : List (Int × Int)} {t : Int} (h : taskB t = false) : leaveR s1 s2 l t = (0, 0, [], [], 2) := by rw [leaveR, if_neg]; rw [h]; simp
theorem leaveR_none {s1 s2 : Int} {l : List (Int × Int)} {t : Int} (h : roomB s1 s2 l = true) (h1 : taskB t = true) (h2 : hasB (tasksOf l) t = false) : leaveR s1 s2 l t = (s1, s2, l, [], 3) := by rw [leaveR, if_pos ⟨h, h1⟩, if_neg (by rw [h2]; simp)]
theorem leaveR_done {s1 s2 : Int} {l : List (Int × Int)} {t : Int} (h : roomB s1 s2 l = true) (h1 : taskB t = true) (h2 : hasB (tasksOf l) t = true) : leaveR s1 s2 l t = (s1, (letR s1 s2 (outN l t)).1, (letR s1 s2 (outN l t)).2.1, (letR s1 s2 (outN l t)).2.2, 0) := by rw [leaveR, if_pos ⟨h, h1⟩, if_pos h2]
theorem leaveR_len {s1 s2 : Int} {l : List (Int × Int)} {t : Int} (hl : l.length ≤ 1048576) : (leaveR s1 s2 l t).2.2.1.length ≤ 1048576 ∧ (leaveR s1 s2 l t).2.2.2.1.length ≤ 1048576 := by
  unfold leaveR
  repeat' split
  · have := letR_len s1 (outN l t) s2
    have := outN_len l t
    dsimp only; omega
  · simp [hl]
  · simp
end
end Go.Proofs.Ytdgnolpimmdgjaa
