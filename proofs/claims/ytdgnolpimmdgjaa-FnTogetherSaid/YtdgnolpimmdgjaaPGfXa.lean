/- WaitFor: what it answers, and the program. No conditions but those written. AddTo: what it answers, and the program. No conditions but those written. AddTo: the specification. No conditions but those written. WaitFor: the specification. No conditions but those written. Rows that are new and their own, also where they are empty. No conditions but those written. The draws' cursor: one more byte. No conditions but those written. -/
import Derived.Test.YtdgnolpimmdgjaaPMdGd
import Derived.Test.YtdgnolpimmdgjaaPWaMc
namespace Go.Proofs.Ytdgnolpimmdgjaa
section
open Go.RowKit

/-- What WaitFor answers. -/
def waitR (cnt : Int) (q : List Int) (t : Int) : Int × List Int × Int :=
  if groupB cnt q = true ∧ taskB t = true then
    if hasB q t = true then (cnt, q, 4) else if cnt = 0 then (cnt, q, 0) else (cnt, q ++ [t], 1)
  else (0, [], 2)
theorem waitR_bad {cnt : Int} {q : List Int} {k : Int} (h : groupB cnt q = false) : waitR cnt q k = (0, [], 2) := by rw [waitR, if_neg]; rw [h]; simp
theorem waitR_task {cnt : Int} {q : List Int} {k : Int} (h : taskB k = false) : waitR cnt q k = (0, [], 2) := by rw [waitR, if_neg]; rw [h]; simp
theorem waitR_busy {cnt : Int} {q : List Int} {k : Int} (h : groupB cnt q = true) (h1 : taskB k = true) (h2 : hasB q k = true) : waitR cnt q k = (cnt, q, 4) := by rw [waitR, if_pos ⟨h, h1⟩, if_pos h2]
theorem waitR_done {cnt : Int} {q : List Int} {k : Int} (h : groupB cnt q = true) (h1 : taskB k = true) (h2 : hasB q k = false) (h3 : cnt = 0) : waitR cnt q k = (cnt, q, 0) := by rw [waitR, if_pos ⟨h, h1⟩, if_neg (by rw [h2]; simp), if_pos h3]
theorem waitR_waits {cnt : Int} {q : List Int} {k : Int} (h : groupB cnt q = true) (h1 : taskB k = true) (h2 : hasB q k = false) (h3 : cnt ≠ 0) : waitR cnt q k = (cnt, q ++ [k], 1) := by rw [waitR, if_pos ⟨h, h1⟩, if_neg (by rw [h2]; simp), if_neg h3]
theorem waitR_len {cnt : Int} {q : List Int} {k : Int} (hl : q.length ≤ 1048576) : (waitR cnt q k).2.1.length ≤ 1048576 := by
  unfold waitR
  split
  · rename_i h
    have := lineB_len (groupB_good h.1).2.2.1
    repeat' split
    all_goals simp <;> omega
  · simp
/-- A group and a code, in memory of their own. -/
def AnsG (w : World) (R : Int × List Int × Int) (e : Ending) (w' : World) : Prop :=
  (∃ o c, e = .returned (.tuple #[.agg #[.int .i64 R.1, .slice o R.2.1.length c], .int .i64 R.2.2]) ∧ kI.Fresh w.heap.size w'.heap.size w' o c R.2.1) ∧ Below w.heap.size w w'
end
section
open Go.RowKit

/-- What AddTo answers. -/
def addR (cnt : Int) (q : List Int) (k : Int) : Int × List Int × List Int × Int :=
  if groupB cnt q = true ∧ (-1000000 ≤ k ∧ k ≤ 1000000) then
    if 0 ≤ cnt + k ∧ cnt + k ≤ 1000000 then (if cnt + k = 0 then (0, [], q, 0) else (cnt + k, q, [], 0)) else (cnt, q, [], 3)
  else (0, [], [], 2)
theorem addR_bad {cnt : Int} {q : List Int} {k : Int} (h : groupB cnt q = false) : addR cnt q k = (0, [], [], 2) := by rw [addR, if_neg]; rw [h]; simp
theorem addR_by {cnt : Int} {q : List Int} {k : Int} (h : ¬ (-1000000 ≤ k ∧ k ≤ 1000000)) : addR cnt q k = (0, [], [], 2) := by rw [addR, if_neg]; exact fun x => h x.2
theorem addR_below {cnt : Int} {q : List Int} {k : Int} (h : groupB cnt q = true) (h1 : -1000000 ≤ k ∧ k ≤ 1000000) (h2 : ¬ (0 ≤ cnt + k ∧ cnt + k ≤ 1000000)) : addR cnt q k = (cnt, q, [], 3) := by rw [addR, if_pos ⟨h, h1⟩, if_neg h2]
theorem addR_zero {cnt : Int} {q : List Int} {k : Int} (h : groupB cnt q = true) (h1 : -1000000 ≤ k ∧ k ≤ 1000000) (h2 : cnt + k = 0) : addR cnt q k = (0, [], q, 0) := by rw [addR, if_pos ⟨h, h1⟩, if_pos ⟨by omega, by omega⟩, if_pos h2]
theorem addR_more {cnt : Int} {q : List Int} {k : Int} (h : groupB cnt q = true) (h1 : -1000000 ≤ k ∧ k ≤ 1000000) (h2 : 0 ≤ cnt + k ∧ cnt + k ≤ 1000000) (h3 : cnt + k ≠ 0) : addR cnt q k = (cnt + k, q, [], 0) := by rw [addR, if_pos ⟨h, h1⟩, if_pos h2, if_neg h3]
theorem addR_len {cnt : Int} {q : List Int} {k : Int} (hl : q.length ≤ 1048576) : (addR cnt q k).2.1.length ≤ 1048576 ∧ (addR cnt q k).2.2.1.length ≤ 1048576 := by
  unfold addR; repeat' split
  all_goals simp [hl]
/-- A group, a row of ints and a code, in memory of their own. -/
def AnsA (w : World) (R : Int × List Int × List Int × Int) (e : Ending) (w' : World) : Prop :=
  (∃ o c o' c', e = .returned (.tuple #[.agg #[.int .i64 R.1, .slice o R.2.1.length c], .slice o' R.2.2.1.length c', .int .i64 R.2.2.2]) ∧ kI.Fresh w.heap.size w'.heap.size w' o c R.2.1 ∧ kI.Fresh w.heap.size w'.heap.size w' o' c' R.2.2.1 ∧ Off o R.2.1.length o' R.2.2.1.length) ∧ Below w.heap.size w w'

set_option maxHeartbeats 4000000 in
theorem implAdd_any (s1 : Int) (ao : Option Addr) (cap : Nat) (q : List Int) (iv : Int) (w : World) (hl : q.length ≤ 1048576) (hz : kI.In w.heap.size w ao q) :
    Calls Try.prog 5 #[.agg #[.int .i64 s1, .slice ao q.length cap], .int .i64 iv] w fun e w' => AnsA w (addR s1 q iv) e w' := by
  obtain ⟨W2, hW2⟩ : ∃ W2, W2 = (w.alloc (.cells #[.int .i64 s1, .slice ao q.length cap] 25)).alloc (.cells #[.int .i64 0, .slice none 0 0] 25) := ⟨_, rfl⟩
  have hB2 : Below w.heap.size w W2 := by rw [hW2]; exact below2 _ _ _
  have A2 : Bx W2 w.heap.size [.int .i64 s1, .slice ao q.length cap] := by rw [hW2]; exact (Bx.new [.int .i64 s1, .slice ao q.length cap] _ rfl).alloc _
  have R2 : Bx W2 (w.heap.size + 1) [.int .i64 0, .slice none 0 0] := by rw [hW2]; exact Bx.new [.int .i64 0, .slice none 0 0] _ (by simp)
  have HW : Hid (W2 = (w.alloc (.cells #[.int .i64 s1, .slice ao q.length cap] 25)).alloc (.cells #[.int .i64 0, .slice none 0 0] 25)) := hW2
  have HS : Hid (W2.heap.size = w.heap.size + 1 + 1) := by rw [hW2]; simp [Hid]
  clear hW2
  cases hg : groupB s1 q
  · have HG : Hid (groupB s1 q = false) := hg
    have HR : Hid (addR s1 q iv = (0, [], [], 2)) := addR_bad hg
    clear hg
    go_enter Try.func5, Try.ntmps5
    go_wp2_with fail
    rw [← HW.out]
    refine (implGood_is s1 ao cap q W2 false hl (hz.later hB2) HG.out).mono ?_
    rintro e w1 ⟨rfl, hb1⟩
    have hB1 := hB2.trans (hb1.mono hB2.size)
    have A1 := A2.later hb1
    have R1 := R2.later hb1
    have hs1 : w.heap.size + 1 + 1 ≤ w1.heap.size := by have := hb1.size; rw [HS.out] at this; exact this
    clear hb1 A2 R2
    have r0 := R1.c 0 rfl
    have rf0 := R1.f 0 rfl
    have r1 := R1.c 1 rfl
    have rf1 := R1.f 1 rfl
    go_wp2
    refine bodyPost_ret (v := .tuple #[.agg #[.int .i64 0, .slice none 0 0], .slice none 0 0, .int .i64 2]) (by simp [results, Try.results5, go_sem, r0, r1]) rfl ?_
    rw [HR.out]
    exact ⟨⟨none, 0, none, 0, rfl, .inl rfl, .inl rfl, .inl rfl⟩, ((hB1.setCell (p := ⟨w.heap.size + 1, 0, none⟩) (by simp) _).setCell (p := ⟨w.heap.size + 1, 1, none⟩) (by simp) _)⟩
  have HG : Hid (groupB s1 q = true) := hg
  obtain ⟨g1, g2, g3, g4⟩ := groupB_good hg
  have HQ : Hid (lineB q = true ∧ (0 < s1 ∨ q = [])) := ⟨g3, g4⟩
  clear g3 g4
  by_cases hb1 : iv < -1000000
  · have HR : Hid (addR s1 q iv = (0, [], [], 2)) := addR_by (by omega)
    clear hg
    go_enter Try.func5, Try.ntmps5
    go_wp2_with fail
    rw [← HW.out]
    refine (implGood_is s1 ao cap q W2 true hl (hz.later hB2) HG.out).mono ?_
    rintro e w1 ⟨rfl, hb1⟩
    have hB1 := hB2.trans (hb1.mono hB2.size)
    have A1 := A2.later hb1
    have R1 := R2.later hb1
    have hs1 : w.heap.size + 1 + 1 ≤ w1.heap.size := by have := hb1.size; rw [HS.out] at this; exact this
    clear hb1 A2 R2
    have r0 := R1.c 0 rfl
    have rf0 := R1.f 0 rfl
    have r1 := R1.c 1 rfl
    have rf1 := R1.f 1 rfl
    go_wp2
    refine bodyPost_ret (v := .tuple #[.agg #[.int .i64 0, .slice none 0 0], .slice none 0 0, .int .i64 2]) (by simp [results, Try.results5, go_sem, r0, r1]) rfl ?_
    rw [HR.out]
    exact ⟨⟨none, 0, none, 0, rfl, .inl rfl, .inl rfl, .inl rfl⟩, ((hB1.setCell (p := ⟨w.heap.size + 1, 0, none⟩) (by simp) _).setCell (p := ⟨w.heap.size + 1, 1, none⟩) (by simp) _)⟩
  have hb1' : decide (iv < -1000000) = false := by simpa using hb1
  by_cases hb2 : 1000000 < iv
  · have HR : Hid (addR s1 q iv = (0, [], [], 2)) := addR_by (by omega)
    clear hg
    go_enter Try.func5, Try.ntmps5
    go_wp2_with fail
    rw [← HW.out]
    refine (implGood_is s1 ao cap q W2 true hl (hz.later hB2) HG.out).mono ?_
    rintro e w1 ⟨rfl, hb1⟩
    have hB1 := hB2.trans (hb1.mono hB2.size)
    have A1 := A2.later hb1
    have R1 := R2.later hb1
    have hs1 : w.heap.size + 1 + 1 ≤ w1.heap.size := by have := hb1.size; rw [HS.out] at this; exact this
    clear hb1 A2 R2
    have r0 := R1.c 0 rfl
    have rf0 := R1.f 0 rfl
    have r1 := R1.c 1 rfl
    have rf1 := R1.f 1 rfl
    go_wp2
    refine bodyPost_ret (v := .tuple #[.agg #[.int .i64 0, .slice none 0 0], .slice none 0 0, .int .i64 2]) (by simp [results, Try.results5, go_sem, r0, r1]) rfl ?_
    rw [HR.out]
    exact ⟨⟨none, 0, none, 0, rfl, .inl rfl, .inl rfl, .inl rfl⟩, ((hB1.setCell (p := ⟨w.heap.size + 1, 0, none⟩) (by simp) _).setCell (p := ⟨w.heap.size + 1, 1, none⟩) (by simp) _)⟩
  have hb2' : decide (1000000 < iv) = false := by simpa using hb2
  have hbb : -1000000 ≤ iv ∧ iv ≤ 1000000 := ⟨by omega, by omega⟩
  by_cases hc1 : s1 + iv < 0
  · have HR : Hid (addR s1 q iv = (s1, q, [], 3)) := addR_below hg hbb (by omega)
    clear hg
    go_enter Try.func5, Try.ntmps5
    go_wp2_with fail
    rw [← HW.out]
    refine (implGood_is s1 ao cap q W2 true hl (hz.later hB2) HG.out).mono ?_
    rintro e w1 ⟨rfl, hb1⟩
    have hB1 := hB2.trans (hb1.mono hB2.size)
    have A1 := A2.later hb1
    have R1 := R2.later hb1
    have hs1 : w.heap.size + 1 + 1 ≤ w1.heap.size := by have := hb1.size; rw [HS.out] at this; exact this
    clear hb1 A2 R2
    have a0 := A1.c 0 rfl
    have af0 := A1.f 0 rfl
    have a1 := A1.c 1 rfl
    have af1 := A1.f 1 rfl
    go_wp2_with fail
    refine (copyGroup_any s1 ao cap q w1 hl (hz.later hB1)).mono ?_
    rintro e w2 ⟨⟨go1, rfl, hF⟩, hb⟩
    have R3 := R1.later hb
    have hB3 := hB1.trans (hb.mono hB1.size)
    have HF : Hid (kI.Fresh (w.heap.size + 1 + 1) w2.heap.size w2 go1 q.length q) := hF.wide hs1 (Nat.le_refl _)
    clear hb hF
    have r0 := R3.c 0 rfl
    have rf0 := R3.f 0 rfl
    have r1 := R3.c 1 rfl
    have rf1 := R3.f 1 rfl
    go_wp2
    refine bodyPost_ret (v := .tuple #[.agg #[.int .i64 s1, .slice go1 q.length q.length], .slice none 0 0, .int .i64 3]) (by simp [results, Try.results5, go_sem, r0, r1]) rfl ?_
    rw [HR.out]
    exact ⟨⟨go1, q.length, none, 0, rfl, ((HF.out.setBelow (a := ⟨w.heap.size + 1, 0, none⟩) (by simp) _).setBelow (a := ⟨w.heap.size + 1, 1, none⟩) (by simp) _).wide (by omega) (by simp), .inl rfl, .inr (.inl rfl)⟩, ((hB3.setCell (p := ⟨w.heap.size + 1, 0, none⟩) (by simp) _).setCell (p := ⟨w.heap.size + 1, 1, none⟩) (by simp) _)⟩
  have hc1' : decide (s1 + iv < 0) = false := by simpa using hc1
  by_cases hc2 : 1000000 < s1 + iv
  · have HR : Hid (addR s1 q iv = (s1, q, [], 3)) := addR_below hg hbb (by omega)
    clear hg
    go_enter Try.func5, Try.ntmps5
    go_wp2_with fail
    rw [← HW.out]
    refine (implGood_is s1 ao cap q W2 true hl (hz.later hB2) HG.out).mono ?_
    rintro e w1 ⟨rfl, hb1⟩
    have hB1 := hB2.trans (hb1.mono hB2.size)
    have A1 := A2.later hb1
    have R1 := R2.later hb1
    have hs1 : w.heap.size + 1 + 1 ≤ w1.heap.size := by have := hb1.size; rw [HS.out] at this; exact this
    clear hb1 A2 R2
    have a0 := A1.c 0 rfl
    have af0 := A1.f 0 rfl
    have a1 := A1.c 1 rfl
    have af1 := A1.f 1 rfl
    go_wp2_with fail
    refine (copyGroup_any s1 ao cap q w1 hl (hz.later hB1)).mono ?_
    rintro e w2 ⟨⟨go1, rfl, hF⟩, hb⟩
    have R3 := R1.later hb
    have hB3 := hB1.trans (hb.mono hB1.size)
    have HF : Hid (kI.Fresh (w.heap.size + 1 + 1) w2.heap.size w2 go1 q.length q) := hF.wide hs1 (Nat.le_refl _)
    clear hb hF
    have r0 := R3.c 0 rfl
    have rf0 := R3.f 0 rfl
    have r1 := R3.c 1 rfl
    have rf1 := R3.f 1 rfl
    go_wp2
    refine bodyPost_ret (v := .tuple #[.agg #[.int .i64 s1, .slice go1 q.length q.length], .slice none 0 0, .int .i64 3]) (by simp [results, Try.results5, go_sem, r0, r1]) rfl ?_
    rw [HR.out]
    exact ⟨⟨go1, q.length, none, 0, rfl, ((HF.out.setBelow (a := ⟨w.heap.size + 1, 0, none⟩) (by simp) _).setBelow (a := ⟨w.heap.size + 1, 1, none⟩) (by simp) _).wide (by omega) (by simp), .inl rfl, .inr (.inl rfl)⟩, ((hB3.setCell (p := ⟨w.heap.size + 1, 0, none⟩) (by simp) _).setCell (p := ⟨w.heap.size + 1, 1, none⟩) (by simp) _)⟩
  have hc2' : decide (1000000 < s1 + iv) = false := by simpa using hc2
  by_cases hc3 : s1 + iv = 0
  · have HR : Hid (addR s1 q iv = (0, [], q, 0)) := addR_zero hg hbb hc3
    have hc3' : (s1 + iv == 0) = true := by simpa using hc3
    clear hg hc3
    go_enter Try.func5, Try.ntmps5
    go_wp2_with fail
    rw [← HW.out]
    refine (implGood_is s1 ao cap q W2 true hl (hz.later hB2) HG.out).mono ?_
    rintro e w1 ⟨rfl, hb1⟩
    have hB1 := hB2.trans (hb1.mono hB2.size)
    have A1 := A2.later hb1
    have R1 := R2.later hb1
    have hs1 : w.heap.size + 1 + 1 ≤ w1.heap.size := by have := hb1.size; rw [HS.out] at this; exact this
    clear hb1 A2 R2
    have a0 := A1.c 0 rfl
    have af0 := A1.f 0 rfl
    have a1 := A1.c 1 rfl
    have af1 := A1.f 1 rfl
    go_wp2_with fail
    refine (copyListI_any ao cap q w1 hl (hz.later hB1)).mono ?_
    rintro e w2 ⟨⟨go1, rfl, hF⟩, hb⟩
    have R3 := R1.later hb
    have hB3 := hB1.trans (hb.mono hB1.size)
    have HF : Hid (kI.Fresh (w.heap.size + 1 + 1) w2.heap.size w2 go1 q.length q) := hF.wide hs1 (Nat.le_refl _)
    clear hb hF
    have r0 := R3.c 0 rfl
    have rf0 := R3.f 0 rfl
    have r1 := R3.c 1 rfl
    have rf1 := R3.f 1 rfl
    go_wp2
    refine bodyPost_ret (v := .tuple #[.agg #[.int .i64 0, .slice none 0 0], .slice go1 q.length q.length, .int .i64 0]) (by simp [results, Try.results5, go_sem, r0, r1]) rfl ?_
    rw [HR.out]
    exact ⟨⟨none, 0, go1, q.length, rfl, .inl rfl, ((HF.out.setBelow (a := ⟨w.heap.size + 1, 0, none⟩) (by simp) _).setBelow (a := ⟨w.heap.size + 1, 1, none⟩) (by simp) _).wide (by omega) (by simp), .inl rfl⟩, ((hB3.setCell (p := ⟨w.heap.size + 1, 0, none⟩) (by simp) _).setCell (p := ⟨w.heap.size + 1, 1, none⟩) (by simp) _)⟩
  · have HR : Hid (addR s1 q iv = (s1 + iv, q, [], 0)) := addR_more hg hbb ⟨by omega, by omega⟩ hc3
    have hc3' : (s1 + iv == 0) = false := by simpa using hc3
    clear hg hc3
    go_enter Try.func5, Try.ntmps5
    go_wp2_with fail
    rw [← HW.out]
    refine (implGood_is s1 ao cap q W2 true hl (hz.later hB2) HG.out).mono ?_
    rintro e w1 ⟨rfl, hb1⟩
    have hB1 := hB2.trans (hb1.mono hB2.size)
    have A1 := A2.later hb1
    have R1 := R2.later hb1
    have hs1 : w.heap.size + 1 + 1 ≤ w1.heap.size := by have := hb1.size; rw [HS.out] at this; exact this
    clear hb1 A2 R2
    have a0 := A1.c 0 rfl
    have af0 := A1.f 0 rfl
    have a1 := A1.c 1 rfl
    have af1 := A1.f 1 rfl
    go_wp2_with fail
    refine (copyListI_any ao cap q w1 hl (hz.later hB1)).mono ?_
    rintro e w2 ⟨⟨go1, rfl, hF⟩, hb⟩
    have R3 := R1.later hb
    have hB3 := hB1.trans (hb.mono hB1.size)
    have HF : Hid (kI.Fresh (w.heap.size + 1 + 1) w2.heap.size w2 go1 q.length q) := hF.wide hs1 (Nat.le_refl _)
    clear hb hF
    have r0 := R3.c 0 rfl
    have rf0 := R3.f 0 rfl
    have r1 := R3.c 1 rfl
    have rf1 := R3.f 1 rfl
    go_wp2
    refine bodyPost_ret (v := .tuple #[.agg #[.int .i64 (s1 + iv), .slice go1 q.length q.length], .slice none 0 0, .int .i64 0]) (by simp [results, Try.results5, go_sem, r0, r1]) rfl ?_
    rw [HR.out]
    exact ⟨⟨go1, q.length, none, 0, rfl, ((HF.out.setBelow (a := ⟨w.heap.size + 1, 0, none⟩) (by simp) _).setBelow (a := ⟨w.heap.size + 1, 1, none⟩) (by simp) _).wide (by omega) (by simp), .inl rfl, .inr (.inl rfl)⟩, ((hB3.setCell (p := ⟨w.heap.size + 1, 0, none⟩) (by simp) _).setCell (p := ⟨w.heap.size + 1, 1, none⟩) (by simp) _)⟩
end
section
open Go.RowKit

set_option maxHeartbeats 4000000 in
theorem specAdd_any (s1 : Int) (ao : Option Addr) (cap : Nat) (q : List Int) (iv : Int) (w : World) (hl : q.length ≤ 1048576) (hc : q.length ≤ cap) (hno : ao = none → cap = 0) (hz : kI.In w.heap.size w ao q) :
    Calls Try.prog 6 #[.agg #[.int .i64 s1, .slice ao q.length cap], .int .i64 iv] w fun e w' => AnsA w (addR s1 q iv) e w' := by
  obtain ⟨W2, hW2⟩ : ∃ W2, W2 = (w.alloc (.cells #[.int .i64 s1, .slice ao q.length cap] 25)).alloc (.cells #[.int .i64 0, .slice none 0 0] 25) := ⟨_, rfl⟩
  have hB2 : Below w.heap.size w W2 := by rw [hW2]; exact below2 _ _ _
  have A2 : Bx W2 w.heap.size [.int .i64 s1, .slice ao q.length cap] := by rw [hW2]; exact (Bx.new [.int .i64 s1, .slice ao q.length cap] _ rfl).alloc _
  have R2 : Bx W2 (w.heap.size + 1) [.int .i64 0, .slice none 0 0] := by rw [hW2]; exact Bx.new [.int .i64 0, .slice none 0 0] _ (by simp)
  have HW : Hid (W2 = (w.alloc (.cells #[.int .i64 s1, .slice ao q.length cap] 25)).alloc (.cells #[.int .i64 0, .slice none 0 0] 25)) := hW2
  have HS : Hid (W2.heap.size = w.heap.size + 1 + 1) := by rw [hW2]; simp [Hid]
  clear hW2
  cases hg : groupB s1 q
  · have HG : Hid (groupB s1 q = false) := hg
    have HR : Hid (addR s1 q iv = (0, [], [], 2)) := addR_bad hg
    clear hg
    go_enter Try.func6, Try.ntmps6
    go_wp2_with fail
    rw [← HW.out]
    refine (specGood_is s1 ao cap q W2 false hl hc (hz.later hB2) HG.out).mono ?_
    rintro e w1 ⟨rfl, hb1⟩
    have hB1 := hB2.trans (hb1.mono hB2.size)
    have A1 := A2.later hb1
    have R1 := R2.later hb1
    have hs1 : w.heap.size + 1 + 1 ≤ w1.heap.size := by have := hb1.size; rw [HS.out] at this; exact this
    clear hb1 A2 R2
    have r0 := R1.c 0 rfl
    have rf0 := R1.f 0 rfl
    have r1 := R1.c 1 rfl
    have rf1 := R1.f 1 rfl
    go_wp2
    refine bodyPost_ret (v := .tuple #[.agg #[.int .i64 0, .slice none 0 0], .slice none 0 0, .int .i64 2]) (by simp [results, Try.results6, go_sem, r0, r1]) rfl ?_
    rw [HR.out]
    exact ⟨⟨none, 0, none, 0, rfl, .inl rfl, .inl rfl, .inl rfl⟩, ((hB1.setCell (p := ⟨w.heap.size + 1, 0, none⟩) (by simp) _).setCell (p := ⟨w.heap.size + 1, 1, none⟩) (by simp) _)⟩
  have HG : Hid (groupB s1 q = true) := hg
  obtain ⟨g1, g2, g3, g4⟩ := groupB_good hg
  clear g3 g4
  cases hi : (decide (-1000000 ≤ iv) && decide (iv ≤ 1000000))
  · have HI : Hid ((decide (-1000000 ≤ iv) && decide (iv ≤ 1000000)) = false) := hi
    have HR : Hid (addR s1 q iv = (0, [], [], 2)) := addR_by (by simp at hi; omega)
    clear hg hi
    go_enter Try.func6, Try.ntmps6
    go_wp2_with fail
    rw [← HW.out]
    refine (specGood_is s1 ao cap q W2 true hl hc (hz.later hB2) HG.out).mono ?_
    rintro e w1 ⟨rfl, hb1⟩
    have hB1 := hB2.trans (hb1.mono hB2.size)
    have A1 := A2.later hb1
    have R1 := R2.later hb1
    have hs1 : w.heap.size + 1 + 1 ≤ w1.heap.size := by have := hb1.size; rw [HS.out] at this; exact this
    clear hb1 A2 R2
    go_wp2_with fail
    refine (l1In_is iv (-1000000) 1000000 _ false HI.out).mono ?_
    rintro e w1 ⟨rfl, rfl⟩
    have r0 := R1.c 0 rfl
    have rf0 := R1.f 0 rfl
    have r1 := R1.c 1 rfl
    have rf1 := R1.f 1 rfl
    go_wp2
    refine bodyPost_ret (v := .tuple #[.agg #[.int .i64 0, .slice none 0 0], .slice none 0 0, .int .i64 2]) (by simp [results, Try.results6, go_sem, r0, r1]) rfl ?_
    rw [HR.out]
    exact ⟨⟨none, 0, none, 0, rfl, .inl rfl, .inl rfl, .inl rfl⟩, ((hB1.setCell (p := ⟨w.heap.size + 1, 0, none⟩) (by simp) _).setCell (p := ⟨w.heap.size + 1, 1, none⟩) (by simp) _)⟩
  have HI : Hid ((decide (-1000000 ≤ iv) && decide (iv ≤ 1000000)) = true) := hi
  have hbb : -1000000 ≤ iv ∧ iv ≤ 1000000 := by simp at hi; omega
  clear hi
  cases hk : (decide (0 ≤ s1 + iv) && decide (s1 + iv ≤ 1000000))
  · have HK : Hid ((decide (0 ≤ s1 + iv) && decide (s1 + iv ≤ 1000000)) = false) := hk
    have HR : Hid (addR s1 q iv = (s1, q, [], 3)) := addR_below hg hbb (by simp at hk; omega)
    clear hg hk
    go_enter Try.func6, Try.ntmps6
    go_wp2_with fail
    rw [← HW.out]
    refine (specGood_is s1 ao cap q W2 true hl hc (hz.later hB2) HG.out).mono ?_
    rintro e w1 ⟨rfl, hb1⟩
    have hB1 := hB2.trans (hb1.mono hB2.size)
    have A1 := A2.later hb1
    have R1 := R2.later hb1
    have hs1 : w.heap.size + 1 + 1 ≤ w1.heap.size := by have := hb1.size; rw [HS.out] at this; exact this
    clear hb1 A2 R2
    go_wp2_with fail
    refine (l1In_is iv (-1000000) 1000000 _ true HI.out).mono ?_
    rintro e w1 ⟨rfl, rfl⟩
    have HE : Hid (kI.Own (w.heap.size + 1 + 1) (w1.alloc (.cells #[] 3)) (.slice (some ⟨w1.heap.size, 0, none⟩) 0 0) []) := Kind.Own.new kI _ w1 hs1
    have HZ : Hid (kI.In w1.heap.size (w1.alloc (.cells #[] 3)) ao q) := (hz.later hB1).below (below1 _ _)
    have hA1 : w.heap.size < w1.heap.size := A1.size
    have a0 := A1.c 0 rfl
    have af0 := A1.f 0 rfl
    have a1 := A1.c 1 rfl
    have af1 := A1.f 1 rfl
    go_wp2_with (at_builtin; refine Kind.app kI_ok (w1.alloc (.cells #[] 3)) rfl (.tmp 17) (.tmp 19) rfl (w.heap.size + 1 + 1) (.slice (some ⟨w1.heap.size, 0, none⟩) 0 0) [] rfl HE.out (by simp; omega) ao q q.length cap rfl rfl hno _ HZ.out (by simp; omega) ?_; intro v3 w3 hO3 hB3 hG3 hn3; obtain ⟨g, c, rfl, hF3⟩ := hO3.some (hn3 some_ne); rw [List.nil_append] at hF3 hO3; have HOw := hid hO3; have A3 := (A1.alloc (.cells #[] 3)).below hB3 (by omega); have R3 := (R1.alloc (.cells #[] 3)).below hB3 (by omega); have hB4 : Below w.heap.size w w3 := hB1.trans (((below1 w1 (.cells #[] 3)).mono hB1.size).trans (hB3.mono (by omega))); have hs3 : w.heap.size + 1 + 1 ≤ w3.heap.size := (by have := hB3.size; simp at this; omega); have HF : Hid (kI.Fresh (w.heap.size + 1 + 1) w3.heap.size w3 (some ⟨g, 0, none⟩) c q) := hF3; clear hO3 hB3 hG3 hn3 hF3 HE HZ a0 a1 af0 af1 A1 R1; have a0 := A3.c 0 rfl; have a1 := A3.c 1 rfl; have af0 := A3.f 0 rfl; have af1 := A3.f 1 rfl; have r0 := R3.c 0 rfl; have r1 := R3.c 1 rfl; have rf0 := R3.f 0 rfl; have rf1 := R3.f 1 rfl)
    refine (l1In_is (s1 + iv) 0 1000000 _ false HK.out).mono ?_
    rintro e w4 ⟨rfl, rfl⟩
    go_wp2
    refine bodyPost_ret (v := .tuple #[.agg #[.int .i64 s1, .slice (some ⟨g, 0, none⟩) q.length c], .slice none 0 0, .int .i64 3]) (by simp [results, Try.results6, go_sem, r0, r1]) rfl ?_
    rw [HR.out]
    exact ⟨⟨_, c, none, 0, rfl, (((HF.out.setBelow (a := ⟨w.heap.size, 1, none⟩) (by simp; omega) _).setBelow (a := ⟨w.heap.size + 1, 0, none⟩) (by simp) _).setBelow (a := ⟨w.heap.size + 1, 1, none⟩) (by simp) _).wide (by omega) (by simp), .inl rfl, .inr (.inl rfl)⟩, (((hB4.setCell (p := ⟨w.heap.size, 1, none⟩) (by simp) _).setCell (p := ⟨w.heap.size + 1, 0, none⟩) (by simp) _).setCell (p := ⟨w.heap.size + 1, 1, none⟩) (by simp) _)⟩
  have HK : Hid ((decide (0 ≤ s1 + iv) && decide (s1 + iv ≤ 1000000)) = true) := hk
  have hkk : 0 ≤ s1 + iv ∧ s1 + iv ≤ 1000000 := by simp at hk; omega
  clear hk
  by_cases h0 : 0 < s1 + iv
  · have h0' : decide (0 < s1 + iv) = true := by simpa using h0
    have HR : Hid (addR s1 q iv = (s1 + iv, q, [], 0)) := addR_more hg hbb hkk (by omega)
    clear hg
    go_enter Try.func6, Try.ntmps6
    go_wp2_with fail
    rw [← HW.out]
    refine (specGood_is s1 ao cap q W2 true hl hc (hz.later hB2) HG.out).mono ?_
    rintro e w1 ⟨rfl, hb1⟩
    have hB1 := hB2.trans (hb1.mono hB2.size)
    have A1 := A2.later hb1
    have R1 := R2.later hb1
    have hs1 : w.heap.size + 1 + 1 ≤ w1.heap.size := by have := hb1.size; rw [HS.out] at this; exact this
    clear hb1 A2 R2
    go_wp2_with fail
    refine (l1In_is iv (-1000000) 1000000 _ true HI.out).mono ?_
    rintro e w1 ⟨rfl, rfl⟩
    have HE : Hid (kI.Own (w.heap.size + 1 + 1) (w1.alloc (.cells #[] 3)) (.slice (some ⟨w1.heap.size, 0, none⟩) 0 0) []) := Kind.Own.new kI _ w1 hs1
    have HZ : Hid (kI.In w1.heap.size (w1.alloc (.cells #[] 3)) ao q) := (hz.later hB1).below (below1 _ _)
    have hA1 : w.heap.size < w1.heap.size := A1.size
    have a0 := A1.c 0 rfl
    have af0 := A1.f 0 rfl
    have a1 := A1.c 1 rfl
    have af1 := A1.f 1 rfl
    go_wp2_with (at_builtin; refine Kind.app kI_ok (w1.alloc (.cells #[] 3)) rfl (.tmp 17) (.tmp 19) rfl (w.heap.size + 1 + 1) (.slice (some ⟨w1.heap.size, 0, none⟩) 0 0) [] rfl HE.out (by simp; omega) ao q q.length cap rfl rfl hno _ HZ.out (by simp; omega) ?_; intro v3 w3 hO3 hB3 hG3 hn3; obtain ⟨g, c, rfl, hF3⟩ := hO3.some (hn3 some_ne); rw [List.nil_append] at hF3 hO3; have HOw := hid hO3; have A3 := (A1.alloc (.cells #[] 3)).below hB3 (by omega); have R3 := (R1.alloc (.cells #[] 3)).below hB3 (by omega); have hB4 : Below w.heap.size w w3 := hB1.trans (((below1 w1 (.cells #[] 3)).mono hB1.size).trans (hB3.mono (by omega))); have hs3 : w.heap.size + 1 + 1 ≤ w3.heap.size := (by have := hB3.size; simp at this; omega); have HF : Hid (kI.Fresh (w.heap.size + 1 + 1) w3.heap.size w3 (some ⟨g, 0, none⟩) c q) := hF3; clear hO3 hB3 hG3 hn3 hF3 HE HZ a0 a1 af0 af1 A1 R1; have a0 := A3.c 0 rfl; have a1 := A3.c 1 rfl; have af0 := A3.f 0 rfl; have af1 := A3.f 1 rfl; have r0 := R3.c 0 rfl; have r1 := R3.c 1 rfl; have rf0 := R3.f 0 rfl; have rf1 := R3.f 1 rfl)
    refine (l1In_is (s1 + iv) 0 1000000 _ true HK.out).mono ?_
    rintro e w4 ⟨rfl, rfl⟩
    go_wp2
    refine bodyPost_ret (v := .tuple #[.agg #[.int .i64 (s1 + iv), .slice (some ⟨g, 0, none⟩) q.length c], .slice none 0 0, .int .i64 0]) (by simp [results, Try.results6, go_sem, r0, r1]) rfl ?_
    rw [HR.out]
    exact ⟨⟨_, c, none, 0, rfl, ((((HF.out.setBelow (a := ⟨w.heap.size, 1, none⟩) (by simp; omega) _).setBelow (a := ⟨w.heap.size, 0, none⟩) (by simp; omega) _).setBelow (a := ⟨w.heap.size + 1, 0, none⟩) (by simp) _).setBelow (a := ⟨w.heap.size + 1, 1, none⟩) (by simp) _).wide (by omega) (by simp), .inl rfl, .inr (.inl rfl)⟩, ((((hB4.setCell (p := ⟨w.heap.size, 1, none⟩) (by simp) _).setCell (p := ⟨w.heap.size, 0, none⟩) (by simp) _).setCell (p := ⟨w.heap.size + 1, 0, none⟩) (by simp) _).setCell (p := ⟨w.heap.size + 1, 1, none⟩) (by simp) _)⟩
  · have h0' : decide (0 < s1 + iv) = false := by simpa using h0
    have HR : Hid (addR s1 q iv = (s1 + iv, [], q, 0)) := by
      have h00 : s1 + iv = 0 := by omega
      rw [Hid, addR_zero hg hbb h00, h00]
    clear hg
    go_enter Try.func6, Try.ntmps6
    go_wp2_with fail
    rw [← HW.out]
    refine (specGood_is s1 ao cap q W2 true hl hc (hz.later hB2) HG.out).mono ?_
    rintro e w1 ⟨rfl, hb1⟩
    have hB1 := hB2.trans (hb1.mono hB2.size)
    have A1 := A2.later hb1
    have R1 := R2.later hb1
    have hs1 : w.heap.size + 1 + 1 ≤ w1.heap.size := by have := hb1.size; rw [HS.out] at this; exact this
    clear hb1 A2 R2
    go_wp2_with fail
    refine (l1In_is iv (-1000000) 1000000 _ true HI.out).mono ?_
    rintro e w1 ⟨rfl, rfl⟩
    have HE : Hid (kI.Own (w.heap.size + 1 + 1) (w1.alloc (.cells #[] 3)) (.slice (some ⟨w1.heap.size, 0, none⟩) 0 0) []) := Kind.Own.new kI _ w1 hs1
    have HZ : Hid (kI.In w1.heap.size (w1.alloc (.cells #[] 3)) ao q) := (hz.later hB1).below (below1 _ _)
    have hA1 : w.heap.size < w1.heap.size := A1.size
    have a0 := A1.c 0 rfl
    have af0 := A1.f 0 rfl
    have a1 := A1.c 1 rfl
    have af1 := A1.f 1 rfl
    go_wp2_with (at_builtin; refine Kind.app kI_ok (w1.alloc (.cells #[] 3)) rfl (.tmp 17) (.tmp 19) rfl (w.heap.size + 1 + 1) (.slice (some ⟨w1.heap.size, 0, none⟩) 0 0) [] rfl HE.out (by simp; omega) ao q q.length cap rfl rfl hno _ HZ.out (by simp; omega) ?_; intro v3 w3 hO3 hB3 hG3 hn3; obtain ⟨g, c, rfl, hF3⟩ := hO3.some (hn3 some_ne); rw [List.nil_append] at hF3 hO3; have HOw := hid hO3; have A3 := (A1.alloc (.cells #[] 3)).below hB3 (by omega); have R3 := (R1.alloc (.cells #[] 3)).below hB3 (by omega); have hB4 : Below w.heap.size w w3 := hB1.trans (((below1 w1 (.cells #[] 3)).mono hB1.size).trans (hB3.mono (by omega))); have hs3 : w.heap.size + 1 + 1 ≤ w3.heap.size := (by have := hB3.size; simp at this; omega); have HF : Hid (kI.Fresh (w.heap.size + 1 + 1) w3.heap.size w3 (some ⟨g, 0, none⟩) c q) := hF3; clear hO3 hB3 hG3 hn3 hF3 HE HZ a0 a1 af0 af1 A1 R1; have a0 := A3.c 0 rfl; have a1 := A3.c 1 rfl; have af0 := A3.f 0 rfl; have af1 := A3.f 1 rfl; have r0 := R3.c 0 rfl; have r1 := R3.c 1 rfl; have rf0 := R3.f 0 rfl; have rf1 := R3.f 1 rfl)
    refine (l1In_is (s1 + iv) 0 1000000 _ true HK.out).mono ?_
    rintro e w4 ⟨rfl, rfl⟩
    go_wp2
    refine bodyPost_ret (v := .tuple #[.agg #[.int .i64 (s1 + iv), .slice none 0 0], .slice (some ⟨g, 0, none⟩) q.length c, .int .i64 0]) (by simp [results, Try.results6, go_sem, r0, r1]) rfl ?_
    rw [HR.out]
    exact ⟨⟨none, 0, _, c, rfl, .inl rfl, (((((HF.out.setBelow (a := ⟨w.heap.size, 1, none⟩) (by simp; omega) _).setBelow (a := ⟨w.heap.size, 0, none⟩) (by simp; omega) _).setBelow (a := ⟨w.heap.size, 1, none⟩) (by simp; omega) _).setBelow (a := ⟨w.heap.size + 1, 0, none⟩) (by simp) _).setBelow (a := ⟨w.heap.size + 1, 1, none⟩) (by simp) _).wide (by omega) (by simp), .inl rfl⟩, (((((hB4.setCell (p := ⟨w.heap.size, 1, none⟩) (by simp) _).setCell (p := ⟨w.heap.size, 0, none⟩) (by simp) _).setCell (p := ⟨w.heap.size, 1, none⟩) (by simp) _).setCell (p := ⟨w.heap.size + 1, 0, none⟩) (by simp) _).setCell (p := ⟨w.heap.size + 1, 1, none⟩) (by simp) _)⟩
end
section
open Go.RowKit

set_option maxHeartbeats 4000000 in
theorem specWait_any (s1 : Int) (ao : Option Addr) (cap : Nat) (q : List Int) (iv : Int) (w : World) (hl : q.length ≤ 1048576) (hc : q.length ≤ cap) (hno : ao = none → cap = 0) (hz : kI.In w.heap.size w ao q) :
    Calls Try.prog 47 #[.agg #[.int .i64 s1, .slice ao q.length cap], .int .i64 iv] w fun e w' => AnsG w (waitR s1 q iv) e w' := by
  obtain ⟨W2, hW2⟩ : ∃ W2, W2 = (w.alloc (.cells #[.int .i64 s1, .slice ao q.length cap] 25)).alloc (.cells #[.int .i64 0, .slice none 0 0] 25) := ⟨_, rfl⟩
  have hB2 : Below w.heap.size w W2 := by rw [hW2]; exact below2 _ _ _
  have A2 : Bx W2 w.heap.size [.int .i64 s1, .slice ao q.length cap] := by rw [hW2]; exact (Bx.new [.int .i64 s1, .slice ao q.length cap] _ rfl).alloc _
  have R2 : Bx W2 (w.heap.size + 1) [.int .i64 0, .slice none 0 0] := by rw [hW2]; exact Bx.new [.int .i64 0, .slice none 0 0] _ (by simp)
  have HW : Hid (W2 = (w.alloc (.cells #[.int .i64 s1, .slice ao q.length cap] 25)).alloc (.cells #[.int .i64 0, .slice none 0 0] 25)) := hW2
  have HS : Hid (W2.heap.size = w.heap.size + 1 + 1) := by rw [hW2]; simp [Hid]
  clear hW2
  cases hg : groupB s1 q
  · have HG : Hid (groupB s1 q = false) := hg
    have HR : Hid (waitR s1 q iv = (0, [], 2)) := waitR_bad hg
    clear hg
    go_enter Try.func47, Try.ntmps47
    go_wp2_with fail
    rw [← HW.out]
    refine (specGood_is s1 ao cap q W2 false hl hc (hz.later hB2) HG.out).mono ?_
    rintro e w1 ⟨rfl, hb1⟩
    have hB1 := hB2.trans (hb1.mono hB2.size)
    have A1 := A2.later hb1
    have R1 := R2.later hb1
    have hs1 : w.heap.size + 1 + 1 ≤ w1.heap.size := by have := hb1.size; rw [HS.out] at this; exact this
    clear hb1 A2 R2
    have r0 := R1.c 0 rfl
    have rf0 := R1.f 0 rfl
    have r1 := R1.c 1 rfl
    have rf1 := R1.f 1 rfl
    go_wp2
    refine bodyPost_ret (v := .tuple #[.agg #[.int .i64 0, .slice none 0 0], .int .i64 2]) (by simp [results, Try.results47, go_sem, r0, r1]) rfl ?_
    rw [HR.out]
    exact ⟨⟨none, 0, rfl, .inl rfl⟩, ((hB1.setCell (p := ⟨w.heap.size + 1, 0, none⟩) (by simp) _).setCell (p := ⟨w.heap.size + 1, 1, none⟩) (by simp) _)⟩
  have HG : Hid (groupB s1 q = true) := hg
  obtain ⟨g1, g2, g3, g4⟩ := groupB_good hg
  have hq30 := lineB_len g3
  clear g3 g4
  cases hi : taskB iv
  · have HI : Hid (taskB iv = false) := hi
    have HR : Hid (waitR s1 q iv = (0, [], 2)) := waitR_task hi
    clear hg hi
    go_enter Try.func47, Try.ntmps47
    go_wp2_with fail
    rw [← HW.out]
    refine (specGood_is s1 ao cap q W2 true hl hc (hz.later hB2) HG.out).mono ?_
    rintro e w1 ⟨rfl, hb1⟩
    have hB1 := hB2.trans (hb1.mono hB2.size)
    have A1 := A2.later hb1
    have R1 := R2.later hb1
    have hs1 : w.heap.size + 1 + 1 ≤ w1.heap.size := by have := hb1.size; rw [HS.out] at this; exact this
    clear hb1 A2 R2
    go_wp2_with fail
    refine (l3Task_is iv _ false HI.out).mono ?_
    rintro e w1 ⟨rfl, rfl⟩
    have r0 := R1.c 0 rfl
    have rf0 := R1.f 0 rfl
    have r1 := R1.c 1 rfl
    have rf1 := R1.f 1 rfl
    go_wp2
    refine bodyPost_ret (v := .tuple #[.agg #[.int .i64 0, .slice none 0 0], .int .i64 2]) (by simp [results, Try.results47, go_sem, r0, r1]) rfl ?_
    rw [HR.out]
    exact ⟨⟨none, 0, rfl, .inl rfl⟩, ((hB1.setCell (p := ⟨w.heap.size + 1, 0, none⟩) (by simp) _).setCell (p := ⟨w.heap.size + 1, 1, none⟩) (by simp) _)⟩
  have HI : Hid (taskB iv = true) := hi
  cases hm : hasB q iv
  case true =>
    have HM : Hid (hasB q iv = true) := hm
    have HR : Hid (waitR s1 q iv = (s1, q, 4)) := waitR_busy hg hi hm
    clear hg hi hm
    go_enter Try.func47, Try.ntmps47
    go_wp2_with fail
    rw [← HW.out]
    refine (specGood_is s1 ao cap q W2 true hl hc (hz.later hB2) HG.out).mono ?_
    rintro e w1 ⟨rfl, hb1⟩
    have hB1 := hB2.trans (hb1.mono hB2.size)
    have A1 := A2.later hb1
    have R1 := R2.later hb1
    have hs1 : w.heap.size + 1 + 1 ≤ w1.heap.size := by have := hb1.size; rw [HS.out] at this; exact this
    clear hb1 A2 R2
    go_wp2_with fail
    refine (l3Task_is iv _ true HI.out).mono ?_
    rintro e w1 ⟨rfl, rfl⟩
    have HE : Hid (kI.Own (w.heap.size + 1 + 1) (w1.alloc (.cells #[] 3)) (.slice (some ⟨w1.heap.size, 0, none⟩) 0 0) []) := Kind.Own.new kI _ w1 hs1
    have HZ : Hid (kI.In w1.heap.size (w1.alloc (.cells #[] 3)) ao q) := (hz.later hB1).below (below1 _ _)
    have hA1 : w.heap.size < w1.heap.size := A1.size
    have a0 := A1.c 0 rfl
    have af0 := A1.f 0 rfl
    have a1 := A1.c 1 rfl
    have af1 := A1.f 1 rfl
    go_wp2_with (at_builtin; refine Kind.app kI_ok (w1.alloc (.cells #[] 3)) rfl (.tmp 15) (.tmp 17) rfl (w.heap.size + 1 + 1) (.slice (some ⟨w1.heap.size, 0, none⟩) 0 0) [] rfl HE.out (by simp; omega) ao q q.length cap rfl rfl hno _ HZ.out (by simp; omega) ?_; intro v3 w3 hO3 hB3 hG3 hn3; obtain ⟨g, c, rfl, hF3⟩ := hO3.some (hn3 some_ne); rw [List.nil_append] at hF3 hO3; have HOw := hid hO3; have A3 := (A1.alloc (.cells #[] 3)).below hB3 (by omega); have R3 := (R1.alloc (.cells #[] 3)).below hB3 (by omega); have hB4 : Below w.heap.size w w3 := hB1.trans (((below1 w1 (.cells #[] 3)).mono hB1.size).trans (hB3.mono (by omega))); have hs3 : w.heap.size + 1 + 1 ≤ w3.heap.size := (by have := hB3.size; simp at this; omega); have HF : Hid (kI.Fresh (w.heap.size + 1 + 1) w3.heap.size w3 (some ⟨g, 0, none⟩) c q) := hF3; clear hO3 hB3 hG3 hn3 hF3 HE HZ a0 a1 af0 af1 A1 R1; have a0 := A3.c 0 rfl; have a1 := A3.c 1 rfl; have af0 := A3.f 0 rfl; have af1 := A3.f 1 rfl; have r0 := R3.c 0 rfl; have r1 := R3.c 1 rfl; have rf0 := R3.f 0 rfl; have rf1 := R3.f 1 rfl)
    have HZ4 : Hid (kI.In w3.heap.size (w3.setCell ⟨w.heap.size, 1, none⟩ (.slice (some ⟨g, 0, none⟩) q.length c)) (some ⟨g, 0, none⟩) q) := (HF.out.setBelow (a := ⟨w.heap.size, 1, none⟩) (by simp; omega) _).in.up (by simp)
    refine (l1Has_is _ (some ⟨g, 0, none⟩) c q iv _ true hl HZ4.out HM.out).mono ?_
    rintro e w4 ⟨rfl, rfl⟩
    go_wp2
    refine bodyPost_ret (v := .tuple #[.agg #[.int .i64 s1, .slice (some ⟨g, 0, none⟩) q.length c], .int .i64 4]) (by simp [results, Try.results47, go_sem, r0, r1]) rfl ?_
    rw [HR.out]
    exact ⟨⟨_, c, rfl, (((HF.out.setBelow (a := ⟨w.heap.size, 1, none⟩) (by simp; omega) _).setBelow (a := ⟨w.heap.size + 1, 0, none⟩) (by simp) _).setBelow (a := ⟨w.heap.size + 1, 1, none⟩) (by simp) _).wide (by omega) (by simp)⟩, (((hB4.setCell (p := ⟨w.heap.size, 1, none⟩) (by simp) _).setCell (p := ⟨w.heap.size + 1, 0, none⟩) (by simp) _).setCell (p := ⟨w.heap.size + 1, 1, none⟩) (by simp) _)⟩
  have HM : Hid (hasB q iv = false) := hm
  by_cases h0 : s1 = 0
  · have h0' : (s1 == 0) = true := by simpa using h0
    have HR : Hid (waitR s1 q iv = (s1, q, 0)) := waitR_done hg hi hm h0
    clear hg hi hm h0
    go_enter Try.func47, Try.ntmps47
    go_wp2_with fail
    rw [← HW.out]
    refine (specGood_is s1 ao cap q W2 true hl hc (hz.later hB2) HG.out).mono ?_
    rintro e w1 ⟨rfl, hb1⟩
    have hB1 := hB2.trans (hb1.mono hB2.size)
    have A1 := A2.later hb1
    have R1 := R2.later hb1
    have hs1 : w.heap.size + 1 + 1 ≤ w1.heap.size := by have := hb1.size; rw [HS.out] at this; exact this
    clear hb1 A2 R2
    go_wp2_with fail
    refine (l3Task_is iv _ true HI.out).mono ?_
    rintro e w1 ⟨rfl, rfl⟩
    have HE : Hid (kI.Own (w.heap.size + 1 + 1) (w1.alloc (.cells #[] 3)) (.slice (some ⟨w1.heap.size, 0, none⟩) 0 0) []) := Kind.Own.new kI _ w1 hs1
    have HZ : Hid (kI.In w1.heap.size (w1.alloc (.cells #[] 3)) ao q) := (hz.later hB1).below (below1 _ _)
    have hA1 : w.heap.size < w1.heap.size := A1.size
    have a0 := A1.c 0 rfl
    have af0 := A1.f 0 rfl
    have a1 := A1.c 1 rfl
    have af1 := A1.f 1 rfl
    go_wp2_with (at_builtin; refine Kind.app kI_ok (w1.alloc (.cells #[] 3)) rfl (.tmp 15) (.tmp 17) rfl (w.heap.size + 1 + 1) (.slice (some ⟨w1.heap.size, 0, none⟩) 0 0) [] rfl HE.out (by simp; omega) ao q q.length cap rfl rfl hno _ HZ.out (by simp; omega) ?_; intro v3 w3 hO3 hB3 hG3 hn3; obtain ⟨g, c, rfl, hF3⟩ := hO3.some (hn3 some_ne); rw [List.nil_append] at hF3 hO3; have HOw := hid hO3; have A3 := (A1.alloc (.cells #[] 3)).below hB3 (by omega); have R3 := (R1.alloc (.cells #[] 3)).below hB3 (by omega); have hB4 : Below w.heap.size w w3 := hB1.trans (((below1 w1 (.cells #[] 3)).mono hB1.size).trans (hB3.mono (by omega))); have hs3 : w.heap.size + 1 + 1 ≤ w3.heap.size := (by have := hB3.size; simp at this; omega); have HF : Hid (kI.Fresh (w.heap.size + 1 + 1) w3.heap.size w3 (some ⟨g, 0, none⟩) c q) := hF3; clear hO3 hB3 hG3 hn3 hF3 HE HZ a0 a1 af0 af1 A1 R1; have a0 := A3.c 0 rfl; have a1 := A3.c 1 rfl; have af0 := A3.f 0 rfl; have af1 := A3.f 1 rfl; have r0 := R3.c 0 rfl; have r1 := R3.c 1 rfl; have rf0 := R3.f 0 rfl; have rf1 := R3.f 1 rfl)
    have HZ4 : Hid (kI.In w3.heap.size (w3.setCell ⟨w.heap.size, 1, none⟩ (.slice (some ⟨g, 0, none⟩) q.length c)) (some ⟨g, 0, none⟩) q) := (HF.out.setBelow (a := ⟨w.heap.size, 1, none⟩) (by simp; omega) _).in.up (by simp)
    refine (l1Has_is _ (some ⟨g, 0, none⟩) c q iv _ false hl HZ4.out HM.out).mono ?_
    rintro e w4 ⟨rfl, rfl⟩
    go_wp2
    refine bodyPost_ret (v := .tuple #[.agg #[.int .i64 s1, .slice (some ⟨g, 0, none⟩) q.length c], .int .i64 0]) (by simp [results, Try.results47, go_sem, r0, r1]) rfl ?_
    rw [HR.out]
    exact ⟨⟨_, c, rfl, (((HF.out.setBelow (a := ⟨w.heap.size, 1, none⟩) (by simp; omega) _).setBelow (a := ⟨w.heap.size + 1, 0, none⟩) (by simp) _).setBelow (a := ⟨w.heap.size + 1, 1, none⟩) (by simp) _).wide (by omega) (by simp)⟩, (((hB4.setCell (p := ⟨w.heap.size, 1, none⟩) (by simp) _).setCell (p := ⟨w.heap.size + 1, 0, none⟩) (by simp) _).setCell (p := ⟨w.heap.size + 1, 1, none⟩) (by simp) _)⟩
  · have h0' : (s1 == 0) = false := by simpa using h0
    have HR : Hid (waitR s1 q iv = (s1, q ++ [iv], 1)) := waitR_waits hg hi hm h0
    clear hg hi hm h0
    go_enter Try.func47, Try.ntmps47
    go_wp2_with fail
    rw [← HW.out]
    refine (specGood_is s1 ao cap q W2 true hl hc (hz.later hB2) HG.out).mono ?_
    rintro e w1 ⟨rfl, hb1⟩
    have hB1 := hB2.trans (hb1.mono hB2.size)
    have A1 := A2.later hb1
    have R1 := R2.later hb1
    have hs1 : w.heap.size + 1 + 1 ≤ w1.heap.size := by have := hb1.size; rw [HS.out] at this; exact this
    clear hb1 A2 R2
    go_wp2_with fail
    refine (l3Task_is iv _ true HI.out).mono ?_
    rintro e w1 ⟨rfl, rfl⟩
    have HE : Hid (kI.Own (w.heap.size + 1 + 1) (w1.alloc (.cells #[] 3)) (.slice (some ⟨w1.heap.size, 0, none⟩) 0 0) []) := Kind.Own.new kI _ w1 hs1
    have HZ : Hid (kI.In w1.heap.size (w1.alloc (.cells #[] 3)) ao q) := (hz.later hB1).below (below1 _ _)
    have hA1 : w.heap.size < w1.heap.size := A1.size
    have a0 := A1.c 0 rfl
    have af0 := A1.f 0 rfl
    have a1 := A1.c 1 rfl
    have af1 := A1.f 1 rfl
    go_wp2_with (at_builtin; refine Kind.app kI_ok (w1.alloc (.cells #[] 3)) rfl (.tmp 15) (.tmp 17) rfl (w.heap.size + 1 + 1) (.slice (some ⟨w1.heap.size, 0, none⟩) 0 0) [] rfl HE.out (by simp; omega) ao q q.length cap rfl rfl hno _ HZ.out (by simp; omega) ?_; intro v3 w3 hO3 hB3 hG3 hn3; obtain ⟨g, c, rfl, hF3⟩ := hO3.some (hn3 some_ne); rw [List.nil_append] at hF3 hO3; have HOw := hid hO3; have A3 := (A1.alloc (.cells #[] 3)).below hB3 (by omega); have R3 := (R1.alloc (.cells #[] 3)).below hB3 (by omega); have hB4 : Below w.heap.size w w3 := hB1.trans (((below1 w1 (.cells #[] 3)).mono hB1.size).trans (hB3.mono (by omega))); have hs3 : w.heap.size + 1 + 1 ≤ w3.heap.size := (by have := hB3.size; simp at this; omega); have HF : Hid (kI.Fresh (w.heap.size + 1 + 1) w3.heap.size w3 (some ⟨g, 0, none⟩) c q) := hF3; clear hO3 hB3 hG3 hn3 hF3 HE HZ a0 a1 af0 af1 A1 R1; have a0 := A3.c 0 rfl; have a1 := A3.c 1 rfl; have af0 := A3.f 0 rfl; have af1 := A3.f 1 rfl; have r0 := R3.c 0 rfl; have r1 := R3.c 1 rfl; have rf0 := R3.f 0 rfl; have rf1 := R3.f 1 rfl)
    have HZ4 : Hid (kI.In w3.heap.size (w3.setCell ⟨w.heap.size, 1, none⟩ (.slice (some ⟨g, 0, none⟩) q.length c)) (some ⟨g, 0, none⟩) q) := (HF.out.setBelow (a := ⟨w.heap.size, 1, none⟩) (by simp; omega) _).in.up (by simp)
    refine (l1Has_is _ (some ⟨g, 0, none⟩) c q iv _ false hl HZ4.out HM.out).mono ?_
    rintro e w4 ⟨rfl, rfl⟩
    obtain ⟨V, hV⟩ : ∃ V, V = (w3.setCell ⟨w.heap.size, 1, none⟩ (.slice (some ⟨g, 0, none⟩) q.length c)) := ⟨_, rfl⟩
    have HV : Hid (V = (w3.setCell ⟨w.heap.size, 1, none⟩ (.slice (some ⟨g, 0, none⟩) q.length c))) := hV
    have A5 : Bx V w.heap.size [.int .i64 s1, .slice (some ⟨g, 0, none⟩) q.length c] := by rw [hV]; exact A3.set 1 _
    have R5 : Bx V (w.heap.size + 1) [.int .i64 0, .slice none 0 0] := by rw [hV]; exact R3.other (by simp) _
    have F5 : Hid (kI.Fresh (w.heap.size + 1 + 1) V.heap.size V (some ⟨g, 0, none⟩) c q) := by rw [hV]; exact (HF.out.setBelow (a := ⟨w.heap.size, 1, none⟩) (by simp; omega) _).wide (Nat.le_refl _) (by simp)
    have hBV : Below w.heap.size w V := by rw [hV]; exact (hB4.setCell (p := ⟨w.heap.size, 1, none⟩) (by simp) _)
    have hsV : w.heap.size + 1 + 1 ≤ V.heap.size := by rw [hV]; simpa using hs3
    have HO : Hid (kI.Own (w.heap.size + 1 + 1) (V.alloc (.cells #[.int .i64 iv] 3)) (.slice (some ⟨g, 0, none⟩) q.length c) q) := by
      have h : kI.Own (w.heap.size + 1 + 1) V (.slice (some ⟨g, 0, none⟩) q.length c) q := by rw [hV]; exact HOw.out.setBelow (by simp; omega) _
      exact h.below (below1 _ _)
    have HN : Hid (kI.In (V.heap.size + 1) (V.alloc (.cells #[.int .i64 iv] 3)) (some ⟨V.heap.size, 0, none⟩) [iv]) := int_one (by omega) (by simp)
    rw [← hV]
    clear hV hB4 A3 R3 a0 a1 af0 af1 r0 r1 rf0 rf1 HF HZ4
    have hA5 : w.heap.size < V.heap.size := A5.size
    have a0 := A5.c 0 rfl
    have af0 := A5.f 0 rfl
    have a1 := A5.c 1 rfl
    have af1 := A5.f 1 rfl
    have r0 := R5.c 0 rfl
    have rf0 := R5.f 0 rfl
    have r1 := R5.c 1 rfl
    have rf1 := R5.f 1 rfl
    go_wp2_with (at_builtin; refine Kind.app kI_ok (V.alloc (.cells #[.int .i64 iv] 3)) rfl (.tmp 30) (.tmp 32) rfl (w.heap.size + 1 + 1) (.slice (some ⟨g, 0, none⟩) q.length c) q rfl HO.out (by simp; omega) (some ⟨V.heap.size, 0, none⟩) [iv] 1 1 rfl rfl (by simp) _ HN.out (by simp; omega) ?_; intro v6 w6 hO6 hB6 hG6 hn6; obtain ⟨g', c', rfl, hF6⟩ := hO6.some (hn6 some_ne); have A6 := (A5.alloc (.cells #[.int .i64 iv] 3)).below hB6 (by omega); have R6 := (R5.alloc (.cells #[.int .i64 iv] 3)).below hB6 (by omega); have hB7 : Below w.heap.size w w6 := hBV.trans (((below1 V (.cells #[.int .i64 iv] 3)).mono hBV.size).trans (hB6.mono (by omega))); have hs6 : w.heap.size + 1 + 1 ≤ w6.heap.size := (by have := hB6.size; simp at this; omega); have HF6 : Hid (kI.Fresh (w.heap.size + 1 + 1) w6.heap.size w6 (some ⟨g', 0, none⟩) c' (q ++ [iv])) := hF6; clear hO6 hB6 hG6 hn6 hF6 HO HN a0 a1 af0 af1 r0 r1 rf0 rf1 A5 R5; have a0 := A6.c 0 rfl; have a1 := A6.c 1 rfl; have af0 := A6.f 0 rfl; have af1 := A6.f 1 rfl; have r0 := R6.c 0 rfl; have r1 := R6.c 1 rfl; have rf0 := R6.f 0 rfl; have rf1 := R6.f 1 rfl)
    refine bodyPost_ret (v := .tuple #[.agg #[.int .i64 s1, .slice (some ⟨g', 0, none⟩) (q ++ [iv]).length c'], .int .i64 1]) (by simp [results, Try.results47, go_sem, r0, r1]) rfl ?_
    rw [HR.out]
    exact ⟨⟨_, c', rfl, (((HF6.out.setBelow (a := ⟨w.heap.size, 1, none⟩) (by simp; omega) _).setBelow (a := ⟨w.heap.size + 1, 0, none⟩) (by simp) _).setBelow (a := ⟨w.heap.size + 1, 1, none⟩) (by simp) _).wide (by omega) (by simp)⟩, (((hB7.setCell (p := ⟨w.heap.size, 1, none⟩) (by simp) _).setCell (p := ⟨w.heap.size + 1, 0, none⟩) (by simp) _).setCell (p := ⟨w.heap.size + 1, 1, none⟩) (by simp) _)⟩
end
section
open Go.RowKit

section
variable {α : Type} {K : Kind α}
/-- A new row that is its own besides. -/
def Kind.FrO (K : Kind α) (lo hi : Nat) (W : World) (to : Option Addr) (tc : Nat) (xs : List α) : Prop := K.Fresh lo hi W to tc xs ∧ K.Own lo W (.slice to xs.length tc) xs
theorem own_less {lo lo' : Nat} {W : World} {v : Value} {xs : List α} (h : K.Own lo W v xs) (hl : lo' ≤ lo) : K.Own lo' W v xs := by
  obtain ⟨h1, h2⟩ := h
  refine ⟨h1, ?_⟩
  rcases h2 with h2 | ⟨g, cap, cur, hv, hg, r⟩
  · exact .inl h2
  · exact .inr ⟨g, cap, cur, hv, Nat.le_trans hl hg, r⟩
theorem Kind.FrO.nil {lo hi : Nat} {W : World} : K.FrO lo hi W none 0 [] := ⟨.inl rfl, Kind.Own.nil _ _ _⟩
theorem Kind.FrO.in [Inhabited α] {lo hi : Nat} {W : World} {to : Option Addr} {tc : Nat} {xs : List α} (h : K.FrO lo hi W to tc xs) : K.In W.heap.size W to xs := h.1.in
theorem Kind.FrO.cap {lo hi : Nat} {W : World} {to : Option Addr} {tc : Nat} {xs : List α} (h : K.FrO lo hi W to tc xs) : xs.length ≤ tc := h.1.cap
theorem Kind.FrO.later {lo hi : Nat} {W W' : World} {to : Option Addr} {tc : Nat} {xs : List α} (h : K.FrO lo hi W to tc xs) (hb : Below W.heap.size W W') : K.FrO lo hi W' to tc xs := ⟨h.1.later hb, h.2.below hb⟩
theorem Kind.FrO.wide {lo hi lo' hi' : Nat} {W : World} {to : Option Addr} {tc : Nat} {xs : List α} (h : K.FrO lo hi W to tc xs) (h1 : lo' ≤ lo) (h2 : hi ≤ hi') : K.FrO lo' hi' W to tc xs := ⟨h.1.wide h1 h2, own_less h.2 h1⟩
theorem Kind.FrO.setBelow {lo hi : Nat} {W : World} {to : Option Addr} {tc : Nat} {xs : List α} (h : K.FrO lo hi W to tc xs) {a : Addr} (ha : a.block < lo) (u : Value) : K.FrO lo hi (W.setCell a u) to tc xs := ⟨h.1.setBelow ha u, h.2.setBelow ha u⟩
theorem Kind.Own.someO {lo : Nat} {W : World} {v : Value} {xs : List α} (h : K.Own lo W v xs) (hv : v ≠ .slice none 0 0) : ∃ g c, v = .slice (Option.some ⟨g, 0, none⟩) xs.length c ∧ K.FrO lo W.heap.size W (Option.some ⟨g, 0, none⟩) c xs := by
  obtain ⟨g, c, e, hF⟩ := h.some hv
  exact ⟨g, c, e, hF, by rw [← e]; exact h⟩
/-- A new row that is not empty is its own. -/
theorem Kind.Fresh.own {lo hi : Nat} {W : World} {to : Option Addr} {tc : Nat} {xs : List α} (h : K.Fresh lo hi W to tc xs) (hn : 0 < xs.length) : K.Own lo W (.slice to xs.length tc) xs := by
  obtain ⟨g, e, _, _, _, ho⟩ := h.at hn
  subst e; exact ho
end
theorem l5Own_own (s1 s2 : Int) (ao : Option Addr) (cap : Nat) (l : List (Int × Int)) (w : World) (hl : l.length ≤ 1048576) (hno : ao = none → cap = 0) (hz : kN.In w.heap.size w ao l) :
    Calls Try.prog 31 #[.agg #[.int .i64 s1, .int .i64 s2, .slice ao l.length cap]] w fun e w' => (∃ g c, e = .returned (.agg #[.int .i64 s1, .int .i64 s2, .slice (some ⟨g, 0, none⟩) l.length c]) ∧ kN.FrO w.heap.size w'.heap.size w' (some ⟨g, 0, none⟩) c l ∧ kN.Own w.heap.size w' (.slice (some ⟨g, 0, none⟩) l.length c) l) ∧ Below w.heap.size w w' :=
  (l5Own_any s1 s2 ao cap l w hl hno hz).mono fun _ _ ⟨⟨g, c, e, hF, hO⟩, hb⟩ => ⟨⟨g, c, e, ⟨hF, hO⟩, hO⟩, hb⟩
/-- A group and a code, its row its own. -/
def AnsGo (w : World) (R : Int × List Int × Int) (e : Ending) (w' : World) : Prop :=
  (∃ o c, e = .returned (.tuple #[.agg #[.int .i64 R.1, .slice o R.2.1.length c], .int .i64 R.2.2]) ∧ kI.FrO w.heap.size w'.heap.size w' o c R.2.1) ∧ Below w.heap.size w w'
/-- A room, those that go and 0, its row its own. -/
def AnsMo (w : World) (s1 : Int) (R : Int × List (Int × Int) × List Int) (e : Ending) (w' : World) : Prop :=
  (∃ o c o' c', e = .returned (.tuple #[.agg #[.int .i64 s1, .int .i64 R.1, .slice o R.2.1.length c], .slice o' R.2.2.length c', .int .i64 0]) ∧ kN.FrO w.heap.size w'.heap.size w' o c R.2.1 ∧ kI.Fresh w.heap.size w'.heap.size w' o' c' R.2.2) ∧ Below w.heap.size w w'
end
section
open Go.RowKit

/-- The bytes of a text in memory. -/
def BytesIn (n : Nat) (W : World) (co : Option Addr) (bs : List Int) : Prop :=
  bs = [] ∨ ∃ b off, co = some ⟨b, off, none⟩ ∧ b < n ∧ ∀ j, j < bs.length → W.cell? ⟨b, off + j, none⟩ = some (.int .u8 (bs[j]?.getD 0)) ∧ 0 ≤ bs[j]?.getD 0 ∧ bs[j]?.getD 0 ≤ 255
/-- The cursor: its bytes, where it stands, its seed. -/
def Cur (W : World) (p : Nat) (co : Option Addr) (cap : Nat) (bs : List Int) (k : Nat) (sd : Int) : Prop :=
  p < W.heap.size ∧ (W.cell? ⟨p, 0, none⟩ = some (.slice co bs.length cap) ∧ W.cell? ⟨p, 1, none⟩ = some (.int .i64 (k : Int)) ∧ W.cell? ⟨p, 2, none⟩ = some (.int .u64 sd)) ∧ (W.frozen? ⟨p, 0, none⟩ = false ∧ W.frozen? ⟨p, 1, none⟩ = false ∧ W.frozen? ⟨p, 2, none⟩ = false) ∧ BytesIn p W co bs

theorem and255 (x : Int) : 0 ≤ wrap64 (bits .and .u64 x 255) ∧ wrap64 (bits .and .u64 x 255) ≤ 255 := by
  have h : 0 ≤ bits .and .u64 x 255 ∧ bits .and .u64 x 255 ≤ 255 := by
    have hb : ∀ v : BitVec 64, (v &&& BitVec.ofInt 64 255).toNat ≤ 255 := fun v => by
      rw [BitVec.toNat_and]
      exact Nat.le_trans Nat.and_le_right (by decide)
    have hk := hb (BitVec.ofInt 64 x)
    have e : bits .and .u64 x 255 = IntKind.u64.wrap ((BitVec.ofInt 64 x &&& BitVec.ofInt 64 255).toNat : Int) := rfl
    rw [e]
    generalize (BitVec.ofInt 64 x &&& BitVec.ofInt 64 255).toNat = n at hk
    have e2 : IntKind.u64.wrap (n : Int) = (n : Int) % 18446744073709551616 := by simp [IntKind.wrap, IntKind.bits, IntKind.signed]
    rw [e2]; omega
  have e : wrap64 (bits .and .u64 x 255) = bits .and .u64 x 255 := by unfold wrap64; omega
  rw [e]; exact h
theorem cur_step {w : World} {p : Nat} {co : Option Addr} {cap : Nat} {bs : List Int} {k : Nat} {sd : Int} (hC : Cur w p co cap bs k sd) (m n : Nat) (sd' : Int) :
    Cur ((((w.drewN m).setCell ⟨p, 1, none⟩ (.int .i64 ((k : Int) + 1))).setCell ⟨p, 2, none⟩ (.int .u64 sd')).drewN n) p co cap bs (k + 1) sd' ∧ OnlyAt (some ⟨p, 0, none⟩) w ((((w.drewN m).setCell ⟨p, 1, none⟩ (.int .i64 ((k : Int) + 1))).setCell ⟨p, 2, none⟩ (.int .u64 sd')).drewN n) := by
  obtain ⟨hp, ⟨c0, c1, c2⟩, ⟨f0, f1, f2⟩, hB⟩ := hC
  obtain ⟨W, hW⟩ : ∃ W, W = w.drewN m := ⟨_, rfl⟩
  have e : ∀ a, W.cell? a = w.cell? a := fun a => by rw [hW]; rfl
  have ef : ∀ a, W.frozen? a = w.frozen? a := fun a => by rw [hW]; rfl
  have eh : W.heap = w.heap := by rw [hW]; rfl
  have o1 : OnlyAt (some ⟨p, 0, none⟩) w W := ⟨by rw [hW]; rfl, by rw [hW]; rfl, by rw [hW]; rfl, by rw [eh], fun j _ => by rw [eh]⟩
  have o2 := (o1.trans (OnlyAt.set p 1 W (.int .i64 ((k : Int) + 1)))).trans (OnlyAt.set p 2 (W.setCell ⟨p, 1, none⟩ (.int .i64 ((k : Int) + 1))) (.int .u64 sd'))
  rw [← hW]
  have d0 : ((W.setCell ⟨p, 1, none⟩ (.int .i64 ((k : Int) + 1))).setCell ⟨p, 2, none⟩ (.int .u64 sd')).cell? ⟨p, 0, none⟩ = some (.slice co bs.length cap) := by
    rw [World.cell?_setCell_other _ _ _ _ (by simp), World.cell?_setCell_other _ _ _ _ (by simp), e]; exact c0
  have d1 : ((W.setCell ⟨p, 1, none⟩ (.int .i64 ((k : Int) + 1))).setCell ⟨p, 2, none⟩ (.int .u64 sd')).cell? ⟨p, 1, none⟩ = some (.int .i64 ((k + 1 : Nat) : Int)) := by
    rw [World.cell?_setCell_other _ _ _ _ (by simp)]
    have h := e ⟨p, 1, none⟩
    rw [c1] at h
    simp [go_sem, h]
  have d2 : ((W.setCell ⟨p, 1, none⟩ (.int .i64 ((k : Int) + 1))).setCell ⟨p, 2, none⟩ (.int .u64 sd')).cell? ⟨p, 2, none⟩ = some (.int .u64 sd') := by
    have h := e ⟨p, 2, none⟩
    rw [c2] at h
    have h' : (W.setCell ⟨p, 1, none⟩ (.int .i64 ((k : Int) + 1))).cell? ⟨p, 2, none⟩ = some (.int .u64 sd) := by rw [World.cell?_setCell_other _ _ _ _ (by simp)]; exact h
    simp [go_sem, h']
  refine ⟨⟨?_, ⟨d0, d1, d2⟩, ⟨?_, ?_, ?_⟩, ?_⟩, ⟨o2.os, o2.tape, o2.output, o2.size, o2.block⟩⟩
  · show p < ((W.setCell ⟨p, 1, none⟩ (.int .i64 ((k : Int) + 1))).setCell ⟨p, 2, none⟩ (.int .u64 sd')).heap.size
    rw [o2.size]; exact hp
  · show ((W.setCell ⟨p, 1, none⟩ (.int .i64 ((k : Int) + 1))).setCell ⟨p, 2, none⟩ (.int .u64 sd')).frozen? ⟨p, 0, none⟩ = false
    rw [World.frozen?_setCell, World.frozen?_setCell, ef]; exact f0
  · show ((W.setCell ⟨p, 1, none⟩ (.int .i64 ((k : Int) + 1))).setCell ⟨p, 2, none⟩ (.int .u64 sd')).frozen? ⟨p, 1, none⟩ = false
    rw [World.frozen?_setCell, World.frozen?_setCell, ef]; exact f1
  · show ((W.setCell ⟨p, 1, none⟩ (.int .i64 ((k : Int) + 1))).setCell ⟨p, 2, none⟩ (.int .u64 sd')).frozen? ⟨p, 2, none⟩ = false
    rw [World.frozen?_setCell, World.frozen?_setCell, ef]; exact f2
  · rcases hB with hB | ⟨b, off, rfl, hb, hc⟩
    · exact .inl hB
    · refine .inr ⟨b, off, rfl, hb, fun j hj => ⟨?_, (hc j hj).2⟩⟩
      have h := World.cell?_of_block (a := ⟨b, off + j, none⟩) (o2.block b fun g e => by cases e; omega)
      exact h.trans (hc j hj).1

set_option maxRecDepth 10000 in
set_option maxHeartbeats 2000000 in
theorem next_any (p : Nat) (co : Option Addr) (cap : Nat) (bs : List Int) (k : Nat) (sd : Int) (w : World) (hl : bs.length ≤ 9223372036854775807) (ha : k ≤ 1099511627776) (hC : Cur w p co cap bs k sd) :
    Calls Try.prog 48 #[.pointer (some ⟨p, 0, none⟩)] w fun e w' => ∃ x sd', e = .returned (.int .i64 x) ∧ (0 ≤ x ∧ x ≤ 255) ∧ Cur w' p co cap bs (k + 1) sd' ∧ OnlyAt (some ⟨p, 0, none⟩) w w' := by
  have HC : Hid (Cur w p co cap bs k sd) := hC
  obtain ⟨hp, ⟨c0, c1, c2⟩, ⟨f0, f1, f2⟩, hB⟩ := hC
  by_cases h : k < bs.length
  · have h' : decide ((k : Int) < (bs.length : Int)) = true := by simpa using h
    have h2 : decide ((k : Int) + 1 ≤ (bs.length : Int)) = true := by simp; omega
    have hB' := hB
    rcases hB' with hB' | ⟨b, off, rfl, hb, hc⟩
    · subst hB'; simp at h
    obtain ⟨v, hv⟩ : ∃ v, bs[k]?.getD 0 = v := ⟨_, rfl⟩
    obtain ⟨d0, d1, d2⟩ := hc k h
    rw [hv] at d0 d1 d2
    go_enter Try.func48, Try.ntmps48
    go_wp2
    go_quiet (fail)
    go_wp2
    go_quiet (fail)
    go_wp2
    go_quiet (fail)
    go_wp2
    go_ret
    refine ⟨_, _, rfl, ?_, (cur_step HC.out _ _ _).1, (cur_step HC.out _ _ _).2⟩
    have hv' : bs[k] = v := by simpa [h] using hv
    rw [hv']
    have e : wrap64 v = v := by unfold wrap64; omega
    rw [e]; exact ⟨d1, d2⟩
  · have h' : decide ((k : Int) < (bs.length : Int)) = false := by simpa using h
    have h2 : decide ((k : Int) + 1 ≤ (bs.length : Int)) = false := by simp; omega
    go_enter Try.func48, Try.ntmps48
    go_wp2
    go_quiet (fail)
    go_wp2
    go_quiet (fail)
    go_wp2
    go_ret
    refine ⟨_, _, rfl, ?_, (cur_step HC.out _ _ _).1, (cur_step HC.out _ _ _).2⟩
    exact and255 _
end
end Go.Proofs.Ytdgnolpimmdgjaa
