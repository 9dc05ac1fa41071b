/- AddTo: what it answers, and the program. No conditions but those written. -/
import Derived.Test.YtcdkdigafcfgmaaGd
namespace Go.Proofs.Ytcdkdigafcfgmaa
open Go.RowKit

/-- What AddTo answers. -/
def addR (cnt : Int) (q : List Int) (k : Int) : Int × List Int × List Int × Int :=
  if groupB cnt q = true ∧ (-1000000 ≤ k ∧ k ≤ 1000000) then
    if 0 ≤ cnt + k ∧ cnt + k ≤ 1000000 then (if cnt + k = 0 then (0, [], q, 0) else (cnt + k, q, [], 0)) else (cnt, q, [], 3)
  else (0, [], [], 2)
theorem addR_bad {cnt : Int} {q : List Int} {k : Int} (h : groupB cnt q = false) : addR cnt q k = (0, [], [], 2) := by rw [addR, if_neg]; rw [h]; simp
theorem addR_by {cnt : Int} {q : List Int} {k : Int} (h : ¬ (-1000000 ≤ k ∧ k ≤ 1000000)) : addR cnt q k = (0, [], [], 2) := by rw [addR, if_neg]; exact fun x => h x.2
theorem addR_below {cnt : Int} {q : List Int} {k : Int} (h : groupB cnt q = true) (h1 : -1000000 ≤ k ∧ k ≤ 1000000) (h2 : ¬ (0 ≤ cnt + k ∧ cnt + k ≤ 1000000)) : addR cnt q k = (cnt, q, [], 3) := by rw [addR, if_pos ⟨h, h1⟩, if_neg h2]
theorem addR_zero {cnt : Int} {q : List Int} {k : Int} (h : groupB cnt q = true) (h1 : -1000000 ≤ k ∧ k ≤ 1000000) (h2 : cnt + k = 0) : addR cnt q k = (0, [], q, 0) := by rw [addR, if_pos ⟨h, h1⟩, if_pos ⟨by omega, by omega⟩, if_pos h2]
theorem addR_more {cnt : Int} {q : List Int} {k : Int} (h : groupB cnt q = true) (h1 : -1000000 ≤ k ∧ k ≤ 1000000) (h2 : 0 ≤ cnt + k ∧ cnt + k ≤ 1000000) (h3 : cnt + k ≠ 0) : addR cnt q k = (cnt + k, q, [], 0) := by rw [addR, if_pos ⟨h, h1⟩, if_pos h2, if_neg h3]
theorem addR_len {cnt : Int} {q : List Int} {k : Int} (hl : q.length ≤ 1048576) : (addR cnt q k).2.1.length ≤ 1048576 ∧ (addR cnt q k).2.2.1.length ≤ 1048576 := by
  unfold addR; repeat' split
  all_goals simp [hl]
/-- A group, a row of ints and a code, in memory of their own. -/
def AnsA (w : World) (R : Int × List Int × List Int × Int) (e : Ending) (w' : World) : Prop :=
  (∃ o c o' c', e = .returned (.tuple #[.agg #[.int .i64 R.1, .slice o R.2.1.length c], .slice o' R.2.2.1.length c', .int .i64 R.2.2.2]) ∧ kI.Fresh w.heap.size w'.heap.size w' o c R.2.1 ∧ kI.Fresh w.heap.size w'.heap.size w' o' c' R.2.2.1 ∧ Off o R.2.1.length o' R.2.2.1.length) ∧ Below w.heap.size w w'

set_option maxHeartbeats 4000000 in
theorem implAdd_any (s1 : Int) (ao : Option Addr) (cap : Nat) (q : List Int) (iv : Int) (w : World) (hl : q.length ≤ 1048576) (hz : kI.In w.heap.size w ao q) :
    Calls Try.prog 20 #[.agg #[.int .i64 s1, .slice ao q.length cap], .int .i64 iv] w fun e w' => AnsA w (addR s1 q iv) e w' := by
  obtain ⟨W2, hW2⟩ : ∃ W2, W2 = (w.alloc (.cells #[.int .i64 s1, .slice ao q.length cap] 27)).alloc (.cells #[.int .i64 0, .slice none 0 0] 27) := ⟨_, rfl⟩
  have hB2 : Below w.heap.size w W2 := by rw [hW2]; exact below2 _ _ _
  have A2 : Bx W2 w.heap.size [.int .i64 s1, .slice ao q.length cap] := by rw [hW2]; exact (Bx.new [.int .i64 s1, .slice ao q.length cap] _ rfl).alloc _
  have R2 : Bx W2 (w.heap.size + 1) [.int .i64 0, .slice none 0 0] := by rw [hW2]; exact Bx.new [.int .i64 0, .slice none 0 0] _ (by simp)
  have HW : Hid (W2 = (w.alloc (.cells #[.int .i64 s1, .slice ao q.length cap] 27)).alloc (.cells #[.int .i64 0, .slice none 0 0] 27)) := hW2
  have HS : Hid (W2.heap.size = w.heap.size + 1 + 1) := by rw [hW2]; simp [Hid]
  clear hW2
  cases hg : groupB s1 q
  · have HG : Hid (groupB s1 q = false) := hg
    have HR : Hid (addR s1 q iv = (0, [], [], 2)) := addR_bad hg
    clear hg
    go_enter Try.func20, Try.ntmps20
    go_wp2_with fail
    rw [← HW.out]
    refine (implGood_is s1 ao cap q W2 false hl (hz.later hB2) HG.out).mono ?_
    rintro e w1 ⟨rfl, hb1⟩
    have hB1 := hB2.trans (hb1.mono hB2.size)
    have A1 := A2.later hb1
    have R1 := R2.later hb1
    have hs1 : w.heap.size + 1 + 1 ≤ w1.heap.size := by have := hb1.size; rw [HS.out] at this; exact this
    clear hb1 A2 R2
    have r0 := R1.c 0 rfl
    have rf0 := R1.f 0 rfl
    have r1 := R1.c 1 rfl
    have rf1 := R1.f 1 rfl
    go_wp2
    refine bodyPost_ret (v := .tuple #[.agg #[.int .i64 0, .slice none 0 0], .slice none 0 0, .int .i64 2]) (by simp [results, Try.results20, go_sem, r0, r1]) rfl ?_
    rw [HR.out]
    exact ⟨⟨none, 0, none, 0, rfl, .inl rfl, .inl rfl, .inl rfl⟩, ((hB1.setCell (p := ⟨w.heap.size + 1, 0, none⟩) (by simp) _).setCell (p := ⟨w.heap.size + 1, 1, none⟩) (by simp) _)⟩
  have HG : Hid (groupB s1 q = true) := hg
  obtain ⟨g1, g2, g3, g4⟩ := groupB_good hg
  have HQ : Hid (lineB q = true ∧ (0 < s1 ∨ q = [])) := ⟨g3, g4⟩
  clear g3 g4
  by_cases hb1 : iv < -1000000
  · have HR : Hid (addR s1 q iv = (0, [], [], 2)) := addR_by (by omega)
    clear hg
    go_enter Try.func20, Try.ntmps20
    go_wp2_with fail
    rw [← HW.out]
    refine (implGood_is s1 ao cap q W2 true hl (hz.later hB2) HG.out).mono ?_
    rintro e w1 ⟨rfl, hb1⟩
    have hB1 := hB2.trans (hb1.mono hB2.size)
    have A1 := A2.later hb1
    have R1 := R2.later hb1
    have hs1 : w.heap.size + 1 + 1 ≤ w1.heap.size := by have := hb1.size; rw [HS.out] at this; exact this
    clear hb1 A2 R2
    have r0 := R1.c 0 rfl
    have rf0 := R1.f 0 rfl
    have r1 := R1.c 1 rfl
    have rf1 := R1.f 1 rfl
    go_wp2
    refine bodyPost_ret (v := .tuple #[.agg #[.int .i64 0, .slice none 0 0], .slice none 0 0, .int .i64 2]) (by simp [results, Try.results20, go_sem, r0, r1]) rfl ?_
    rw [HR.out]
    exact ⟨⟨none, 0, none, 0, rfl, .inl rfl, .inl rfl, .inl rfl⟩, ((hB1.setCell (p := ⟨w.heap.size + 1, 0, none⟩) (by simp) _).setCell (p := ⟨w.heap.size + 1, 1, none⟩) (by simp) _)⟩
  have hb1' : decide (iv < -1000000) = false := by simpa using hb1
  by_cases hb2 : 1000000 < iv
  · have HR : Hid (addR s1 q iv = (0, [], [], 2)) := addR_by (by omega)
    clear hg
    go_enter Try.func20, Try.ntmps20
    go_wp2_with fail
    rw [← HW.out]
    refine (implGood_is s1 ao cap q W2 true hl (hz.later hB2) HG.out).mono ?_
    rintro e w1 ⟨rfl, hb1⟩
    have hB1 := hB2.trans (hb1.mono hB2.size)
    have A1 := A2.later hb1
    have R1 := R2.later hb1
    have hs1 : w.heap.size + 1 + 1 ≤ w1.heap.size := by have := hb1.size; rw [HS.out] at this; exact this
    clear hb1 A2 R2
    have r0 := R1.c 0 rfl
    have rf0 := R1.f 0 rfl
    have r1 := R1.c 1 rfl
    have rf1 := R1.f 1 rfl
    go_wp2
    refine bodyPost_ret (v := .tuple #[.agg #[.int .i64 0, .slice none 0 0], .slice none 0 0, .int .i64 2]) (by simp [results, Try.results20, go_sem, r0, r1]) rfl ?_
    rw [HR.out]
    exact ⟨⟨none, 0, none, 0, rfl, .inl rfl, .inl rfl, .inl rfl⟩, ((hB1.setCell (p := ⟨w.heap.size + 1, 0, none⟩) (by simp) _).setCell (p := ⟨w.heap.size + 1, 1, none⟩) (by simp) _)⟩
  have hb2' : decide (1000000 < iv) = false := by simpa using hb2
  have hbb : -1000000 ≤ iv ∧ iv ≤ 1000000 := ⟨by omega, by omega⟩
  by_cases hc1 : s1 + iv < 0
  · have HR : Hid (addR s1 q iv = (s1, q, [], 3)) := addR_below hg hbb (by omega)
    clear hg
    go_enter Try.func20, Try.ntmps20
    go_wp2_with fail
    rw [← HW.out]
    refine (implGood_is s1 ao cap q W2 true hl (hz.later hB2) HG.out).mono ?_
    rintro e w1 ⟨rfl, hb1⟩
    have hB1 := hB2.trans (hb1.mono hB2.size)
    have A1 := A2.later hb1
    have R1 := R2.later hb1
    have hs1 : w.heap.size + 1 + 1 ≤ w1.heap.size := by have := hb1.size; rw [HS.out] at this; exact this
    clear hb1 A2 R2
    have a0 := A1.c 0 rfl
    have af0 := A1.f 0 rfl
    have a1 := A1.c 1 rfl
    have af1 := A1.f 1 rfl
    go_wp2_with fail
    refine (copyGroup_any s1 ao cap q w1 hl (hz.later hB1)).mono ?_
    rintro e w2 ⟨⟨go1, rfl, hF⟩, hb⟩
    have R3 := R1.later hb
    have hB3 := hB1.trans (hb.mono hB1.size)
    have HF : Hid (kI.Fresh (w.heap.size + 1 + 1) w2.heap.size w2 go1 q.length q) := hF.wide hs1 (Nat.le_refl _)
    clear hb hF
    have r0 := R3.c 0 rfl
    have rf0 := R3.f 0 rfl
    have r1 := R3.c 1 rfl
    have rf1 := R3.f 1 rfl
    go_wp2
    refine bodyPost_ret (v := .tuple #[.agg #[.int .i64 s1, .slice go1 q.length q.length], .slice none 0 0, .int .i64 3]) (by simp [results, Try.results20, go_sem, r0, r1]) rfl ?_
    rw [HR.out]
    exact ⟨⟨go1, q.length, none, 0, rfl, ((HF.out.setBelow (a := ⟨w.heap.size + 1, 0, none⟩) (by simp) _).setBelow (a := ⟨w.heap.size + 1, 1, none⟩) (by simp) _).wide (by omega) (by simp), .inl rfl, .inr (.inl rfl)⟩, ((hB3.setCell (p := ⟨w.heap.size + 1, 0, none⟩) (by simp) _).setCell (p := ⟨w.heap.size + 1, 1, none⟩) (by simp) _)⟩
  have hc1' : decide (s1 + iv < 0) = false := by simpa using hc1
  by_cases hc2 : 1000000 < s1 + iv
  · have HR : Hid (addR s1 q iv = (s1, q, [], 3)) := addR_below hg hbb (by omega)
    clear hg
    go_enter Try.func20, Try.ntmps20
    go_wp2_with fail
    rw [← HW.out]
    refine (implGood_is s1 ao cap q W2 true hl (hz.later hB2) HG.out).mono ?_
    rintro e w1 ⟨rfl, hb1⟩
    have hB1 := hB2.trans (hb1.mono hB2.size)
    have A1 := A2.later hb1
    have R1 := R2.later hb1
    have hs1 : w.heap.size + 1 + 1 ≤ w1.heap.size := by have := hb1.size; rw [HS.out] at this; exact this
    clear hb1 A2 R2
    have a0 := A1.c 0 rfl
    have af0 := A1.f 0 rfl
    have a1 := A1.c 1 rfl
    have af1 := A1.f 1 rfl
    go_wp2_with fail
    refine (copyGroup_any s1 ao cap q w1 hl (hz.later hB1)).mono ?_
    rintro e w2 ⟨⟨go1, rfl, hF⟩, hb⟩
    have R3 := R1.later hb
    have hB3 := hB1.trans (hb.mono hB1.size)
    have HF : Hid (kI.Fresh (w.heap.size + 1 + 1) w2.heap.size w2 go1 q.length q) := hF.wide hs1 (Nat.le_refl _)
    clear hb hF
    have r0 := R3.c 0 rfl
    have rf0 := R3.f 0 rfl
    have r1 := R3.c 1 rfl
    have rf1 := R3.f 1 rfl
    go_wp2
    refine bodyPost_ret (v := .tuple #[.agg #[.int .i64 s1, .slice go1 q.length q.length], .slice none 0 0, .int .i64 3]) (by simp [results, Try.results20, go_sem, r0, r1]) rfl ?_
    rw [HR.out]
    exact ⟨⟨go1, q.length, none, 0, rfl, ((HF.out.setBelow (a := ⟨w.heap.size + 1, 0, none⟩) (by simp) _).setBelow (a := ⟨w.heap.size + 1, 1, none⟩) (by simp) _).wide (by omega) (by simp), .inl rfl, .inr (.inl rfl)⟩, ((hB3.setCell (p := ⟨w.heap.size + 1, 0, none⟩) (by simp) _).setCell (p := ⟨w.heap.size + 1, 1, none⟩) (by simp) _)⟩
  have hc2' : decide (1000000 < s1 + iv) = false := by simpa using hc2
  by_cases hc3 : s1 + iv = 0
  · have HR : Hid (addR s1 q iv = (0, [], q, 0)) := addR_zero hg hbb hc3
    have hc3' : (s1 + iv == 0) = true := by simpa using hc3
    clear hg hc3
    go_enter Try.func20, Try.ntmps20
    go_wp2_with fail
    rw [← HW.out]
    refine (implGood_is s1 ao cap q W2 true hl (hz.later hB2) HG.out).mono ?_
    rintro e w1 ⟨rfl, hb1⟩
    have hB1 := hB2.trans (hb1.mono hB2.size)
    have A1 := A2.later hb1
    have R1 := R2.later hb1
    have hs1 : w.heap.size + 1 + 1 ≤ w1.heap.size := by have := hb1.size; rw [HS.out] at this; exact this
    clear hb1 A2 R2
    have a0 := A1.c 0 rfl
    have af0 := A1.f 0 rfl
    have a1 := A1.c 1 rfl
    have af1 := A1.f 1 rfl
    go_wp2_with fail
    refine (copyListI_any ao cap q w1 hl (hz.later hB1)).mono ?_
    rintro e w2 ⟨⟨go1, rfl, hF⟩, hb⟩
    have R3 := R1.later hb
    have hB3 := hB1.trans (hb.mono hB1.size)
    have HF : Hid (kI.Fresh (w.heap.size + 1 + 1) w2.heap.size w2 go1 q.length q) := hF.wide hs1 (Nat.le_refl _)
    clear hb hF
    have r0 := R3.c 0 rfl
    have rf0 := R3.f 0 rfl
    have r1 := R3.c 1 rfl
    have rf1 := R3.f 1 rfl
    go_wp2
    refine bodyPost_ret (v := .tuple #[.agg #[.int .i64 0, .slice none 0 0], .slice go1 q.length q.length, .int .i64 0]) (by simp [results, Try.results20, go_sem, r0, r1]) rfl ?_
    rw [HR.out]
    exact ⟨⟨none, 0, go1, q.length, rfl, .inl rfl, ((HF.out.setBelow (a := ⟨w.heap.size + 1, 0, none⟩) (by simp) _).setBelow (a := ⟨w.heap.size + 1, 1, none⟩) (by simp) _).wide (by omega) (by simp), .inl rfl⟩, ((hB3.setCell (p := ⟨w.heap.size + 1, 0, none⟩) (by simp) _).setCell (p := ⟨w.heap.size + 1, 1, none⟩) (by simp) _)⟩
  · have HR : Hid (addR s1 q iv = (s1 + iv, q, [], 0)) := addR_more hg hbb ⟨by omega, by omega⟩ hc3
    have hc3' : (s1 + iv == 0) = false := by simpa using hc3
    clear hg hc3
    go_enter Try.func20, Try.ntmps20
    go_wp2_with fail
    rw [← HW.out]
    refine (implGood_is s1 ao cap q W2 true hl (hz.later hB2) HG.out).mono ?_
    rintro e w1 ⟨rfl, hb1⟩
    have hB1 := hB2.trans (hb1.mono hB2.size)
    have A1 := A2.later hb1
    have R1 := R2.later hb1
    have hs1 : w.heap.size + 1 + 1 ≤ w1.heap.size := by have := hb1.size; rw [HS.out] at this; exact this
    clear hb1 A2 R2
    have a0 := A1.c 0 rfl
    have af0 := A1.f 0 rfl
    have a1 := A1.c 1 rfl
    have af1 := A1.f 1 rfl
    go_wp2_with fail
    refine (copyListI_any ao cap q w1 hl (hz.later hB1)).mono ?_
    rintro e w2 ⟨⟨go1, rfl, hF⟩, hb⟩
    have R3 := R1.later hb
    have hB3 := hB1.trans (hb.mono hB1.size)
    have HF : Hid (kI.Fresh (w.heap.size + 1 + 1) w2.heap.size w2 go1 q.length q) := hF.wide hs1 (Nat.le_refl _)
    clear hb hF
    have r0 := R3.c 0 rfl
    have rf0 := R3.f 0 rfl
    have r1 := R3.c 1 rfl
    have rf1 := R3.f 1 rfl
    go_wp2
    refine bodyPost_ret (v := .tuple #[.agg #[.int .i64 (s1 + iv), .slice go1 q.length q.length], .slice none 0 0, .int .i64 0]) (by simp [results, Try.results20, go_sem, r0, r1]) rfl ?_
    rw [HR.out]
    exact ⟨⟨go1, q.length, none, 0, rfl, ((HF.out.setBelow (a := ⟨w.heap.size + 1, 0, none⟩) (by simp) _).setBelow (a := ⟨w.heap.size + 1, 1, none⟩) (by simp) _).wide (by omega) (by simp), .inl rfl, .inr (.inl rfl)⟩, ((hB3.setCell (p := ⟨w.heap.size + 1, 0, none⟩) (by simp) _).setCell (p := ⟨w.heap.size + 1, 1, none⟩) (by simp) _)⟩
end Go.Proofs.Ytcdkdigafcfgmaa
