
/- ApplyStage on both sides. No conditions but those written. -/
import Derived.Test.YtnjnnilmelmmgaaSl
namespace Go.Proofs.Ytnjnnilmelmmgaa
open Go.RowKit

/-- A row of ints of its own and two bools are answered. -/
def AnsB (w : World) (r : List Int × Bool × Bool) (e : Ending) (w' : World) : Prop :=
  (∃ o c, e = .returned (.tuple #[.slice o r.1.length c, .bool r.2.1, .bool r.2.2]) ∧ (o = none → c = 0) ∧ kI.Fresh w.heap.size w'.heap.size w' o c r.1) ∧ Below w.heap.size w w'
theorem ansB_nil {w W : World} {b c : Bool} (hB : Below w.heap.size w W) : AnsB w ([], b, c) (.returned (.tuple #[.slice none 0 0, .bool b, .bool c])) W :=
  ⟨⟨_, _, rfl, fun _ => rfl, .inl rfl⟩, hB⟩
/-- ApplyStage. -/
def appR (k a b v : Int) : List Int × Bool × Bool := if goodSt k a b && valB v then ((appSt k a b v).1, (appSt k a b v).2, true) else ([], false, false)
theorem appR_yes {k a b v : Int} (h : goodSt k a b = true) (hv : valB v = true) : appR k a b v = ((appSt k a b v).1, (appSt k a b v).2, true) := by simp [appR, h, hv]
theorem appR_no1 {k a b v : Int} (h : goodSt k a b = false) : appR k a b v = ([], false, false) := by simp [appR, h]
theorem appR_no2 {k a b v : Int} (hv : valB v = false) : appR k a b v = ([], false, false) := by simp [appR, hv]
theorem appR_len (k a b v : Int) : (appR k a b v).1.length ≤ 3 := by
  unfold appR
  split
  · rename_i h
    exact appSt_len (by revert h; cases goodSt k a b <;> simp)
  · simp
set_option maxHeartbeats 4000000 in
theorem specApp_any (k a b v : Int) (w : World) : Calls Try.prog 13 #[.agg #[.int .i64 k, .int .i64 a, .int .i64 b], .int .i64 v] w (AnsB w (appR k a b v)) := by
  rcases hg : goodSt k a b with _ | _
  · rw [appR_no1 hg]
    have HG := hid hg
    clear hg
    go_enter Try.func13, Try.ntmps13
    go_wp2_with fail
    refine (specGood_is k a b _ _ HG.out).mono ?_
    rintro e w1 ⟨rfl, hw1⟩
    rw [hw1]; clear hw1 w1
    go_wp2
    exact bodyPost_ret (v := .tuple #[.slice none 0 0, .bool false, .bool false]) (by simp [results, Try.results13, go_sem]) rfl (ansB_nil (below2 _ _ _))
  · rcases hv : valB v with _ | _
    · rw [appR_no2 hv]
      have HG := hid hg
      have HV := hid hv
      clear hg hv
      go_enter Try.func13, Try.ntmps13
      go_wp2_with fail
      refine (specGood_is k a b _ _ HG.out).mono ?_
      rintro e w1 ⟨rfl, hw1⟩
      rw [hw1]; clear hw1 w1
      go_wp2_with fail
      refine (l7Value_is v _ _ HV.out).mono ?_
      rintro e w1 ⟨rfl, hw1⟩
      rw [hw1]; clear hw1 w1
      go_wp2
      exact bodyPost_ret (v := .tuple #[.slice none 0 0, .bool false, .bool false]) (by simp [results, Try.results13, go_sem]) rfl (ansB_nil (below2 _ _ _))
    · rw [appR_yes hg hv]
      have HG := hid hg
      have HV := hid hv
      clear hg hv
      generalize hr : appSt k a b v = r
      have HR := hid hr
      clear hr
      go_enter Try.func13, Try.ntmps13
      go_wp2_with fail
      refine (specGood_is k a b _ _ HG.out).mono ?_
      rintro e w1 ⟨rfl, hw1⟩
      rw [hw1]; clear hw1 w1
      go_wp2_with fail
      refine (l7Value_is v _ _ HV.out).mono ?_
      rintro e w1 ⟨rfl, hw1⟩
      rw [hw1]; clear hw1 w1
      go_wp2_with fail
      refine (l7Apply_any k a b v _ HG.out HV.out).mono ?_
      rintro e w1 ⟨⟨o, c, rfl, h0, hF⟩, hb1⟩
      rw [HR.out] at hF ⊢
      have hB1 := (below2 w (.cells #[.int .i64 k, .int .i64 a, .int .i64 b] 25) (.cells #[.int .i64 k, .int .i64 a, .int .i64 b] 25)).trans (hb1.mono (by simp <;> omega))
      have HF := hid (hF.wide (lo' := w.heap.size) (by simp <;> omega) (Nat.le_refl _))
      have H0 := hid h0
      clear hF hb1 h0
      go_wp2
      exact bodyPost_ret (v := .tuple #[.slice o r.1.length c, .bool r.2, .bool true]) (by simp [results, Try.results13, go_sem]) rfl ⟨⟨_, _, rfl, H0.out, HF.out⟩, hB1⟩
set_option maxHeartbeats 4000000 in
theorem implApp0 (k a b v : Int) (w : World) (hg : goodSt k a b = false) : Calls Try.prog 14 #[.agg #[.int .i64 k, .int .i64 a, .int .i64 b], .int .i64 v] w (AnsB w (appR k a b v)) := by
  rw [appR_no1 hg]
  have HG := hid hg
  clear hg
  go_enter Try.func14, Try.ntmps14
  go_wp2_with fail
  refine (goodKind_no k a b _ HG.out).mono ?_
  rintro e w1 ⟨rfl, hb1⟩
  have hB1 := (below1 w (.cells #[.int .i64 k, .int .i64 a, .int .i64 b] 25)).trans (hb1.mono (by simp))
  clear hb1
  go_wp2
  exact bodyPost_ret (v := .tuple #[.slice none 0 0, .bool false, .bool false]) (by simp [results, Try.results14, go_sem]) rfl (ansB_nil (Below.allocS hB1 _))
set_option maxHeartbeats 4000000 in
theorem implApp1n (a b v : Int) (w : World) (hg : goodSt 1 a b = true) (hv : valB v = false) : Calls Try.prog 14 #[.agg #[.int .i64 1, .int .i64 a, .int .i64 b], .int .i64 v] w (AnsB w (appR 1 a b v)) := by
  rw [appR_no2 hv]
  have HG := hid hg
  have HV := hid hv
  clear hg hv
  go_enter Try.func14, Try.ntmps14
  go_wp2_with fail
  refine (goodKind1_true a b _ HG.out).mono ?_
  rintro e w1 ⟨rfl, hb1⟩
  have hB1 := Below.allocS ((below1 w (.cells #[.int .i64 1, .int .i64 a, .int .i64 b] 25)).trans (hb1.mono (by simp))) (.cells #[.func (.func 65) #[] #[], .func (.func 66) #[] #[], .func (.func 67) #[] #[]] 65)
  have XS := hid (((Bx.new (w := w) (p := w.heap.size) [.int .i64 1, .int .i64 a, .int .i64 b] 25 rfl).later hb1).alloc (.cells #[.func (.func 65) #[] #[], .func (.func 66) #[] #[], .func (.func 67) #[] #[]] 65))
  have XK := hid (Bx.new (w := w1) (p := w1.heap.size) [.func (.func 65) #[] #[], .func (.func 66) #[] #[], .func (.func 67) #[] #[]] 65 rfl)
  clear hb1
  go_wp2_with fail
  refine (isValue_is v _ _ HV.out).mono ?_
  rintro e w2 ⟨rfl, hw2⟩
  rw [hw2]; clear hw2 w2
  go_wp2
  exact bodyPost_ret (v := .tuple #[.slice none 0 0, .bool false, .bool false]) (by simp [results, Try.results14, go_sem]) rfl (ansB_nil hB1)
set_option maxHeartbeats 4000000 in
theorem implApp1y (a b v : Int) (w : World) (hg : goodSt 1 a b = true) (hv : valB v = true) : Calls Try.prog 14 #[.agg #[.int .i64 1, .int .i64 a, .int .i64 b], .int .i64 v] w (AnsB w (appR 1 a b v)) := by
  rw [appR_yes hg hv]
  have HG := hid hg
  have HV := hid hv
  clear hg hv
  generalize hr : appSt 1 a b v = r
  have HR := hid hr
  clear hr
  go_enter Try.func14, Try.ntmps14
  go_wp2_with fail
  refine (goodKind1_true a b _ HG.out).mono ?_
  rintro e w1 ⟨rfl, hb1⟩
  have hB1 := Below.allocS ((below1 w (.cells #[.int .i64 1, .int .i64 a, .int .i64 b] 25)).trans (hb1.mono (by simp))) (.cells #[.func (.func 65) #[] #[], .func (.func 66) #[] #[], .func (.func 67) #[] #[]] 65)
  have XS := hid (((Bx.new (w := w) (p := w.heap.size) [.int .i64 1, .int .i64 a, .int .i64 b] 25 rfl).later hb1).alloc (.cells #[.func (.func 65) #[] #[], .func (.func 66) #[] #[], .func (.func 67) #[] #[]] 65))
  have XK := hid (Bx.new (w := w1) (p := w1.heap.size) [.func (.func 65) #[] #[], .func (.func 66) #[] #[], .func (.func 67) #[] #[]] 65 rfl)
  clear hb1
  go_wp2_with fail
  refine (isValue_is v _ _ HV.out).mono ?_
  rintro e w2 ⟨rfl, hw2⟩
  rw [hw2]; clear hw2 w2
  have s0 := XS.out.c 0 rfl
  have s1 := XS.out.c 1 rfl
  have s2 := XS.out.c 2 rfl
  have k0 := XK.out.c 0 rfl
  have k1 := XK.out.c 1 rfl
  have k2 := XK.out.c 2 rfl
  go_wp2_with fail
  clear s0 s1 s2 k0 k1 k2
  refine (mapOne_is a b v _ HG.out HV.out).mono ?_
  rintro e w2 ⟨⟨o, c, rfl, h0, hF⟩, hb2⟩
  rw [HR.out] at hF ⊢
  have hB2 := hB1.trans (hb2.mono hB1.size)
  have HF := hid (hF.wide (lo' := w.heap.size) hB1.size (Nat.le_refl _))
  have H0 := hid h0
  clear hF hb2 h0 XS XK hB1
  go_wp2
  exact bodyPost_ret (v := .tuple #[.slice o r.1.length c, .bool r.2, .bool true]) (by simp [results, Try.results14, go_sem]) rfl ⟨⟨_, _, rfl, H0.out, HF.out⟩, hB2⟩
set_option maxHeartbeats 4000000 in
theorem implApp2n (a b v : Int) (w : World) (hg : goodSt 2 a b = true) (hv : valB v = false) : Calls Try.prog 14 #[.agg #[.int .i64 2, .int .i64 a, .int .i64 b], .int .i64 v] w (AnsB w (appR 2 a b v)) := by
  rw [appR_no2 hv]
  have HG := hid hg
  have HV := hid hv
  clear hg hv
  go_enter Try.func14, Try.ntmps14
  go_wp2_with fail
  refine (goodKind2_true a b _ HG.out).mono ?_
  rintro e w1 ⟨rfl, hb1⟩
  have hB1 := Below.allocS ((below1 w (.cells #[.int .i64 2, .int .i64 a, .int .i64 b] 25)).trans (hb1.mono (by simp))) (.cells #[.func (.func 68) #[] #[], .func (.func 69) #[] #[], .func (.func 67) #[] #[]] 65)
  have XS := hid (((Bx.new (w := w) (p := w.heap.size) [.int .i64 2, .int .i64 a, .int .i64 b] 25 rfl).later hb1).alloc (.cells #[.func (.func 68) #[] #[], .func (.func 69) #[] #[], .func (.func 67) #[] #[]] 65))
  have XK := hid (Bx.new (w := w1) (p := w1.heap.size) [.func (.func 68) #[] #[], .func (.func 69) #[] #[], .func (.func 67) #[] #[]] 65 rfl)
  clear hb1
  go_wp2_with fail
  refine (isValue_is v _ _ HV.out).mono ?_
  rintro e w2 ⟨rfl, hw2⟩
  rw [hw2]; clear hw2 w2
  go_wp2
  exact bodyPost_ret (v := .tuple #[.slice none 0 0, .bool false, .bool false]) (by simp [results, Try.results14, go_sem]) rfl (ansB_nil hB1)
set_option maxHeartbeats 4000000 in
theorem implApp2y (a b v : Int) (w : World) (hg : goodSt 2 a b = true) (hv : valB v = true) : Calls Try.prog 14 #[.agg #[.int .i64 2, .int .i64 a, .int .i64 b], .int .i64 v] w (AnsB w (appR 2 a b v)) := by
  rw [appR_yes hg hv]
  have HG := hid hg
  have HV := hid hv
  clear hg hv
  generalize hr : appSt 2 a b v = r
  have HR := hid hr
  clear hr
  go_enter Try.func14, Try.ntmps14
  go_wp2_with fail
  refine (goodKind2_true a b _ HG.out).mono ?_
  rintro e w1 ⟨rfl, hb1⟩
  have hB1 := Below.allocS ((below1 w (.cells #[.int .i64 2, .int .i64 a, .int .i64 b] 25)).trans (hb1.mono (by simp))) (.cells #[.func (.func 68) #[] #[], .func (.func 69) #[] #[], .func (.func 67) #[] #[]] 65)
  have XS := hid (((Bx.new (w := w) (p := w.heap.size) [.int .i64 2, .int .i64 a, .int .i64 b] 25 rfl).later hb1).alloc (.cells #[.func (.func 68) #[] #[], .func (.func 69) #[] #[], .func (.func 67) #[] #[]] 65))
  have XK := hid (Bx.new (w := w1) (p := w1.heap.size) [.func (.func 68) #[] #[], .func (.func 69) #[] #[], .func (.func 67) #[] #[]] 65 rfl)
  clear hb1
  go_wp2_with fail
  refine (isValue_is v _ _ HV.out).mono ?_
  rintro e w2 ⟨rfl, hw2⟩
  rw [hw2]; clear hw2 w2
  have s0 := XS.out.c 0 rfl
  have s1 := XS.out.c 1 rfl
  have s2 := XS.out.c 2 rfl
  have k0 := XK.out.c 0 rfl
  have k1 := XK.out.c 1 rfl
  have k2 := XK.out.c 2 rfl
  go_wp2_with fail
  clear s0 s1 s2 k0 k1 k2
  refine (filterOne_is a b v _ HG.out).mono ?_
  rintro e w2 ⟨⟨o, c, rfl, h0, hF⟩, hb2⟩
  rw [HR.out] at hF ⊢
  have hB2 := hB1.trans (hb2.mono hB1.size)
  have HF := hid (hF.wide (lo' := w.heap.size) hB1.size (Nat.le_refl _))
  have H0 := hid h0
  clear hF hb2 h0 XS XK hB1
  go_wp2
  exact bodyPost_ret (v := .tuple #[.slice o r.1.length c, .bool r.2, .bool true]) (by simp [results, Try.results14, go_sem]) rfl ⟨⟨_, _, rfl, H0.out, HF.out⟩, hB2⟩
set_option maxHeartbeats 4000000 in
theorem implApp3n (a b v : Int) (w : World) (hg : goodSt 3 a b = true) (hv : valB v = false) : Calls Try.prog 14 #[.agg #[.int .i64 3, .int .i64 a, .int .i64 b], .int .i64 v] w (AnsB w (appR 3 a b v)) := by
  rw [appR_no2 hv]
  have HG := hid hg
  have HV := hid hv
  clear hg hv
  go_enter Try.func14, Try.ntmps14
  go_wp2_with fail
  refine (goodKind3_true a b _ HG.out).mono ?_
  rintro e w1 ⟨rfl, hb1⟩
  have hB1 := Below.allocS ((below1 w (.cells #[.int .i64 3, .int .i64 a, .int .i64 b] 25)).trans (hb1.mono (by simp))) (.cells #[.func (.func 70) #[] #[], .func (.func 71) #[] #[], .func (.func 72) #[] #[]] 65)
  have XS := hid (((Bx.new (w := w) (p := w.heap.size) [.int .i64 3, .int .i64 a, .int .i64 b] 25 rfl).later hb1).alloc (.cells #[.func (.func 70) #[] #[], .func (.func 71) #[] #[], .func (.func 72) #[] #[]] 65))
  have XK := hid (Bx.new (w := w1) (p := w1.heap.size) [.func (.func 70) #[] #[], .func (.func 71) #[] #[], .func (.func 72) #[] #[]] 65 rfl)
  clear hb1
  go_wp2_with fail
  refine (isValue_is v _ _ HV.out).mono ?_
  rintro e w2 ⟨rfl, hw2⟩
  rw [hw2]; clear hw2 w2
  go_wp2
  exact bodyPost_ret (v := .tuple #[.slice none 0 0, .bool false, .bool false]) (by simp [results, Try.results14, go_sem]) rfl (ansB_nil hB1)
set_option maxHeartbeats 4000000 in
theorem implApp3y (a b v : Int) (w : World) (hg : goodSt 3 a b = true) (hv : valB v = true) : Calls Try.prog 14 #[.agg #[.int .i64 3, .int .i64 a, .int .i64 b], .int .i64 v] w (AnsB w (appR 3 a b v)) := by
  rw [appR_yes hg hv]
  have HG := hid hg
  have HV := hid hv
  clear hg hv
  generalize hr : appSt 3 a b v = r
  have HR := hid hr
  clear hr
  go_enter Try.func14, Try.ntmps14
  go_wp2_with fail
  refine (goodKind3_true a b _ HG.out).mono ?_
  rintro e w1 ⟨rfl, hb1⟩
  have hB1 := Below.allocS ((below1 w (.cells #[.int .i64 3, .int .i64 a, .int .i64 b] 25)).trans (hb1.mono (by simp))) (.cells #[.func (.func 70) #[] #[], .func (.func 71) #[] #[], .func (.func 72) #[] #[]] 65)
  have XS := hid (((Bx.new (w := w) (p := w.heap.size) [.int .i64 3, .int .i64 a, .int .i64 b] 25 rfl).later hb1).alloc (.cells #[.func (.func 70) #[] #[], .func (.func 71) #[] #[], .func (.func 72) #[] #[]] 65))
  have XK := hid (Bx.new (w := w1) (p := w1.heap.size) [.func (.func 70) #[] #[], .func (.func 71) #[] #[], .func (.func 72) #[] #[]] 65 rfl)
  clear hb1
  go_wp2_with fail
  refine (isValue_is v _ _ HV.out).mono ?_
  rintro e w2 ⟨rfl, hw2⟩
  rw [hw2]; clear hw2 w2
  have s0 := XS.out.c 0 rfl
  have s1 := XS.out.c 1 rfl
  have s2 := XS.out.c 2 rfl
  have k0 := XK.out.c 0 rfl
  have k1 := XK.out.c 1 rfl
  have k2 := XK.out.c 2 rfl
  go_wp2_with fail
  clear s0 s1 s2 k0 k1 k2
  refine (expandOne_is a b v _ HG.out HV.out).mono ?_
  rintro e w2 ⟨⟨o, c, rfl, h0, hF⟩, hb2⟩
  rw [HR.out] at hF ⊢
  have hB2 := hB1.trans (hb2.mono hB1.size)
  have HF := hid (hF.wide (lo' := w.heap.size) hB1.size (Nat.le_refl _))
  have H0 := hid h0
  clear hF hb2 h0 XS XK hB1
  go_wp2
  exact bodyPost_ret (v := .tuple #[.slice o r.1.length c, .bool r.2, .bool true]) (by simp [results, Try.results14, go_sem]) rfl ⟨⟨_, _, rfl, H0.out, HF.out⟩, hB2⟩
set_option maxHeartbeats 4000000 in
theorem implApp4n (a b v : Int) (w : World) (hg : goodSt 4 a b = true) (hv : valB v = false) : Calls Try.prog 14 #[.agg #[.int .i64 4, .int .i64 a, .int .i64 b], .int .i64 v] w (AnsB w (appR 4 a b v)) := by
  rw [appR_no2 hv]
  have HG := hid hg
  have HV := hid hv
  clear hg hv
  go_enter Try.func14, Try.ntmps14
  go_wp2_with fail
  refine (goodKind4_true a b _ HG.out).mono ?_
  rintro e w1 ⟨rfl, hb1⟩
  have hB1 := Below.allocS ((below1 w (.cells #[.int .i64 4, .int .i64 a, .int .i64 b] 25)).trans (hb1.mono (by simp))) (.cells #[.func (.func 68) #[] #[], .func (.func 73) #[] #[], .func (.func 67) #[] #[]] 65)
  have XS := hid (((Bx.new (w := w) (p := w.heap.size) [.int .i64 4, .int .i64 a, .int .i64 b] 25 rfl).later hb1).alloc (.cells #[.func (.func 68) #[] #[], .func (.func 73) #[] #[], .func (.func 67) #[] #[]] 65))
  have XK := hid (Bx.new (w := w1) (p := w1.heap.size) [.func (.func 68) #[] #[], .func (.func 73) #[] #[], .func (.func 67) #[] #[]] 65 rfl)
  clear hb1
  go_wp2_with fail
  refine (isValue_is v _ _ HV.out).mono ?_
  rintro e w2 ⟨rfl, hw2⟩
  rw [hw2]; clear hw2 w2
  go_wp2
  exact bodyPost_ret (v := .tuple #[.slice none 0 0, .bool false, .bool false]) (by simp [results, Try.results14, go_sem]) rfl (ansB_nil hB1)
set_option maxHeartbeats 4000000 in
theorem implApp4y (a b v : Int) (w : World) (hg : goodSt 4 a b = true) (hv : valB v = true) : Calls Try.prog 14 #[.agg #[.int .i64 4, .int .i64 a, .int .i64 b], .int .i64 v] w (AnsB w (appR 4 a b v)) := by
  rw [appR_yes hg hv]
  have HG := hid hg
  have HV := hid hv
  clear hg hv
  generalize hr : appSt 4 a b v = r
  have HR := hid hr
  clear hr
  go_enter Try.func14, Try.ntmps14
  go_wp2_with fail
  refine (goodKind4_true a b _ HG.out).mono ?_
  rintro e w1 ⟨rfl, hb1⟩
  have hB1 := Below.allocS ((below1 w (.cells #[.int .i64 4, .int .i64 a, .int .i64 b] 25)).trans (hb1.mono (by simp))) (.cells #[.func (.func 68) #[] #[], .func (.func 73) #[] #[], .func (.func 67) #[] #[]] 65)
  have XS := hid (((Bx.new (w := w) (p := w.heap.size) [.int .i64 4, .int .i64 a, .int .i64 b] 25 rfl).later hb1).alloc (.cells #[.func (.func 68) #[] #[], .func (.func 73) #[] #[], .func (.func 67) #[] #[]] 65))
  have XK := hid (Bx.new (w := w1) (p := w1.heap.size) [.func (.func 68) #[] #[], .func (.func 73) #[] #[], .func (.func 67) #[] #[]] 65 rfl)
  clear hb1
  go_wp2_with fail
  refine (isValue_is v _ _ HV.out).mono ?_
  rintro e w2 ⟨rfl, hw2⟩
  rw [hw2]; clear hw2 w2
  have s0 := XS.out.c 0 rfl
  have s1 := XS.out.c 1 rfl
  have s2 := XS.out.c 2 rfl
  have k0 := XK.out.c 0 rfl
  have k1 := XK.out.c 1 rfl
  have k2 := XK.out.c 2 rfl
  go_wp2_with fail
  clear s0 s1 s2 k0 k1 k2
  refine (poisonOne_is a b v _ HG.out).mono ?_
  rintro e w2 ⟨⟨o, c, rfl, h0, hF⟩, hb2⟩
  rw [HR.out] at hF ⊢
  have hB2 := hB1.trans (hb2.mono hB1.size)
  have HF := hid (hF.wide (lo' := w.heap.size) hB1.size (Nat.le_refl _))
  have H0 := hid h0
  clear hF hb2 h0 XS XK hB1
  go_wp2
  exact bodyPost_ret (v := .tuple #[.slice o r.1.length c, .bool r.2, .bool true]) (by simp [results, Try.results14, go_sem]) rfl ⟨⟨_, _, rfl, H0.out, HF.out⟩, hB2⟩
theorem implApp_any (k a b v : Int) (w : World) : Calls Try.prog 14 #[.agg #[.int .i64 k, .int .i64 a, .int .i64 b], .int .i64 v] w (AnsB w (appR k a b v)) := by
  rcases hg : goodSt k a b with _ | _
  · exact implApp0 k a b v w hg
  · rcases hv : valB v with _ | _
    · rcases good_kind hg with rfl | rfl | rfl | rfl
      · exact implApp1n a b v w hg hv
      · exact implApp2n a b v w hg hv
      · exact implApp3n a b v w hg hv
      · exact implApp4n a b v w hg hv
    · rcases good_kind hg with rfl | rfl | rfl | rfl
      · exact implApp1y a b v w hg hv
      · exact implApp2y a b v w hg hv
      · exact implApp3y a b v w hg hv
      · exact implApp4y a b v w hg hv
end Go.Proofs.Ytnjnnilmelmmgaa
