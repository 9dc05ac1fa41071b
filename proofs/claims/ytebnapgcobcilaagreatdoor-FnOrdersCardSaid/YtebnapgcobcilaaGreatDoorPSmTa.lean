/- ApplyStage on both sides. No conditions but those written. Rows of stages; chains in plain words. No conditions but those written. -/
import Derived.Test.YtebnapgcobcilaaGreatDoorPShSl
namespace Go.Proofs.YtebnapgcobcilaaGreatDoor
section
open Go.RowKit

/-- A row of ints of its own and two bools are answered. -/
def AnsB (w : World) (r : List Int × Bool × Bool) (e : Ending) (w' : World) : Prop :=
  (∃ o c, e = .returned (.tuple #[.slice o r.1.length c, .bool r.2.1, .bool r.2.2]) ∧ (o = none → c = 0) ∧ kI.Fresh w.heap.size w'.heap.size w' o c r.1) ∧ Below w.heap.size w w'
theorem ansB_nil {w W : World} {b c : Bool} (hB : Below w.heap.size w W) : AnsB w ([], b, c) (.returned (.tuple #[.slice none 0 0, .bool b, .bool c])) W :=
  ⟨⟨_, _, rfl, fun _ => rfl, .inl rfl⟩, hB⟩
/-- ApplyStage. -/
def appR (k a b v : Int) : List Int × Bool × Bool := if goodSt k a b && valB v then ((appSt k a b v).1, (appSt k a b v).2, true) else ([], false, false)
theorem appR_yes {k a b v : Int} (h : goodSt k a b = true) (hv : valB v = true) : appR k a b v = ((appSt k a b v).1, (appSt k a b v).2, true) := by simp [appR, h, hv]
theorem appR_no1 {k a b v : Int} (h : goodSt k a b = false) : appR k a b v = ([], false, false) := by simp [appR, h]
theorem appR_no2 {k a b v : Int} (hv : valB v = false) : appR k a b v = ([], false, false) := by simp [appR, hv]
theorem appR_len (k a b v : Int) : (appR k a b v).1.length ≤ 3 := by
  unfold appR
  split
  · rename_i h
    exact appSt_len (by revert h; cases goodSt k a b <;> simp)
  · simp
set_option maxHeartbeats 4000000 in
theorem implApp0 (k a b v : Int) (w : World) (hg : goodSt k a b = false) : Calls Tryz.prog 86 #[.agg #[.int .i64 k, .int .i64 a, .int .i64 b], .int .i64 v] w (AnsB w (appR k a b v)) := by
  rw [appR_no1 hg]
  have HG := hid hg
  clear hg
  go_enter Tryz.func86, Tryz.ntmps86
  go_wp2_with fail
  refine (goodKind_no k a b _ HG.out).mono ?_
  rintro e w1 ⟨rfl, hb1⟩
  have hB1 := (below1 w (.cells #[.int .i64 k, .int .i64 a, .int .i64 b] 32)).trans (hb1.mono (by simp))
  clear hb1
  go_wp2
  exact bodyPost_ret (v := .tuple #[.slice none 0 0, .bool false, .bool false]) (by simp [results, Tryz.results86, go_sem]) rfl (ansB_nil (Below.allocS hB1 _))
set_option maxHeartbeats 4000000 in
theorem implApp1n (a b v : Int) (w : World) (hg : goodSt 1 a b = true) (hv : valB v = false) : Calls Tryz.prog 86 #[.agg #[.int .i64 1, .int .i64 a, .int .i64 b], .int .i64 v] w (AnsB w (appR 1 a b v)) := by
  rw [appR_no2 hv]
  have HG := hid hg
  have HV := hid hv
  clear hg hv
  go_enter Tryz.func86, Tryz.ntmps86
  go_wp2_with fail
  refine (goodKind1_true a b _ HG.out).mono ?_
  rintro e w1 ⟨rfl, hb1⟩
  have hB1 := Below.allocS ((below1 w (.cells #[.int .i64 1, .int .i64 a, .int .i64 b] 32)).trans (hb1.mono (by simp))) (.cells #[.func (.func 102) #[] #[], .func (.func 103) #[] #[], .func (.func 104) #[] #[]] 107)
  have XS := hid (((Bx.new (w := w) (p := w.heap.size) [.int .i64 1, .int .i64 a, .int .i64 b] 32 rfl).later hb1).alloc (.cells #[.func (.func 102) #[] #[], .func (.func 103) #[] #[], .func (.func 104) #[] #[]] 107))
  have XK := hid (Bx.new (w := w1) (p := w1.heap.size) [.func (.func 102) #[] #[], .func (.func 103) #[] #[], .func (.func 104) #[] #[]] 107 rfl)
  clear hb1
  go_wp2_with fail
  refine (isValue_is v _ _ HV.out).mono ?_
  rintro e w2 ⟨rfl, hw2⟩
  rw [hw2]; clear hw2 w2
  go_wp2
  exact bodyPost_ret (v := .tuple #[.slice none 0 0, .bool false, .bool false]) (by simp [results, Tryz.results86, go_sem]) rfl (ansB_nil hB1)
set_option maxHeartbeats 4000000 in
theorem implApp1y (a b v : Int) (w : World) (hg : goodSt 1 a b = true) (hv : valB v = true) : Calls Tryz.prog 86 #[.agg #[.int .i64 1, .int .i64 a, .int .i64 b], .int .i64 v] w (AnsB w (appR 1 a b v)) := by
  rw [appR_yes hg hv]
  have HG := hid hg
  have HV := hid hv
  clear hg hv
  generalize hr : appSt 1 a b v = r
  have HR := hid hr
  clear hr
  go_enter Tryz.func86, Tryz.ntmps86
  go_wp2_with fail
  refine (goodKind1_true a b _ HG.out).mono ?_
  rintro e w1 ⟨rfl, hb1⟩
  have hB1 := Below.allocS ((below1 w (.cells #[.int .i64 1, .int .i64 a, .int .i64 b] 32)).trans (hb1.mono (by simp))) (.cells #[.func (.func 102) #[] #[], .func (.func 103) #[] #[], .func (.func 104) #[] #[]] 107)
  have XS := hid (((Bx.new (w := w) (p := w.heap.size) [.int .i64 1, .int .i64 a, .int .i64 b] 32 rfl).later hb1).alloc (.cells #[.func (.func 102) #[] #[], .func (.func 103) #[] #[], .func (.func 104) #[] #[]] 107))
  have XK := hid (Bx.new (w := w1) (p := w1.heap.size) [.func (.func 102) #[] #[], .func (.func 103) #[] #[], .func (.func 104) #[] #[]] 107 rfl)
  clear hb1
  go_wp2_with fail
  refine (isValue_is v _ _ HV.out).mono ?_
  rintro e w2 ⟨rfl, hw2⟩
  rw [hw2]; clear hw2 w2
  have s0 := XS.out.c 0 rfl
  have s1 := XS.out.c 1 rfl
  have s2 := XS.out.c 2 rfl
  have k0 := XK.out.c 0 rfl
  have k1 := XK.out.c 1 rfl
  have k2 := XK.out.c 2 rfl
  go_wp2_with fail
  clear s0 s1 s2 k0 k1 k2
  refine (mapOne_is a b v _ HG.out HV.out).mono ?_
  rintro e w2 ⟨⟨o, c, rfl, h0, hF⟩, hb2⟩
  rw [HR.out] at hF ⊢
  have hB2 := hB1.trans (hb2.mono hB1.size)
  have HF := hid (hF.wide (lo' := w.heap.size) hB1.size (Nat.le_refl _))
  have H0 := hid h0
  clear hF hb2 h0 XS XK hB1
  go_wp2
  exact bodyPost_ret (v := .tuple #[.slice o r.1.length c, .bool r.2, .bool true]) (by simp [results, Tryz.results86, go_sem]) rfl ⟨⟨_, _, rfl, H0.out, HF.out⟩, hB2⟩
set_option maxHeartbeats 4000000 in
theorem implApp2n (a b v : Int) (w : World) (hg : goodSt 2 a b = true) (hv : valB v = false) : Calls Tryz.prog 86 #[.agg #[.int .i64 2, .int .i64 a, .int .i64 b], .int .i64 v] w (AnsB w (appR 2 a b v)) := by
  rw [appR_no2 hv]
  have HG := hid hg
  have HV := hid hv
  clear hg hv
  go_enter Tryz.func86, Tryz.ntmps86
  go_wp2_with fail
  refine (goodKind2_true a b _ HG.out).mono ?_
  rintro e w1 ⟨rfl, hb1⟩
  have hB1 := Below.allocS ((below1 w (.cells #[.int .i64 2, .int .i64 a, .int .i64 b] 32)).trans (hb1.mono (by simp))) (.cells #[.func (.func 105) #[] #[], .func (.func 106) #[] #[], .func (.func 104) #[] #[]] 107)
  have XS := hid (((Bx.new (w := w) (p := w.heap.size) [.int .i64 2, .int .i64 a, .int .i64 b] 32 rfl).later hb1).alloc (.cells #[.func (.func 105) #[] #[], .func (.func 106) #[] #[], .func (.func 104) #[] #[]] 107))
  have XK := hid (Bx.new (w := w1) (p := w1.heap.size) [.func (.func 105) #[] #[], .func (.func 106) #[] #[], .func (.func 104) #[] #[]] 107 rfl)
  clear hb1
  go_wp2_with fail
  refine (isValue_is v _ _ HV.out).mono ?_
  rintro e w2 ⟨rfl, hw2⟩
  rw [hw2]; clear hw2 w2
  go_wp2
  exact bodyPost_ret (v := .tuple #[.slice none 0 0, .bool false, .bool false]) (by simp [results, Tryz.results86, go_sem]) rfl (ansB_nil hB1)
set_option maxHeartbeats 4000000 in
theorem implApp2y (a b v : Int) (w : World) (hg : goodSt 2 a b = true) (hv : valB v = true) : Calls Tryz.prog 86 #[.agg #[.int .i64 2, .int .i64 a, .int .i64 b], .int .i64 v] w (AnsB w (appR 2 a b v)) := by
  rw [appR_yes hg hv]
  have HG := hid hg
  have HV := hid hv
  clear hg hv
  generalize hr : appSt 2 a b v = r
  have HR := hid hr
  clear hr
  go_enter Tryz.func86, Tryz.ntmps86
  go_wp2_with fail
  refine (goodKind2_true a b _ HG.out).mono ?_
  rintro e w1 ⟨rfl, hb1⟩
  have hB1 := Below.allocS ((below1 w (.cells #[.int .i64 2, .int .i64 a, .int .i64 b] 32)).trans (hb1.mono (by simp))) (.cells #[.func (.func 105) #[] #[], .func (.func 106) #[] #[], .func (.func 104) #[] #[]] 107)
  have XS := hid (((Bx.new (w := w) (p := w.heap.size) [.int .i64 2, .int .i64 a, .int .i64 b] 32 rfl).later hb1).alloc (.cells #[.func (.func 105) #[] #[], .func (.func 106) #[] #[], .func (.func 104) #[] #[]] 107))
  have XK := hid (Bx.new (w := w1) (p := w1.heap.size) [.func (.func 105) #[] #[], .func (.func 106) #[] #[], .func (.func 104) #[] #[]] 107 rfl)
  clear hb1
  go_wp2_with fail
  refine (isValue_is v _ _ HV.out).mono ?_
  rintro e w2 ⟨rfl, hw2⟩
  rw [hw2]; clear hw2 w2
  have s0 := XS.out.c 0 rfl
  have s1 := XS.out.c 1 rfl
  have s2 := XS.out.c 2 rfl
  have k0 := XK.out.c 0 rfl
  have k1 := XK.out.c 1 rfl
  have k2 := XK.out.c 2 rfl
  go_wp2_with fail
  clear s0 s1 s2 k0 k1 k2
  refine (filterOne_is a b v _ HG.out).mono ?_
  rintro e w2 ⟨⟨o, c, rfl, h0, hF⟩, hb2⟩
  rw [HR.out] at hF ⊢
  have hB2 := hB1.trans (hb2.mono hB1.size)
  have HF := hid (hF.wide (lo' := w.heap.size) hB1.size (Nat.le_refl _))
  have H0 := hid h0
  clear hF hb2 h0 XS XK hB1
  go_wp2
  exact bodyPost_ret (v := .tuple #[.slice o r.1.length c, .bool r.2, .bool true]) (by simp [results, Tryz.results86, go_sem]) rfl ⟨⟨_, _, rfl, H0.out, HF.out⟩, hB2⟩
set_option maxHeartbeats 4000000 in
theorem implApp3n (a b v : Int) (w : World) (hg : goodSt 3 a b = true) (hv : valB v = false) : Calls Tryz.prog 86 #[.agg #[.int .i64 3, .int .i64 a, .int .i64 b], .int .i64 v] w (AnsB w (appR 3 a b v)) := by
  rw [appR_no2 hv]
  have HG := hid hg
  have HV := hid hv
  clear hg hv
  go_enter Tryz.func86, Tryz.ntmps86
  go_wp2_with fail
  refine (goodKind3_true a b _ HG.out).mono ?_
  rintro e w1 ⟨rfl, hb1⟩
  have hB1 := Below.allocS ((below1 w (.cells #[.int .i64 3, .int .i64 a, .int .i64 b] 32)).trans (hb1.mono (by simp))) (.cells #[.func (.func 107) #[] #[], .func (.func 108) #[] #[], .func (.func 109) #[] #[]] 107)
  have XS := hid (((Bx.new (w := w) (p := w.heap.size) [.int .i64 3, .int .i64 a, .int .i64 b] 32 rfl).later hb1).alloc (.cells #[.func (.func 107) #[] #[], .func (.func 108) #[] #[], .func (.func 109) #[] #[]] 107))
  have XK := hid (Bx.new (w := w1) (p := w1.heap.size) [.func (.func 107) #[] #[], .func (.func 108) #[] #[], .func (.func 109) #[] #[]] 107 rfl)
  clear hb1
  go_wp2_with fail
  refine (isValue_is v _ _ HV.out).mono ?_
  rintro e w2 ⟨rfl, hw2⟩
  rw [hw2]; clear hw2 w2
  go_wp2
  exact bodyPost_ret (v := .tuple #[.slice none 0 0, .bool false, .bool false]) (by simp [results, Tryz.results86, go_sem]) rfl (ansB_nil hB1)
set_option maxHeartbeats 4000000 in
theorem implApp3y (a b v : Int) (w : World) (hg : goodSt 3 a b = true) (hv : valB v = true) : Calls Tryz.prog 86 #[.agg #[.int .i64 3, .int .i64 a, .int .i64 b], .int .i64 v] w (AnsB w (appR 3 a b v)) := by
  rw [appR_yes hg hv]
  have HG := hid hg
  have HV := hid hv
  clear hg hv
  generalize hr : appSt 3 a b v = r
  have HR := hid hr
  clear hr
  go_enter Tryz.func86, Tryz.ntmps86
  go_wp2_with fail
  refine (goodKind3_true a b _ HG.out).mono ?_
  rintro e w1 ⟨rfl, hb1⟩
  have hB1 := Below.allocS ((below1 w (.cells #[.int .i64 3, .int .i64 a, .int .i64 b] 32)).trans (hb1.mono (by simp))) (.cells #[.func (.func 107) #[] #[], .func (.func 108) #[] #[], .func (.func 109) #[] #[]] 107)
  have XS := hid (((Bx.new (w := w) (p := w.heap.size) [.int .i64 3, .int .i64 a, .int .i64 b] 32 rfl).later hb1).alloc (.cells #[.func (.func 107) #[] #[], .func (.func 108) #[] #[], .func (.func 109) #[] #[]] 107))
  have XK := hid (Bx.new (w := w1) (p := w1.heap.size) [.func (.func 107) #[] #[], .func (.func 108) #[] #[], .func (.func 109) #[] #[]] 107 rfl)
  clear hb1
  go_wp2_with fail
  refine (isValue_is v _ _ HV.out).mono ?_
  rintro e w2 ⟨rfl, hw2⟩
  rw [hw2]; clear hw2 w2
  have s0 := XS.out.c 0 rfl
  have s1 := XS.out.c 1 rfl
  have s2 := XS.out.c 2 rfl
  have k0 := XK.out.c 0 rfl
  have k1 := XK.out.c 1 rfl
  have k2 := XK.out.c 2 rfl
  go_wp2_with fail
  clear s0 s1 s2 k0 k1 k2
  refine (expandOne_is a b v _ HG.out HV.out).mono ?_
  rintro e w2 ⟨⟨o, c, rfl, h0, hF⟩, hb2⟩
  rw [HR.out] at hF ⊢
  have hB2 := hB1.trans (hb2.mono hB1.size)
  have HF := hid (hF.wide (lo' := w.heap.size) hB1.size (Nat.le_refl _))
  have H0 := hid h0
  clear hF hb2 h0 XS XK hB1
  go_wp2
  exact bodyPost_ret (v := .tuple #[.slice o r.1.length c, .bool r.2, .bool true]) (by simp [results, Tryz.results86, go_sem]) rfl ⟨⟨_, _, rfl, H0.out, HF.out⟩, hB2⟩
set_option maxHeartbeats 4000000 in
theorem implApp4n (a b v : Int) (w : World) (hg : goodSt 4 a b = true) (hv : valB v = false) : Calls Tryz.prog 86 #[.agg #[.int .i64 4, .int .i64 a, .int .i64 b], .int .i64 v] w (AnsB w (appR 4 a b v)) := by
  rw [appR_no2 hv]
  have HG := hid hg
  have HV := hid hv
  clear hg hv
  go_enter Tryz.func86, Tryz.ntmps86
  go_wp2_with fail
  refine (goodKind4_true a b _ HG.out).mono ?_
  rintro e w1 ⟨rfl, hb1⟩
  have hB1 := Below.allocS ((below1 w (.cells #[.int .i64 4, .int .i64 a, .int .i64 b] 32)).trans (hb1.mono (by simp))) (.cells #[.func (.func 105) #[] #[], .func (.func 110) #[] #[], .func (.func 104) #[] #[]] 107)
  have XS := hid (((Bx.new (w := w) (p := w.heap.size) [.int .i64 4, .int .i64 a, .int .i64 b] 32 rfl).later hb1).alloc (.cells #[.func (.func 105) #[] #[], .func (.func 110) #[] #[], .func (.func 104) #[] #[]] 107))
  have XK := hid (Bx.new (w := w1) (p := w1.heap.size) [.func (.func 105) #[] #[], .func (.func 110) #[] #[], .func (.func 104) #[] #[]] 107 rfl)
  clear hb1
  go_wp2_with fail
  refine (isValue_is v _ _ HV.out).mono ?_
  rintro e w2 ⟨rfl, hw2⟩
  rw [hw2]; clear hw2 w2
  go_wp2
  exact bodyPost_ret (v := .tuple #[.slice none 0 0, .bool false, .bool false]) (by simp [results, Tryz.results86, go_sem]) rfl (ansB_nil hB1)
set_option maxHeartbeats 4000000 in
theorem implApp4y (a b v : Int) (w : World) (hg : goodSt 4 a b = true) (hv : valB v = true) : Calls Tryz.prog 86 #[.agg #[.int .i64 4, .int .i64 a, .int .i64 b], .int .i64 v] w (AnsB w (appR 4 a b v)) := by
  rw [appR_yes hg hv]
  have HG := hid hg
  have HV := hid hv
  clear hg hv
  generalize hr : appSt 4 a b v = r
  have HR := hid hr
  clear hr
  go_enter Tryz.func86, Tryz.ntmps86
  go_wp2_with fail
  refine (goodKind4_true a b _ HG.out).mono ?_
  rintro e w1 ⟨rfl, hb1⟩
  have hB1 := Below.allocS ((below1 w (.cells #[.int .i64 4, .int .i64 a, .int .i64 b] 32)).trans (hb1.mono (by simp))) (.cells #[.func (.func 105) #[] #[], .func (.func 110) #[] #[], .func (.func 104) #[] #[]] 107)
  have XS := hid (((Bx.new (w := w) (p := w.heap.size) [.int .i64 4, .int .i64 a, .int .i64 b] 32 rfl).later hb1).alloc (.cells #[.func (.func 105) #[] #[], .func (.func 110) #[] #[], .func (.func 104) #[] #[]] 107))
  have XK := hid (Bx.new (w := w1) (p := w1.heap.size) [.func (.func 105) #[] #[], .func (.func 110) #[] #[], .func (.func 104) #[] #[]] 107 rfl)
  clear hb1
  go_wp2_with fail
  refine (isValue_is v _ _ HV.out).mono ?_
  rintro e w2 ⟨rfl, hw2⟩
  rw [hw2]; clear hw2 w2
  have s0 := XS.out.c 0 rfl
  have s1 := XS.out.c 1 rfl
  have s2 := XS.out.c 2 rfl
  have k0 := XK.out.c 0 rfl
  have k1 := XK.out.c 1 rfl
  have k2 := XK.out.c 2 rfl
  go_wp2_with fail
  clear s0 s1 s2 k0 k1 k2
  refine (poisonOne_is a b v _ HG.out).mono ?_
  rintro e w2 ⟨⟨o, c, rfl, h0, hF⟩, hb2⟩
  rw [HR.out] at hF ⊢
  have hB2 := hB1.trans (hb2.mono hB1.size)
  have HF := hid (hF.wide (lo' := w.heap.size) hB1.size (Nat.le_refl _))
  have H0 := hid h0
  clear hF hb2 h0 XS XK hB1
  go_wp2
  exact bodyPost_ret (v := .tuple #[.slice o r.1.length c, .bool r.2, .bool true]) (by simp [results, Tryz.results86, go_sem]) rfl ⟨⟨_, _, rfl, H0.out, HF.out⟩, hB2⟩
theorem implApp_any (k a b v : Int) (w : World) : Calls Tryz.prog 86 #[.agg #[.int .i64 k, .int .i64 a, .int .i64 b], .int .i64 v] w (AnsB w (appR k a b v)) := by
  rcases hg : goodSt k a b with _ | _
  · exact implApp0 k a b v w hg
  · rcases hv : valB v with _ | _
    · rcases good_kind hg with rfl | rfl | rfl | rfl
      · exact implApp1n a b v w hg hv
      · exact implApp2n a b v w hg hv
      · exact implApp3n a b v w hg hv
      · exact implApp4n a b v w hg hv
    · rcases good_kind hg with rfl | rfl | rfl | rfl
      · exact implApp1y a b v w hg hv
      · exact implApp2y a b v w hg hv
      · exact implApp3y a b v w hg hv
      · exact implApp4y a b v w hg hv
end
section
open Go.RowKit

theorem Tryz.info32 : (Tryz.prog.info? 32).map (fun i => (i.zero, i.size, i.bytes)) = some (some (.agg #[.int .i64 0, .int .i64 0, .int .i64 0]), 3, 24) := by kernel_rfl
theorem set_far {xs : List Value} {p q : Nat} {u : Value} (h : p ≠ q) : (xs.set p u)[q]? = xs[q]? := by rw [List.getElem?_set, if_neg h]
theorem set_at {xs : List Value} {p : Nat} {u : Value} (h : p < xs.length) : (xs.set p u)[p]? = some u := by rw [List.getElem?_set, if_pos rfl, if_pos h]
/-- The marks of a row of Stage. -/
def markG (k : Int) (n : Nat) : List (Int × Int × Int) := (List.range n).map (fun i : Nat => (k + 3 * (i : Int), k + 3 * (i : Int) + 1, k + 3 * (i : Int) + 2))
theorem markG_len (k : Int) (n : Nat) : (markG k n).length = n := by simp [markG]
theorem markG_at (k : Int) (n j : Nat) (h : j < n) : el (markG k n) j = (k + 3 * (j : Int), k + 3 * (j : Int) + 1, k + 3 * (j : Int) + 2) := by simp [markG, el, h]
/-- One stage over many values: whether one fails, and what comes out. -/
def failsAt (s : Int × Int × Int) (vs : List Int) : Bool := vs.any fun v => (appSt s.1 s.2.1 s.2.2 v).2
def outs (s : Int × Int × Int) (vs : List Int) : List Int := vs.flatMap fun v => (appSt s.1 s.2.1 s.2.2 v).1
def goodG (s : Int × Int × Int) : Bool := goodSt s.1 s.2.1 s.2.2
/-- A chain. -/
def chainL : List (Int × Int × Int) → List Int → Option (List Int)
  | [], vs => some vs
  | s :: r, vs => if failsAt s vs then none else chainL r (outs s vs)
def chGood (l : List (Int × Int × Int)) : Bool := decide (l.length ≤ 8) && l.all goodG
def chR (l : List (Int × Int × Int)) (v : Int) : List Int × Bool × Bool :=
  if chGood l && valB v then (match chainL l [v] with | none => ([], true, true) | some x => (x, false, true)) else ([], false, false)
theorem outs_nil (s : Int × Int × Int) : outs s [] = [] := rfl
theorem outs_app (s : Int × Int × Int) (a b : List Int) : outs s (a ++ b) = outs s a ++ outs s b := by simp [outs]
theorem outs_one (s : Int × Int × Int) (v : Int) : outs s [v] = (appSt s.1 s.2.1 s.2.2 v).1 := by simp [outs]
theorem outs_take (s : Int × Int × Int) {vs : List Int} {k : Nat} (h : k < vs.length) : outs s (vs.take (k + 1)) = outs s (vs.take k) ++ (appSt s.1 s.2.1 s.2.2 (el vs k)).1 := by
  rw [take_succ_el h, outs_app, outs_one]
theorem outs_len {s : Int × Int × Int} (h : goodG s = true) (vs : List Int) : (outs s vs).length ≤ 3 * vs.length := by
  induction vs with
  | nil => simp [outs]
  | cons v r ih =>
    rw [show v :: r = [v] ++ r from rfl, outs_app, outs_one, List.length_append, List.length_append]
    have := appSt_len (v := v) h
    simp only [List.length_singleton]; omega
theorem outs_val {s : Int × Int × Int} (h : goodG s = true) {vs : List Int} (hv : ∀ x ∈ vs, valB x = true) : ∀ x ∈ outs s vs, valB x = true := by
  intro x hx
  obtain ⟨v, h1, h2⟩ := List.mem_flatMap.1 hx
  exact appSt_val h (hv v h1) x h2
theorem fails_yes {s : Int × Int × Int} {vs : List Int} {k : Nat} (hk : k < vs.length) (h : (appSt s.1 s.2.1 s.2.2 (el vs k)).2 = true) : failsAt s vs = true :=
  List.any_eq_true.2 ⟨_, el_mem hk, h⟩
theorem fails_no {s : Int × Int × Int} {vs : List Int} (h : ∀ j, j < vs.length → (appSt s.1 s.2.1 s.2.2 (el vs j)).2 = false) : failsAt s vs = false := by
  rw [failsAt, List.any_eq_false]
  intro x hx
  obtain ⟨j, hj, rfl⟩ := mem_el hx
  simp [h j hj]
theorem chain_app : ∀ (l : List (Int × Int × Int)) (s : Int × Int × Int) (vs : List Int), chainL (l ++ [s]) vs = (chainL l vs).bind fun x => if failsAt s x then none else some (outs s x)
  | [], s, vs => by simp [chainL]
  | t :: r, s, vs => by
    rw [List.cons_append, chainL, chainL]
    split
    · rfl
    · exact chain_app r s (outs t vs)
theorem chain_none : ∀ (l m : List (Int × Int × Int)) (vs : List Int), chainL l vs = none → chainL (l ++ m) vs = none
  | [], m, vs, h => by simp [chainL] at h
  | t :: r, m, vs, h => by
    rw [List.cons_append, chainL]
    rw [chainL] at h
    split
    · rfl
    · rename_i hf
      rw [if_neg hf] at h
      exact chain_none r m _ h
theorem chain_take {l : List (Int × Int × Int)} {k : Nat} (hk : k < l.length) {vs x : List Int} (h : chainL (l.take k) vs = some x) : chainL (l.take (k + 1)) vs = if failsAt (el l k) x then none else some (outs (el l k) x) := by
  rw [take_succ_el hk, chain_app, h]; rfl
theorem chain_fail {l : List (Int × Int × Int)} {k : Nat} {vs : List Int} (h : chainL (l.take k) vs = none) : chainL l vs = none := by
  have := chain_none (l.take k) (l.drop k) vs h
  rwa [List.take_append_drop] at this
theorem chain_len : ∀ (l : List (Int × Int × Int)) (vs x : List Int), (∀ s ∈ l, goodG s = true) → chainL l vs = some x → x.length ≤ 3 ^ l.length * vs.length
  | [], vs, x, _, h => by simp [chainL] at h; subst h; simp
  | t :: r, vs, x, hg, h => by
    rw [chainL] at h
    split at h
    · cases h
    · have h1 := chain_len r _ x (fun s hs => hg s (List.mem_cons_of_mem _ hs)) h
      have h2 := outs_len (hg t (by simp)) vs
      have h3 : 3 ^ r.length * (outs t vs).length ≤ 3 ^ r.length * (3 * vs.length) := Nat.mul_le_mul_left _ h2
      rw [List.length_cons, Nat.pow_succ, Nat.mul_assoc]
      omega
theorem chain_val : ∀ (l : List (Int × Int × Int)) (vs x : List Int), (∀ s ∈ l, goodG s = true) → (∀ y ∈ vs, valB y = true) → chainL l vs = some x → ∀ y ∈ x, valB y = true
  | [], vs, x, _, hv, h => by simp [chainL] at h; subst h; exact hv
  | t :: r, vs, x, hg, hv, h => by
    rw [chainL] at h
    split at h
    · cases h
    · exact chain_val r _ x (fun s hs => hg s (List.mem_cons_of_mem _ hs)) (outs_val (hg t (by simp)) hv) h
theorem pow3 {n : Nat} (h : n ≤ 8) : 3 ^ n ≤ 6561 := by
  have : 3 ^ n ≤ 3 ^ 8 := Nat.pow_le_pow_right (by omega) h
  omega
theorem chGood_all {l : List (Int × Int × Int)} (h : chGood l = true) : l.length ≤ 8 ∧ ∀ s ∈ l, goodG s = true := by
  simp [chGood] at h; exact ⟨h.1, fun s hs => h.2 _ _ _ hs⟩
theorem chain_small {l : List (Int × Int × Int)} {v : Int} {x : List Int} {k : Nat} (hg : chGood l = true) (h : chainL (l.take k) [v] = some x) : x.length ≤ 6561 := by
  obtain ⟨h8, ha⟩ := chGood_all hg
  have h1 := chain_len _ _ x (fun s hs => ha s (List.mem_of_mem_take hs)) h
  have h2 := pow3 (n := (l.take k).length) (by simp; omega)
  simp only [List.length_singleton, Nat.mul_one] at h1
  omega
theorem chain_vals {l : List (Int × Int × Int)} {v : Int} {x : List Int} {k : Nat} (hg : chGood l = true) (hv : valB v = true) (h : chainL (l.take k) [v] = some x) : ∀ y ∈ x, valB y = true :=
  chain_val _ _ x (fun s hs => (chGood_all hg).2 s (List.mem_of_mem_take hs)) (by simpa using hv) h
theorem chR_no1 {l : List (Int × Int × Int)} {v : Int} (h : chGood l = false) : chR l v = ([], false, false) := by simp [chR, h]
theorem chR_no2 {l : List (Int × Int × Int)} {v : Int} (h : valB v = false) : chR l v = ([], false, false) := by simp [chR, h]
theorem chR_fail {l : List (Int × Int × Int)} {v : Int} (h : chGood l = true) (hv : valB v = true) (hc : chainL l [v] = none) : chR l v = ([], true, true) := by simp [chR, h, hv, hc]
theorem chR_some {l : List (Int × Int × Int)} {v : Int} {x : List Int} (h : chGood l = true) (hv : valB v = true) (hc : chainL l [v] = some x) : chR l v = (x, false, true) := by simp [chR, h, hv, hc]
theorem chR_len (l : List (Int × Int × Int)) (v : Int) : (chR l v).1.length ≤ 6561 := by
  rcases h : chGood l with _ | _
  · rw [chR_no1 h]; simp
  · rcases hv : valB v with _ | _
    · rw [chR_no2 hv]; simp
    · rcases hc : chainL l [v] with _ | x
      · rw [chR_fail h hv hc]; simp
      · rw [chR_some h hv hc]
        exact chain_small (k := l.length) h (by rw [List.take_length]; exact hc)
end
end Go.Proofs.YtebnapgcobcilaaGreatDoor
