/- ApplyStage on both sides. No conditions but those written. A value is led on. No conditions but those written. Bounds of what a pipe holds behind n moves, plainly. No conditions but those written. A region that draws its order in a round of a range over a function: walked as one outside. No conditions but those written. -/
import Derived.Test.YtoeonbdoopboiaaGreatDoorPWxSl
import Derived.Test.YtoeonbdoopboiaaGreatDoorPGenBx
import Derived.OrdersHeld
import Derived.OrdersIn
import Derived.Deep.RegionHeld3
import Derived.RangeFuncCalls
namespace Go.Proofs.YtoeonbdoopboiaaGreatDoor
section
open Go.RowKit

/-- A row of ints of its own and two bools are answered. -/
def AnsB (w : World) (r : List Int × Bool × Bool) (e : Ending) (w' : World) : Prop :=
  (∃ o c, e = .returned (.tuple #[.slice o r.1.length c, .bool r.2.1, .bool r.2.2]) ∧ (o = none → c = 0) ∧ kI.Fresh w.heap.size w'.heap.size w' o c r.1) ∧ Below w.heap.size w w'
theorem ansB_nil {w W : World} {b c : Bool} (hB : Below w.heap.size w W) : AnsB w ([], b, c) (.returned (.tuple #[.slice none 0 0, .bool b, .bool c])) W :=
  ⟨⟨_, _, rfl, fun _ => rfl, .inl rfl⟩, hB⟩
/-- ApplyStage. -/
def appR (k a b v : Int) : List Int × Bool × Bool := if goodSt k a b && valB v then ((appSt k a b v).1, (appSt k a b v).2, true) else ([], false, false)
theorem appR_yes {k a b v : Int} (h : goodSt k a b = true) (hv : valB v = true) : appR k a b v = ((appSt k a b v).1, (appSt k a b v).2, true) := by simp [appR, h, hv]
theorem appR_no1 {k a b v : Int} (h : goodSt k a b = false) : appR k a b v = ([], false, false) := by simp [appR, h]
theorem appR_no2 {k a b v : Int} (hv : valB v = false) : appR k a b v = ([], false, false) := by simp [appR, hv]
theorem appR_len (k a b v : Int) : (appR k a b v).1.length ≤ 3 := by
  unfold appR
  split
  · rename_i h
    exact appSt_len (by revert h; cases goodSt k a b <;> simp)
  · simp
set_option maxHeartbeats 4000000 in
theorem implApp0 (k a b v : Int) (w : World) (hg : goodSt k a b = false) : Calls Tryz.prog 145 #[.agg #[.int .i64 k, .int .i64 a, .int .i64 b], .int .i64 v] w (AnsB w (appR k a b v)) := by
  rw [appR_no1 hg]
  have HG := hid hg
  clear hg
  go_enter Tryz.func145, Tryz.ntmps145
  go_wp2_with fail
  refine (goodKind_no k a b _ HG.out).mono ?_
  rintro e w1 ⟨rfl, hb1⟩
  have hB1 := (below1 w (.cells #[.int .i64 k, .int .i64 a, .int .i64 b] 69)).trans (hb1.mono (by simp))
  clear hb1
  go_wp2
  exact bodyPost_ret (v := .tuple #[.slice none 0 0, .bool false, .bool false]) (by simp [results, Tryz.results145, go_sem]) rfl (ansB_nil (Below.allocS hB1 _))
set_option maxHeartbeats 4000000 in
theorem implApp1n (a b v : Int) (w : World) (hg : goodSt 1 a b = true) (hv : valB v = false) : Calls Tryz.prog 145 #[.agg #[.int .i64 1, .int .i64 a, .int .i64 b], .int .i64 v] w (AnsB w (appR 1 a b v)) := by
  rw [appR_no2 hv]
  have HG := hid hg
  have HV := hid hv
  clear hg hv
  go_enter Tryz.func145, Tryz.ntmps145
  go_wp2_with fail
  refine (goodKind1_true a b _ HG.out).mono ?_
  rintro e w1 ⟨rfl, hb1⟩
  have hB1 := Below.allocS ((below1 w (.cells #[.int .i64 1, .int .i64 a, .int .i64 b] 69)).trans (hb1.mono (by simp))) (.cells #[.func (.func 198) #[] #[], .func (.func 199) #[] #[], .func (.func 200) #[] #[]] 192)
  have XS := hid (((Bx.new (w := w) (p := w.heap.size) [.int .i64 1, .int .i64 a, .int .i64 b] 69 rfl).later hb1).alloc (.cells #[.func (.func 198) #[] #[], .func (.func 199) #[] #[], .func (.func 200) #[] #[]] 192))
  have XK := hid (Bx.new (w := w1) (p := w1.heap.size) [.func (.func 198) #[] #[], .func (.func 199) #[] #[], .func (.func 200) #[] #[]] 192 rfl)
  clear hb1
  go_wp2_with fail
  refine (isValue_is v _ _ HV.out).mono ?_
  rintro e w2 ⟨rfl, hw2⟩
  rw [hw2]; clear hw2 w2
  go_wp2
  exact bodyPost_ret (v := .tuple #[.slice none 0 0, .bool false, .bool false]) (by simp [results, Tryz.results145, go_sem]) rfl (ansB_nil hB1)
set_option maxHeartbeats 4000000 in
theorem implApp1y (a b v : Int) (w : World) (hg : goodSt 1 a b = true) (hv : valB v = true) : Calls Tryz.prog 145 #[.agg #[.int .i64 1, .int .i64 a, .int .i64 b], .int .i64 v] w (AnsB w (appR 1 a b v)) := by
  rw [appR_yes hg hv]
  have HG := hid hg
  have HV := hid hv
  clear hg hv
  generalize hr : appSt 1 a b v = r
  have HR := hid hr
  clear hr
  go_enter Tryz.func145, Tryz.ntmps145
  go_wp2_with fail
  refine (goodKind1_true a b _ HG.out).mono ?_
  rintro e w1 ⟨rfl, hb1⟩
  have hB1 := Below.allocS ((below1 w (.cells #[.int .i64 1, .int .i64 a, .int .i64 b] 69)).trans (hb1.mono (by simp))) (.cells #[.func (.func 198) #[] #[], .func (.func 199) #[] #[], .func (.func 200) #[] #[]] 192)
  have XS := hid (((Bx.new (w := w) (p := w.heap.size) [.int .i64 1, .int .i64 a, .int .i64 b] 69 rfl).later hb1).alloc (.cells #[.func (.func 198) #[] #[], .func (.func 199) #[] #[], .func (.func 200) #[] #[]] 192))
  have XK := hid (Bx.new (w := w1) (p := w1.heap.size) [.func (.func 198) #[] #[], .func (.func 199) #[] #[], .func (.func 200) #[] #[]] 192 rfl)
  clear hb1
  go_wp2_with fail
  refine (isValue_is v _ _ HV.out).mono ?_
  rintro e w2 ⟨rfl, hw2⟩
  rw [hw2]; clear hw2 w2
  have s0 := XS.out.c 0 rfl
  have s1 := XS.out.c 1 rfl
  have s2 := XS.out.c 2 rfl
  have k0 := XK.out.c 0 rfl
  have k1 := XK.out.c 1 rfl
  have k2 := XK.out.c 2 rfl
  go_wp2_with fail
  clear s0 s1 s2 k0 k1 k2
  refine (mapOne_is a b v _ HG.out HV.out).mono ?_
  rintro e w2 ⟨⟨o, c, rfl, h0, hF⟩, hb2⟩
  rw [HR.out] at hF ⊢
  have hB2 := hB1.trans (hb2.mono hB1.size)
  have HF := hid (hF.wide (lo' := w.heap.size) hB1.size (Nat.le_refl _))
  have H0 := hid h0
  clear hF hb2 h0 XS XK hB1
  go_wp2
  exact bodyPost_ret (v := .tuple #[.slice o r.1.length c, .bool r.2, .bool true]) (by simp [results, Tryz.results145, go_sem]) rfl ⟨⟨_, _, rfl, H0.out, HF.out⟩, hB2⟩
set_option maxHeartbeats 4000000 in
theorem implApp2n (a b v : Int) (w : World) (hg : goodSt 2 a b = true) (hv : valB v = false) : Calls Tryz.prog 145 #[.agg #[.int .i64 2, .int .i64 a, .int .i64 b], .int .i64 v] w (AnsB w (appR 2 a b v)) := by
  rw [appR_no2 hv]
  have HG := hid hg
  have HV := hid hv
  clear hg hv
  go_enter Tryz.func145, Tryz.ntmps145
  go_wp2_with fail
  refine (goodKind2_true a b _ HG.out).mono ?_
  rintro e w1 ⟨rfl, hb1⟩
  have hB1 := Below.allocS ((below1 w (.cells #[.int .i64 2, .int .i64 a, .int .i64 b] 69)).trans (hb1.mono (by simp))) (.cells #[.func (.func 201) #[] #[], .func (.func 202) #[] #[], .func (.func 200) #[] #[]] 192)
  have XS := hid (((Bx.new (w := w) (p := w.heap.size) [.int .i64 2, .int .i64 a, .int .i64 b] 69 rfl).later hb1).alloc (.cells #[.func (.func 201) #[] #[], .func (.func 202) #[] #[], .func (.func 200) #[] #[]] 192))
  have XK := hid (Bx.new (w := w1) (p := w1.heap.size) [.func (.func 201) #[] #[], .func (.func 202) #[] #[], .func (.func 200) #[] #[]] 192 rfl)
  clear hb1
  go_wp2_with fail
  refine (isValue_is v _ _ HV.out).mono ?_
  rintro e w2 ⟨rfl, hw2⟩
  rw [hw2]; clear hw2 w2
  go_wp2
  exact bodyPost_ret (v := .tuple #[.slice none 0 0, .bool false, .bool false]) (by simp [results, Tryz.results145, go_sem]) rfl (ansB_nil hB1)
set_option maxHeartbeats 4000000 in
theorem implApp2y (a b v : Int) (w : World) (hg : goodSt 2 a b = true) (hv : valB v = true) : Calls Tryz.prog 145 #[.agg #[.int .i64 2, .int .i64 a, .int .i64 b], .int .i64 v] w (AnsB w (appR 2 a b v)) := by
  rw [appR_yes hg hv]
  have HG := hid hg
  have HV := hid hv
  clear hg hv
  generalize hr : appSt 2 a b v = r
  have HR := hid hr
  clear hr
  go_enter Tryz.func145, Tryz.ntmps145
  go_wp2_with fail
  refine (goodKind2_true a b _ HG.out).mono ?_
  rintro e w1 ⟨rfl, hb1⟩
  have hB1 := Below.allocS ((below1 w (.cells #[.int .i64 2, .int .i64 a, .int .i64 b] 69)).trans (hb1.mono (by simp))) (.cells #[.func (.func 201) #[] #[], .func (.func 202) #[] #[], .func (.func 200) #[] #[]] 192)
  have XS := hid (((Bx.new (w := w) (p := w.heap.size) [.int .i64 2, .int .i64 a, .int .i64 b] 69 rfl).later hb1).alloc (.cells #[.func (.func 201) #[] #[], .func (.func 202) #[] #[], .func (.func 200) #[] #[]] 192))
  have XK := hid (Bx.new (w := w1) (p := w1.heap.size) [.func (.func 201) #[] #[], .func (.func 202) #[] #[], .func (.func 200) #[] #[]] 192 rfl)
  clear hb1
  go_wp2_with fail
  refine (isValue_is v _ _ HV.out).mono ?_
  rintro e w2 ⟨rfl, hw2⟩
  rw [hw2]; clear hw2 w2
  have s0 := XS.out.c 0 rfl
  have s1 := XS.out.c 1 rfl
  have s2 := XS.out.c 2 rfl
  have k0 := XK.out.c 0 rfl
  have k1 := XK.out.c 1 rfl
  have k2 := XK.out.c 2 rfl
  go_wp2_with fail
  clear s0 s1 s2 k0 k1 k2
  refine (filterOne_is a b v _ HG.out).mono ?_
  rintro e w2 ⟨⟨o, c, rfl, h0, hF⟩, hb2⟩
  rw [HR.out] at hF ⊢
  have hB2 := hB1.trans (hb2.mono hB1.size)
  have HF := hid (hF.wide (lo' := w.heap.size) hB1.size (Nat.le_refl _))
  have H0 := hid h0
  clear hF hb2 h0 XS XK hB1
  go_wp2
  exact bodyPost_ret (v := .tuple #[.slice o r.1.length c, .bool r.2, .bool true]) (by simp [results, Tryz.results145, go_sem]) rfl ⟨⟨_, _, rfl, H0.out, HF.out⟩, hB2⟩
set_option maxHeartbeats 4000000 in
theorem implApp3n (a b v : Int) (w : World) (hg : goodSt 3 a b = true) (hv : valB v = false) : Calls Tryz.prog 145 #[.agg #[.int .i64 3, .int .i64 a, .int .i64 b], .int .i64 v] w (AnsB w (appR 3 a b v)) := by
  rw [appR_no2 hv]
  have HG := hid hg
  have HV := hid hv
  clear hg hv
  go_enter Tryz.func145, Tryz.ntmps145
  go_wp2_with fail
  refine (goodKind3_true a b _ HG.out).mono ?_
  rintro e w1 ⟨rfl, hb1⟩
  have hB1 := Below.allocS ((below1 w (.cells #[.int .i64 3, .int .i64 a, .int .i64 b] 69)).trans (hb1.mono (by simp))) (.cells #[.func (.func 203) #[] #[], .func (.func 204) #[] #[], .func (.func 205) #[] #[]] 192)
  have XS := hid (((Bx.new (w := w) (p := w.heap.size) [.int .i64 3, .int .i64 a, .int .i64 b] 69 rfl).later hb1).alloc (.cells #[.func (.func 203) #[] #[], .func (.func 204) #[] #[], .func (.func 205) #[] #[]] 192))
  have XK := hid (Bx.new (w := w1) (p := w1.heap.size) [.func (.func 203) #[] #[], .func (.func 204) #[] #[], .func (.func 205) #[] #[]] 192 rfl)
  clear hb1
  go_wp2_with fail
  refine (isValue_is v _ _ HV.out).mono ?_
  rintro e w2 ⟨rfl, hw2⟩
  rw [hw2]; clear hw2 w2
  go_wp2
  exact bodyPost_ret (v := .tuple #[.slice none 0 0, .bool false, .bool false]) (by simp [results, Tryz.results145, go_sem]) rfl (ansB_nil hB1)
set_option maxHeartbeats 4000000 in
theorem implApp3y (a b v : Int) (w : World) (hg : goodSt 3 a b = true) (hv : valB v = true) : Calls Tryz.prog 145 #[.agg #[.int .i64 3, .int .i64 a, .int .i64 b], .int .i64 v] w (AnsB w (appR 3 a b v)) := by
  rw [appR_yes hg hv]
  have HG := hid hg
  have HV := hid hv
  clear hg hv
  generalize hr : appSt 3 a b v = r
  have HR := hid hr
  clear hr
  go_enter Tryz.func145, Tryz.ntmps145
  go_wp2_with fail
  refine (goodKind3_true a b _ HG.out).mono ?_
  rintro e w1 ⟨rfl, hb1⟩
  have hB1 := Below.allocS ((below1 w (.cells #[.int .i64 3, .int .i64 a, .int .i64 b] 69)).trans (hb1.mono (by simp))) (.cells #[.func (.func 203) #[] #[], .func (.func 204) #[] #[], .func (.func 205) #[] #[]] 192)
  have XS := hid (((Bx.new (w := w) (p := w.heap.size) [.int .i64 3, .int .i64 a, .int .i64 b] 69 rfl).later hb1).alloc (.cells #[.func (.func 203) #[] #[], .func (.func 204) #[] #[], .func (.func 205) #[] #[]] 192))
  have XK := hid (Bx.new (w := w1) (p := w1.heap.size) [.func (.func 203) #[] #[], .func (.func 204) #[] #[], .func (.func 205) #[] #[]] 192 rfl)
  clear hb1
  go_wp2_with fail
  refine (isValue_is v _ _ HV.out).mono ?_
  rintro e w2 ⟨rfl, hw2⟩
  rw [hw2]; clear hw2 w2
  have s0 := XS.out.c 0 rfl
  have s1 := XS.out.c 1 rfl
  have s2 := XS.out.c 2 rfl
  have k0 := XK.out.c 0 rfl
  have k1 := XK.out.c 1 rfl
  have k2 := XK.out.c 2 rfl
  go_wp2_with fail
  clear s0 s1 s2 k0 k1 k2
  refine (expandOne_is a b v _ HG.out HV.out).mono ?_
  rintro e w2 ⟨⟨o, c, rfl, h0, hF⟩, hb2⟩
  rw [HR.out] at hF ⊢
  have hB2 := hB1.trans (hb2.mono hB1.size)
  have HF := hid (hF.wide (lo' := w.heap.size) hB1.size (Nat.le_refl _))
  have H0 := hid h0
  clear hF hb2 h0 XS XK hB1
  go_wp2
  exact bodyPost_ret (v := .tuple #[.slice o r.1.length c, .bool r.2, .bool true]) (by simp [results, Tryz.results145, go_sem]) rfl ⟨⟨_, _, rfl, H0.out, HF.out⟩, hB2⟩
set_option maxHeartbeats 4000000 in
theorem implApp4n (a b v : Int) (w : World) (hg : goodSt 4 a b = true) (hv : valB v = false) : Calls Tryz.prog 145 #[.agg #[.int .i64 4, .int .i64 a, .int .i64 b], .int .i64 v] w (AnsB w (appR 4 a b v)) := by
  rw [appR_no2 hv]
  have HG := hid hg
  have HV := hid hv
  clear hg hv
  go_enter Tryz.func145, Tryz.ntmps145
  go_wp2_with fail
  refine (goodKind4_true a b _ HG.out).mono ?_
  rintro e w1 ⟨rfl, hb1⟩
  have hB1 := Below.allocS ((below1 w (.cells #[.int .i64 4, .int .i64 a, .int .i64 b] 69)).trans (hb1.mono (by simp))) (.cells #[.func (.func 201) #[] #[], .func (.func 206) #[] #[], .func (.func 200) #[] #[]] 192)
  have XS := hid (((Bx.new (w := w) (p := w.heap.size) [.int .i64 4, .int .i64 a, .int .i64 b] 69 rfl).later hb1).alloc (.cells #[.func (.func 201) #[] #[], .func (.func 206) #[] #[], .func (.func 200) #[] #[]] 192))
  have XK := hid (Bx.new (w := w1) (p := w1.heap.size) [.func (.func 201) #[] #[], .func (.func 206) #[] #[], .func (.func 200) #[] #[]] 192 rfl)
  clear hb1
  go_wp2_with fail
  refine (isValue_is v _ _ HV.out).mono ?_
  rintro e w2 ⟨rfl, hw2⟩
  rw [hw2]; clear hw2 w2
  go_wp2
  exact bodyPost_ret (v := .tuple #[.slice none 0 0, .bool false, .bool false]) (by simp [results, Tryz.results145, go_sem]) rfl (ansB_nil hB1)
set_option maxHeartbeats 4000000 in
theorem implApp4y (a b v : Int) (w : World) (hg : goodSt 4 a b = true) (hv : valB v = true) : Calls Tryz.prog 145 #[.agg #[.int .i64 4, .int .i64 a, .int .i64 b], .int .i64 v] w (AnsB w (appR 4 a b v)) := by
  rw [appR_yes hg hv]
  have HG := hid hg
  have HV := hid hv
  clear hg hv
  generalize hr : appSt 4 a b v = r
  have HR := hid hr
  clear hr
  go_enter Tryz.func145, Tryz.ntmps145
  go_wp2_with fail
  refine (goodKind4_true a b _ HG.out).mono ?_
  rintro e w1 ⟨rfl, hb1⟩
  have hB1 := Below.allocS ((below1 w (.cells #[.int .i64 4, .int .i64 a, .int .i64 b] 69)).trans (hb1.mono (by simp))) (.cells #[.func (.func 201) #[] #[], .func (.func 206) #[] #[], .func (.func 200) #[] #[]] 192)
  have XS := hid (((Bx.new (w := w) (p := w.heap.size) [.int .i64 4, .int .i64 a, .int .i64 b] 69 rfl).later hb1).alloc (.cells #[.func (.func 201) #[] #[], .func (.func 206) #[] #[], .func (.func 200) #[] #[]] 192))
  have XK := hid (Bx.new (w := w1) (p := w1.heap.size) [.func (.func 201) #[] #[], .func (.func 206) #[] #[], .func (.func 200) #[] #[]] 192 rfl)
  clear hb1
  go_wp2_with fail
  refine (isValue_is v _ _ HV.out).mono ?_
  rintro e w2 ⟨rfl, hw2⟩
  rw [hw2]; clear hw2 w2
  have s0 := XS.out.c 0 rfl
  have s1 := XS.out.c 1 rfl
  have s2 := XS.out.c 2 rfl
  have k0 := XK.out.c 0 rfl
  have k1 := XK.out.c 1 rfl
  have k2 := XK.out.c 2 rfl
  go_wp2_with fail
  clear s0 s1 s2 k0 k1 k2
  refine (poisonOne_is a b v _ HG.out).mono ?_
  rintro e w2 ⟨⟨o, c, rfl, h0, hF⟩, hb2⟩
  rw [HR.out] at hF ⊢
  have hB2 := hB1.trans (hb2.mono hB1.size)
  have HF := hid (hF.wide (lo' := w.heap.size) hB1.size (Nat.le_refl _))
  have H0 := hid h0
  clear hF hb2 h0 XS XK hB1
  go_wp2
  exact bodyPost_ret (v := .tuple #[.slice o r.1.length c, .bool r.2, .bool true]) (by simp [results, Tryz.results145, go_sem]) rfl ⟨⟨_, _, rfl, H0.out, HF.out⟩, hB2⟩
theorem implApp_any (k a b v : Int) (w : World) : Calls Tryz.prog 145 #[.agg #[.int .i64 k, .int .i64 a, .int .i64 b], .int .i64 v] w (AnsB w (appR k a b v)) := by
  rcases hg : goodSt k a b with _ | _
  · exact implApp0 k a b v w hg
  · rcases hv : valB v with _ | _
    · rcases good_kind hg with rfl | rfl | rfl | rfl
      · exact implApp1n a b v w hg hv
      · exact implApp2n a b v w hg hv
      · exact implApp3n a b v w hg hv
      · exact implApp4n a b v w hg hv
    · rcases good_kind hg with rfl | rfl | rfl | rfl
      · exact implApp1y a b v w hg hv
      · exact implApp2y a b v w hg hv
      · exact implApp3y a b v w hg hv
      · exact implApp4y a b v w hg hv
end
section
open Go.RowKit

/-- What leading a value on does. -/
def leadR (gs : List PNode) (s : PP) (k : Nat) (it v : Int) : PP :=
  if (nxP gs k).length = 0 then { s with em := s.em ++ [(it, (k : Int), v)] } else { s with bx := putsTo (it, v, 0) s.bx (nxP gs k) }
theorem lead_any (lo : Nat) (W : World) (p bb gb goff gc : Nat) (ts : List LNode) (sv : Value) (xs : List Value) (ev fv uv : Value) (s : PP) (k : Nat) (it v : Int) (h : Flow lo W p bb (.slice (some ⟨gb, goff, none⟩) ts.length gc) sv xs ev fv uv s) (hn : s.bx.length = ts.length) (hk : k < ts.length) (hz : DIn dNode lo W (some ⟨gb, goff, none⟩) ts) (hE : EdgesIn (ts.map valNode)) (hem : s.em.length ≤ 1000000) (ht : totT s.bx + 10 ≤ 100000) :
    Calls Tryz.prog 149 #[.pointer (some ⟨p, 0, none⟩), .int .i64 (k : Int), .int .i64 it, .int .i64 v] W fun e W' => (∃ u, e = .returned u) ∧ FStep lo p (.slice (some ⟨gb, goff, none⟩) ts.length gc) sv (FO p bb xs ev fv uv) W W' (leadR (ts.map valNode) s k it v) := by
  obtain ⟨b, off, e, hb, hc⟩ := hNode_at hz.1 hk
  obtain ⟨rfl, rfl⟩ : gb = b ∧ goff = off := by simp at e; exact e
  obtain ⟨c0, c1, c2, c3, c4, c5⟩ := hc k hk
  have hin := hz.2 k hk
  have hev : nxP (ts.map valNode) k = (el ts k).2.2.2.2.2.2.2 := by rw [nxP, el_val hk]; rfl
  have hrg := hE.rng k (by rw [List.length_map]; exact hk)
  have hfew := hE.few k (by rw [List.length_map]; exact hk)
  rw [leadR]
  rw [hev] at hrg hfew ⊢
  by_cases h0 : (el ts k).2.2.2.2.2.2.2.length = 0
  · rw [if_pos h0]
    rw [h0] at c5
    exact leadEnd_any lo W p bb gb goff ts.length gc sv xs ev fv uv s k it v _ _ _ _ _ _ _ h hk hb c0 c1 c2 c3 c4 c5 hem
  · rw [if_neg h0]
    exact leadOn_any lo W p bb gb goff ts.length gc sv xs ev fv uv s k it v _ _ _ _ _ _ _ _ h hk hb c0 c1 c2 c3 c4 c5 hin h0 (fun x hx => by obtain ⟨j, hj, e⟩ := hrg x hx; rw [List.length_map] at hj; exact ⟨j, by omega, e⟩) (by omega)
theorem leadR_len (gs : List PNode) (s : PP) (k : Nat) (it v : Int) : (leadR gs s k it v).bx.length = s.bx.length := by
  unfold leadR; split
  · rfl
  · exact putsTo_len _ _ _
theorem leadR_tot {gs : List PNode} {s : PP} {k : Nat} (it v : Int) (hk : k < gs.length) (hE : EdgesIn gs) (hn : s.bx.length = gs.length) : totT (leadR gs s k it v).bx ≤ totT s.bx + 10 := by
  unfold leadR; split
  · exact Nat.le_add_right _ _
  · have h1 := putsTo_tot (it, v, 0) (nxP gs k) s.bx (fun x hx => by obtain ⟨j, hj, e⟩ := hE.rng k hk x hx; exact ⟨j, by omega, e⟩)
    have h2 := hE.few k hk
    show totT (putsTo (it, v, 0) s.bx (nxP gs k)) ≤ _
    omega
theorem leadR_em (gs : List PNode) (s : PP) (k : Nat) (it v : Int) : (leadR gs s k it v).em.length ≤ s.em.length + 1 := by
  unfold leadR; split
  · simp
  · exact Nat.le_add_right _ _
/-- What leading some values on does. -/
def leadAll (gs : List PNode) (k : Nat) (it : Int) : List Int → PP → PP
  | [], s => s
  | v :: r, s => leadAll gs k it r (leadR gs s k it v)
theorem leadAll_snoc (gs : List PNode) (k : Nat) (it : Int) : ∀ (l : List Int) (s : PP) (v : Int), leadAll gs k it (l ++ [v]) s = leadR gs (leadAll gs k it l s) k it v
  | [], _, _ => rfl
  | y :: r, s, v => by rw [List.cons_append, leadAll, leadAll, leadAll_snoc gs k it r]
theorem leadAll_len (gs : List PNode) (k : Nat) (it : Int) : ∀ (l : List Int) (s : PP), (leadAll gs k it l s).bx.length = s.bx.length
  | [], _ => rfl
  | y :: r, s => by rw [leadAll, leadAll_len gs k it r, leadR_len]
theorem leadAll_tot {gs : List PNode} {k : Nat} (it : Int) (hk : k < gs.length) (hE : EdgesIn gs) : ∀ (l : List Int) (s : PP), s.bx.length = gs.length → totT (leadAll gs k it l s).bx ≤ totT s.bx + 10 * l.length
  | [], _, _ => Nat.le_refl _
  | y :: r, s, hn => by
    have h1 := leadAll_tot it hk hE r (leadR gs s k it y) (by rw [leadR_len]; exact hn)
    have h2 := leadR_tot it y hk hE hn
    rw [leadAll, List.length_cons]; omega
theorem leadAll_em (gs : List PNode) (k : Nat) (it : Int) : ∀ (l : List Int) (s : PP), (leadAll gs k it l s).em.length ≤ s.em.length + l.length
  | [], _ => Nat.le_refl _
  | y :: r, s => by
    have h1 := leadAll_em gs k it r (leadR gs s k it y)
    have h2 := leadR_em gs s k it y
    rw [leadAll, List.length_cons]; omega
/-- What a node's stage makes of a value. -/
def stApp (gs : List PNode) (k : Nat) (v : Int) : List Int × Bool × Bool := appR (el gs k).2.1 (el gs k).2.2.1 (el gs k).2.2.2.1 v
/-- What a step of a node does. -/
def stepR (gs : List PNode) (s : PP) (node : Int) : Int × PP :=
  if 0 ≤ node ∧ node < s.bx.length then
    match el s.bx node.toNat with
    | [] => (5, s)
    | t :: r =>
      if (stApp gs node.toNat t.2.1).2.1 = true then (0, failP s node.toNat t.1 t.2.1 t.2.2 r)
      else if blkP gs s.bx node.toNat ((stApp gs node.toNat t.2.1).1.length : Int) = true then (6, s)
      else (0, leadAll gs node.toNat t.1 (stApp gs node.toNat t.2.1).1 { s with bx := s.bx.set node.toNat r })
  else (2, s)
/-- What an offer does. -/
def offerR (gs : List PNode) (src : List Int) (s : PP) (node v : Int) : Int × PP :=
  if hasB src node = true ∧ valB v = true then
    if s.cl = true then (3, s)
    else if capP gs node.toNat - ((el s.bx node.toNat).length : Int) < 1 then (4, s)
    else (0, { s with bx := s.bx.set node.toNat (el s.bx node.toNat ++ [(s.it, v, 0)]), it := s.it + 1 })
  else (2, s)
/-- What a move does. -/
def doR (gs : List PNode) (src : List Int) (s : PP) (m1 m2 m3 : Int) : Int × PP :=
  if m1 = 1 then offerR gs src s m2 m3 else if m1 = 2 then stepR gs s m2 else if m1 = 3 then faultR s m2 else if m1 = 4 then tickR s m3 else if m1 = 5 then drainR s else if m1 = 6 then abortR s else (1, s)
theorem Flow.old {lo : Nat} {W : World} {p bb : Nat} {gv sv : Value} {xs : List Value} {ev fv uv : Value} {s : PP} (h : Flow lo W p bb gv sv xs ev fv uv s) {b : Nat} (hb : FO p bb xs ev fv uv b) : b < W.heap.size := by
  rcases hb with rfl | rfl | ⟨j, hj, hb⟩ | hb
  · exact h.box.size
  · exact h.hnd.size
  · exact (own_block_lt (h.hnd.row j (by rw [← h.hnd.len]; exact hj)) hb).2
  · exact (h.apart hb).1
theorem Flow.far {lo : Nat} {W : World} {p bb : Nat} {gv sv : Value} {xs : List Value} {ev fv uv : Value} {s : PP} (h : Flow lo W p bb gv sv xs ev fv uv s) {b : Nat} (hb : W.heap.size ≤ b) : ¬ FO p bb xs ev fv uv b := fun hO => by have := h.old hO; omega
end
section
open Go.RowKit

/-- Every token was tried a few times at most. -/
def TrB (bx : List (List (Int × Int × Int))) : Prop := ∀ k t, t ∈ el bx k → 0 ≤ t.2.2 ∧ t.2.2 ≤ 3
theorem TrB.set {bx : List (List (Int × Int × Int))} (h : TrB bx) (k : Nat) {x : List (Int × Int × Int)} (hx : ∀ t ∈ x, 0 ≤ t.2.2 ∧ t.2.2 ≤ 3) : TrB (bx.set k x) := fun j t ht => by
  by_cases e : j = k
  · subst e
    by_cases hj : j < bx.length
    · rw [el_set_same hj] at ht; exact hx t ht
    · rw [List.set_eq_of_length_le (by omega)] at ht; exact h j t ht
  · rw [el_set_far e] at ht; exact h j t ht
theorem TrB.put {bx : List (List (Int × Int × Int))} (h : TrB bx) (k : Nat) (a b : Int) : TrB (bx.set k (el bx k ++ [(a, b, 0)])) := h.set k fun t ht => by
  rcases List.mem_append.1 ht with h1 | h1
  · exact h k t h1
  · rw [List.mem_singleton.1 h1]; exact ⟨by show (0 : Int) ≤ 0; omega, by show (0 : Int) ≤ 3; omega⟩
theorem TrB.puts (a b : Int) : ∀ (l : List Int) {bx : List (List (Int × Int × Int))}, TrB bx → TrB (putsTo (a, b, 0) bx l)
  | [], _, h => h
  | x :: r, _, h => TrB.puts a b r (h.put x.toNat a b)
theorem TrB.clr {bx : List (List (Int × Int × Int))} : TrB (clr bx bx.length) := fun j t ht => by
  have e : el (Go.Proofs.YtoeonbdoopboiaaGreatDoor.clr bx bx.length) j = [] := by
    simp only [Go.Proofs.YtoeonbdoopboiaaGreatDoor.clr, el, List.drop_length, List.append_nil]
    by_cases hj : j < bx.length
    · simp [hj]
    · simp [hj]; rfl
  rw [e] at ht; cases ht
/-- What a pipe holds behind n moves is small. -/
structure BndP (N n : Nat) (s : PP) : Prop where
  len : s.bx.length = N
  tot : totT s.bx + s.fa.length ≤ 30 * n
  em : s.em.length ≤ 3 * n
  fu : s.fu.length ≤ 5
  ti0 : 0 ≤ s.ti
  ti1 : s.ti ≤ 1000000
  it0 : 0 ≤ s.it
  it1 : s.it ≤ (n : Int)
  tr : TrB s.bx
theorem BndP.more {N n m : Nat} {s : PP} (h : BndP N n s) (hm : n ≤ m) : BndP N m s :=
  ⟨h.len, by have := h.tot; omega, by have := h.em; omega, h.fu, h.ti0, h.ti1, h.it0, by have := h.it1; omega, h.tr⟩
theorem BndP.abort {N n : Nat} {s : PP} (h : BndP N n s) : BndP N n (abortP s) := by
  have ht := (totT_clr s.bx s.bx.length).resolve_right (by omega)
  refine ⟨?_, ?_, h.em, h.fu, h.ti0, h.ti1, h.it0, h.it1, TrB.clr⟩
  · show (clr s.bx s.bx.length).length = N
    rw [clr_len (Nat.le_refl _)]; exact h.len
  · show totT (clr s.bx s.bx.length) + (s.fa ++ lostTo s.bx s.bx.length).length ≤ _
    have := h.tot
    rw [List.length_append]; omega
theorem BndP.failT {N n : Nat} {s : PP} (h : BndP N n s) : BndP N n (failT s) := by
  unfold Go.Proofs.YtoeonbdoopboiaaGreatDoor.failT
  split
  · have a := h.abort
    exact ⟨a.len, a.tot, a.em, Nat.zero_le _, a.ti0, a.ti1, a.it0, a.it1, a.tr⟩
  · rename_i hl
    exact ⟨h.len, h.tot, h.em, by dsimp only; omega, h.ti0, h.ti1, h.it0, h.it1, h.tr⟩
theorem BndP.fail {N n : Nat} {s : PP} (h : BndP N n s) {k : Nat} {t1 t2 t3 : Int} {r : List (Int × Int × Int)} (hk : k < s.bx.length) (hr : el s.bx k = (t1, t2, t3) :: r) : BndP N n (failP s k t1 t2 t3 r) := by
  unfold failP
  refine BndP.failT ?_
  have ht3 := h.tr k (t1, t2, t3) (by rw [hr]; simp)
  have hrr : ∀ t ∈ r, 0 ≤ t.2.2 ∧ t.2.2 ≤ 3 := fun t ht => h.tr k t (by rw [hr]; exact List.mem_cons_of_mem _ ht)
  have htot := h.tot
  split
  · have hs := totT_set (ls := s.bx) (k := k) r hk
    rw [hr, List.length_cons] at hs
    refine ⟨(List.length_set ..).trans h.len, ?_, h.em, h.fu, h.ti0, h.ti1, h.it0, h.it1, h.tr.set k hrr⟩
    show totT (s.bx.set k r) + (s.fa ++ [_]).length ≤ _
    rw [List.length_append, List.length_singleton]; omega
  · rename_i h3
    have hs := totT_set (ls := s.bx) (k := k) ((t1, t2, t3 + 1) :: r) hk
    rw [hr, List.length_cons, List.length_cons] at hs
    refine ⟨(List.length_set ..).trans h.len, ?_, h.em, h.fu, h.ti0, h.ti1, h.it0, h.it1, h.tr.set k fun t ht => ?_⟩
    · show totT (s.bx.set k ((t1, t2, t3 + 1) :: r)) + s.fa.length ≤ _
      omega
    · rcases List.mem_cons.1 ht with rfl | h1
      · dsimp only at ht3 ⊢; omega
      · exact hrr t h1
theorem leadR_same (gs : List PNode) (s : PP) (k : Nat) (it v : Int) : (leadR gs s k it v).fa = s.fa ∧ (leadR gs s k it v).fu = s.fu ∧ (leadR gs s k it v).ti = s.ti ∧ (leadR gs s k it v).it = s.it ∧ (leadR gs s k it v).cl = s.cl := by
  unfold leadR; split <;> exact ⟨rfl, rfl, rfl, rfl, rfl⟩
theorem leadR_tr (gs : List PNode) {s : PP} (k : Nat) (it v : Int) (h : TrB s.bx) : TrB (leadR gs s k it v).bx := by
  unfold leadR; split
  · exact h
  · exact TrB.puts it v _ h
theorem leadAll_same (gs : List PNode) (k : Nat) (it : Int) : ∀ (l : List Int) (s : PP), (leadAll gs k it l s).fa = s.fa ∧ (leadAll gs k it l s).fu = s.fu ∧ (leadAll gs k it l s).ti = s.ti ∧ (leadAll gs k it l s).it = s.it ∧ (leadAll gs k it l s).cl = s.cl
  | [], _ => ⟨rfl, rfl, rfl, rfl, rfl⟩
  | y :: r, s => by
    obtain ⟨a1, a2, a3, a4, a5⟩ := leadAll_same gs k it r (leadR gs s k it y)
    obtain ⟨b1, b2, b3, b4, b5⟩ := leadR_same gs s k it y
    rw [leadAll]
    exact ⟨a1.trans b1, a2.trans b2, a3.trans b3, a4.trans b4, a5.trans b5⟩
theorem leadAll_tr (gs : List PNode) (k : Nat) (it : Int) : ∀ (l : List Int) {s : PP}, TrB s.bx → TrB (leadAll gs k it l s).bx
  | [], _, h => h
  | y :: r, _, h => leadAll_tr gs k it r (leadR_tr gs k it y h)
theorem BndP.step {gs : List PNode} {n : Nat} {s : PP} (h : BndP gs.length n s) (hE : EdgesIn gs) (m : Int) : BndP gs.length (n + 1) (stepR gs s m).2 := by
  unfold stepR
  split
  · rename_i hin
    have hk : m.toNat < s.bx.length := by omega
    split
    · exact h.more (by omega)
    · rename_i t r hr
      obtain ⟨t1, t2, t3⟩ := t
      split
      · exact (h.fail hk hr).more (by omega)
      · split
        · exact h.more (by omega)
        · have hs := totT_set (ls := s.bx) (k := m.toNat) r hk
          rw [hr, List.length_cons] at hs
          have hl : (stApp gs m.toNat t2).1.length ≤ 3 := appR_len _ _ _ _
          have hkg : m.toNat < gs.length := by rw [← h.len]; exact hk
          have htot := h.tot
          have hem := h.em
          have hrr : ∀ t ∈ r, 0 ≤ t.2.2 ∧ t.2.2 ≤ 3 := fun t ht => h.tr m.toNat t (by rw [hr]; exact List.mem_cons_of_mem _ ht)
          obtain ⟨a1, a2, a3, a4, _⟩ := leadAll_same gs m.toNat t1 (stApp gs m.toNat t2).1 { s with bx := s.bx.set m.toNat r }
          have b1 := leadAll_tot t1 hkg hE (stApp gs m.toNat t2).1 { s with bx := s.bx.set m.toNat r } (by rw [← h.len]; exact List.length_set ..)
          have b2 := leadAll_em gs m.toNat t1 (stApp gs m.toNat t2).1 { s with bx := s.bx.set m.toNat r }
          have b3 := leadAll_len gs m.toNat t1 (stApp gs m.toNat t2).1 { s with bx := s.bx.set m.toNat r }
          have hfu := h.fu
          have h0 := h.ti0
          have h1 := h.ti1
          have h2 := h.it0
          have h3 := h.it1
          dsimp only at a1 a2 a3 a4 b1 b2 b3 ⊢
          exact ⟨b3.trans ((List.length_set ..).trans h.len), by rw [a1]; omega, by omega, by rw [a2]; exact hfu, by rw [a3]; exact h0, by rw [a3]; exact h1, by rw [a4]; exact h2, by rw [a4]; omega, leadAll_tr gs _ _ _ (h.tr.set _ hrr)⟩
  · exact h.more (by omega)
theorem BndP.fault {N n : Nat} {s : PP} (h : BndP N n s) (m : Int) : BndP N n (faultR s m).2 := by
  unfold faultR
  split
  · rename_i hin
    split
    · exact h
    · rename_i t r hr
      exact h.fail (by omega) hr
  · exact h
theorem BndP.offer {gs : List PNode} {src : List Int} {N n : Nat} {s : PP} (h : BndP N n s) (m v : Int) : BndP N (n + 1) (offerR gs src s m v).2 := by
  unfold offerR
  split
  · split
    · exact h.more (by omega)
    · split
      · exact h.more (by omega)
      · have htot := h.tot
        have hi := h.it1
        have h0 := h.it0
        refine ⟨(List.length_set ..).trans h.len, ?_, by have := h.em; dsimp only; omega, h.fu, h.ti0, h.ti1, by dsimp only; omega, by dsimp only; omega, h.tr.put _ _ _⟩
        show totT (s.bx.set m.toNat (el s.bx m.toNat ++ [(s.it, v, 0)])) + s.fa.length ≤ _
        by_cases hk : m.toNat < s.bx.length
        · have hs := totT_set (ls := s.bx) (k := m.toNat) (el s.bx m.toNat ++ [(s.it, v, 0)]) hk
          rw [List.length_append, List.length_singleton] at hs
          omega
        · rw [List.set_eq_of_length_le (by omega)]; omega
  · exact h.more (by omega)
/-- A move keeps the bounds. -/
theorem BndP.move {gs : List PNode} {src : List Int} {n : Nat} {s : PP} (h : BndP gs.length n s) (hE : EdgesIn gs) (m1 m2 m3 : Int) : BndP gs.length (n + 1) (doR gs src s m1 m2 m3).2 := by
  unfold doR
  split
  · exact h.offer m2 m3
  · split
    · exact h.step hE m2
    · split
      · exact (h.fault m2).more (by omega)
      · split
        · unfold tickR
          split
          · exact h.more (by omega)
          · split
            · exact h.more (by omega)
            · have a := h.more (m := n + 1) (by omega)
              have := h.ti0
              exact ⟨a.len, a.tot, a.em, a.fu, by dsimp only; omega, by dsimp only; omega, a.it0, a.it1, a.tr⟩
        · split
          · unfold drainR
            split
            · exact h.more (by omega)
            · have a := h.more (m := n + 1) (by omega)
              exact ⟨a.len, a.tot, a.em, a.fu, a.ti0, a.ti1, a.it0, a.it1, a.tr⟩
          · split
            · unfold abortR
              split
              · exact h.more (by omega)
              · exact h.abort.more (by omega)
            · exact h.more (by omega)
end
section
open Go Go.RowKit

/-- Q, but nothing lets out. -/
def NoOut (Q : Exit → Act → World → Prop) : Exit → Act → World → Prop
  | .outgrown, _, _ => False
  | e, a, w => Q e a w
theorem NoOut.imp {Q : Exit → Act → World → Prop} : ∀ (e : Exit) (a : Act) (w : World), NoOut Q e a w → Q e a w := fun e a w h => by
  cases e <;> first | exact h | exact (h : False).elim
theorem NoOut.normal {Q : Exit → Act → World → Prop} {a : Act} {w : World} (h : Q .normal a w) : NoOut Q .normal a w := h
theorem noOut_lets {Q : Exit → Act → World → Prop} : ¬ LetsOut (NoOut Q) := fun ⟨_, _, h⟩ => h
theorem rowsIn_wide {n : Nat} {P : Program} {row : String} {args : Array Value} {w : World} {R : Value → World → Prop} (h : Rows P row args w R) : RowsIn Fence.wide n P row args w R :=
  fun c cs _ => let ⟨v, w', r, s⟩ := h c cs; ⟨v, w', r, stepsIn_wide.2 s⟩
theorem wpOpIn_of_plain {n : Nat} {P : Program} {ops : Array Oper} {Q : Exit → Act → World → Prop} (l : Nat) (hnd : ∀ (i : Nat) (o : Oper) (c : _), ops[i]? = some o → o.op ≠ .defer c) {i : Nat} {K : Act → World → Prop} {a : Act} {w : World} (h : wpOp P ops (NoOut Q) i K a w) : wpOpIn (Fence.wide.inRound l) n P ops Q i K a w := by
  unfold wpOp at h
  unfold wpOpIn
  cases ho : ops[i]? with
  | none => rw [ho] at h; exact h
  | some o =>
    rw [ho] at h
    dsimp only at h ⊢
    by_cases hw : Region.wanted o (yielded ops a.tmps) = true
    · rw [if_pos hw] at h ⊢
      rcases h with h | ⟨_, h⟩
      · unfold Oper.wpIn
        rw [Oper.semAt_eq _ _ _ (fun c => hnd i o c ho)]
        refine ⟨fun _ _ => trivial, ?_⟩
        unfold Oper.wp at h
        generalize (execOp a.eval o).run P w = r at h ⊢
        cases r with
        | ok x w' =>
          cases x <;> simp only [Oper.upon, Oper.uponIn] at h ⊢
          case enter f args =>
            refine ⟨fun hh => by simp [Fence.wide, Fence.inRound] at hh, CallsIn.inRound l (callsIn_wide.2 (h.mono fun e w'' he => ?_))⟩
            cases e with
            | returned v => exact he
            | panicked c => exact he
            | outgrown => exact (noOut_lets he).elim
          all_goals first | exact h | exact ⟨fun hh => by simp [Fence.wide, Fence.inRound] at hh, (rowsIn_wide (n := n - 1) h : RowsIn Fence.wide (n - 1) P _ _ _ _)⟩
        | halt x w' => cases x <;> simp only [Oper.upon, Oper.uponIn] at h ⊢ <;> exact h
      · exact (noOut_lets h).elim
    · rw [if_neg hw] at h ⊢
      exact ⟨fun _ _ => trivial, h⟩
theorem wpAnyIn_of_held {n : Nat} {P : Program} {md : Region.Mode} {ops : Array Oper} {Q : Exit → Act → World → Prop} {S : World → Prop} (l : Nat) (hnd : ∀ (i : Nat) (o : Oper) (c : _), ops[i]? = some o → o.op ≠ .defer c) :
    ∀ (fuel : Nat) (listed : Array Bool) (a : Act) (w : World), wpAnyH P md ops (NoOut Q) S fuel listed a w → wpAnyIn (Fence.wide.inRound l) n P md ops Q fuel listed a w
  | 0, _, _, _, h => ⟨h.1, h.2⟩
  | fuel + 1, _, _, _, h => ⟨h.1, fun i hi => wpOpIn_of_plain l hnd (wpOp_mono (fun a' w' h' => wpAnyIn_of_held l hnd fuel _ a' w' h'.2) (h.2 i hi))⟩
def noDefer (ops : Array Oper) : Bool := ops.toList.all fun o => match o.op with | .defer _ => false | _ => true
theorem noDefer_spec {ops : Array Oper} (h : noDefer ops = true) : ∀ (i : Nat) (o : Oper) (c : _), ops[i]? = some o → o.op ≠ .defer c := fun i o c hi e => by
  have hm : o ∈ ops.toList := by rw [Array.mem_toList_iff]; exact Array.mem_of_getElem? hi
  have := List.all_eq_true.1 h o hm
  rw [e] at this
  exact absurd this (by simp)
/-- A region that draws, in a round of a range over a function: as one outside, S held. -/
theorem wpIn_round_held {n : Nat} {P : Program} {id : Nat} {ops : Array Oper} {Q : Exit → Act → World → Prop} {S : World → Prop} {l : Nat} {a : Act} {w : World} (hm : P.follows .mixedOrders = true) (hnd : noDefer ops = true) (hS : S w.drew)
    (h : S w.drew → wpAnyH P .any ops (NoOut Q) S ops.size (Array.replicate ops.size false) a w.drew) : (Code.region id ops true).wpIn (Fence.wide.inRound l) n P Q a w :=
  wpIn_region_any hm (wpAnyIn_of_held l (noDefer_spec hnd) _ _ _ _ (h hS))
end
end Go.Proofs.YtoeonbdoopboiaaGreatDoor
