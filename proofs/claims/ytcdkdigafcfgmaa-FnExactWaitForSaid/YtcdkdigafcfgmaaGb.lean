/- Whether a group is good: the program and the specification. No conditions but those written. -/
import Derived.Test.YtcdkdigafcfgmaaLa
import Derived.Test.YtcdkdigafcfgmaaGa
namespace Go.Proofs.Ytcdkdigafcfgmaa
open Go.RowKit

/-- A group is good. -/
def groupB (cnt : Int) (q : List Int) : Bool := (decide (0 ≤ cnt) && decide (cnt ≤ 1000000)) && (lineB q && (decide (0 < cnt) || decide (q.length = 0)))
theorem groupB_cnt {cnt : Int} {q : List Int} (h : (decide (0 ≤ cnt) && decide (cnt ≤ 1000000)) = false) : groupB cnt q = false := by rw [groupB, h]; rfl
theorem groupB_line {cnt : Int} {q : List Int} (h : lineB q = false) : groupB cnt q = false := by rw [groupB, h]; simp
theorem groupB_tail {cnt : Int} {q : List Int} (h1 : (decide (0 ≤ cnt) && decide (cnt ≤ 1000000)) = true) (h2 : lineB q = true) : groupB cnt q = (decide (0 < cnt) || decide (q.length = 0)) := by rw [groupB, h1, h2]; rfl
theorem groupB_good {cnt : Int} {q : List Int} (h : groupB cnt q = true) : 0 ≤ cnt ∧ cnt ≤ 1000000 ∧ lineB q = true ∧ (0 < cnt ∨ q = []) := by
  simp only [groupB, Bool.and_eq_true, Bool.or_eq_true, decide_eq_true_eq] at h
  exact ⟨h.1.1, h.1.2, h.2.1, h.2.2.imp id List.length_eq_zero_iff.1⟩

set_option maxHeartbeats 2000000 in
theorem implGood_is (cnt : Int) (ao : Option Addr) (cap : Nat) (q : List Int) (w : World) (x : Bool) (hl : q.length ≤ 1048576) (hz : kI.In w.heap.size w ao q) (hx : groupB cnt q = x) :
    Calls Try.prog 17 #[.agg #[.int .i64 cnt, .slice ao q.length cap]] w fun e w' => e = .returned (.bool x) ∧ Below w.heap.size w w' := by
  have hB0 := below1 w (.cells #[.int .i64 cnt, .slice ao q.length cap] 27)
  have X0 : Bx (w.alloc (.cells #[.int .i64 cnt, .slice ao q.length cap] 27)) w.heap.size _ := Bx.new [.int .i64 cnt, .slice ao q.length cap] 27 rfl
  by_cases h1 : cnt < 0
  · have HV : Hid (x = false) := by rw [Hid, ← hx]; exact groupB_cnt (by simp; omega)
    clear hx
    go_enter Try.func17, Try.ntmps17
    go_wp2
    go_ret
    exact ⟨ret_bool HV.out.symm, hB0⟩
  have h1' : decide (cnt < 0) = false := by simpa using h1
  by_cases h2 : 1000000 < cnt
  · have HV : Hid (x = false) := by rw [Hid, ← hx]; exact groupB_cnt (by simp; omega)
    clear hx
    go_enter Try.func17, Try.ntmps17
    go_wp2
    go_ret
    exact ⟨ret_bool HV.out.symm, hB0⟩
  have h2' : decide (1000000 < cnt) = false := by simpa using h2
  cases h3 : lineB q
  · have HV : Hid (x = false) := by rw [Hid, ← hx]; exact groupB_line h3
    have H3 : Hid (lineB q = false) := h3
    clear hx h3
    go_enter Try.func17, Try.ntmps17
    go_wp2_with fail
    refine (goodLine_is ao cap q _ false hl (hz.later hB0) H3.out).mono ?_
    rintro e w1 ⟨rfl, hb1⟩
    have hB1 := hB0.trans (hb1.mono hB0.size)
    go_wp2
    go_ret
    exact ⟨ret_bool HV.out.symm, hB1⟩
  have H3 : Hid (lineB q = true) := h3
  have HX : Hid ((decide (0 < cnt) || decide (q.length = 0)) = x) := by rw [Hid, ← hx]; exact (groupB_tail (by simp; omega) h3).symm
  clear hx h3
  go_enter Try.func17, Try.ntmps17
  go_wp2_with fail
  refine (goodLine_is ao cap q _ true hl (hz.later hB0) H3.out).mono ?_
  rintro e w1 ⟨rfl, hb1⟩
  have hB1 := hB0.trans (hb1.mono hB0.size)
  have X1 := X0.later hb1
  have x0 := X1.c 0 rfl
  have x1 := X1.c 1 rfl
  clear hb1 X0
  by_cases h4 : 0 < cnt
  · have h4' : decide (0 < cnt) = true := by simpa using h4
    have HV : Hid (x = true) := by rw [Hid, ← HX.out, h4']; rfl
    go_wp2
    go_ret
    exact ⟨ret_bool HV.out.symm, hB1⟩
  · have h4' : decide (0 < cnt) = false := by simpa using h4
    by_cases h5 : q.length = 0
    · obtain ⟨z1, _, _⟩ := len0 h5
      have HV : Hid (x = true) := by rw [Hid, ← HX.out, decide_eq_true (p := q.length = 0) h5]; simp
      clear h5
      go_wp2
      go_ret
      exact ⟨ret_bool HV.out.symm, hB1⟩
    · obtain ⟨z1, _⟩ := len1 h5
      have HV : Hid (x = false) := by rw [Hid, ← HX.out, decide_eq_false (p := q.length = 0) h5, h4']; rfl
      clear h5
      go_wp2
      go_ret
      exact ⟨ret_bool HV.out.symm, hB1⟩

set_option maxHeartbeats 2000000 in
theorem specGood_is (cnt : Int) (ao : Option Addr) (cap : Nat) (q : List Int) (w : World) (x : Bool) (hl : q.length ≤ 1048576) (hc : q.length ≤ cap) (hz : kI.In w.heap.size w ao q) (hx : groupB cnt q = x) :
    Calls Try.prog 15 #[.agg #[.int .i64 cnt, .slice ao q.length cap]] w fun e w' => e = .returned (.bool x) ∧ Below w.heap.size w w' := by
  have hB0 := below1 w (.cells #[.int .i64 cnt, .slice ao q.length cap] 27)
  cases h1 : (decide (0 ≤ cnt) && decide (cnt ≤ 1000000))
  · have HV : Hid (x = false) := by rw [Hid, ← hx]; exact groupB_cnt h1
    have H1 : Hid ((decide (0 ≤ cnt) && decide (cnt ≤ 1000000)) = false) := h1
    clear hx h1
    go_enter Try.func15, Try.ntmps15
    go_wp2_with fail
    refine (l1In_is cnt 0 1000000 _ false H1.out).mono ?_
    rintro e w1 ⟨rfl, rfl⟩
    go_wp2
    go_ret
    exact ⟨ret_bool HV.out.symm, hB0⟩
  have H1 : Hid ((decide (0 ≤ cnt) && decide (cnt ≤ 1000000)) = true) := h1
  cases h3 : lineB q
  · have HV : Hid (x = false) := by rw [Hid, ← hx]; exact groupB_line h3
    have H3 : Hid (lineB q = false) := h3
    clear hx h3 h1
    go_enter Try.func15, Try.ntmps15
    go_wp2_with fail
    refine (l1In_is cnt 0 1000000 _ true H1.out).mono ?_
    rintro e w1 ⟨rfl, rfl⟩
    go_wp2_with fail
    refine (l5Tasks_is _ ao cap q _ false hl hc (hz.later hB0) H3.out).mono ?_
    rintro e w1 ⟨rfl, rfl⟩
    go_wp2
    go_ret
    exact ⟨ret_bool HV.out.symm, hB0⟩
  have H3 : Hid (lineB q = true) := h3
  have HX : Hid ((decide (0 < cnt) || decide (q.length = 0)) = x) := by rw [Hid, ← hx]; exact (groupB_tail h1 h3).symm
  clear hx h3 h1
  go_enter Try.func15, Try.ntmps15
  go_wp2_with fail
  refine (l1In_is cnt 0 1000000 _ true H1.out).mono ?_
  rintro e w1 ⟨rfl, rfl⟩
  go_wp2_with fail
  refine (l5Tasks_is _ ao cap q _ true hl hc (hz.later hB0) H3.out).mono ?_
  rintro e w1 ⟨rfl, rfl⟩
  by_cases h4 : 0 < cnt
  · have h4' : decide (0 < cnt) = true := by simpa using h4
    have HV : Hid (x = true) := by rw [Hid, ← HX.out, h4']; rfl
    go_wp2
    go_ret
    exact ⟨ret_bool HV.out.symm, hB0⟩
  · have h4' : decide (0 < cnt) = false := by simpa using h4
    by_cases h5 : q.length = 0
    · obtain ⟨z1, _, _⟩ := len0 h5
      have HV : Hid (x = true) := by rw [Hid, ← HX.out, decide_eq_true (p := q.length = 0) h5]; simp
      clear h5
      go_wp2
      go_ret
      exact ⟨ret_bool HV.out.symm, below1 _ _⟩
    · obtain ⟨z1, _⟩ := len1 h5
      have HV : Hid (x = false) := by rw [Hid, ← HX.out, decide_eq_false (p := q.length = 0) h5, h4']; rfl
      clear h5
      go_wp2
      go_ret
      exact ⟨ret_bool HV.out.symm, hB0⟩
end Go.Proofs.Ytcdkdigafcfgmaa
