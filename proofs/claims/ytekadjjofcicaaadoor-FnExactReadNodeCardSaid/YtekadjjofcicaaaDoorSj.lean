
/- Stages: GoodStage and FactorOf on both sides, and their laws' walks. No conditions but those written. -/
import Derived.Test.YtekadjjofcicaaaDoorSi
namespace Go.Proofs.YtekadjjofcicaaaDoor
open Go.RowKit

set_option maxHeartbeats 2000000 in
theorem implGood1 (a b : Int) (w : World) (hg : goodSt 1 a b = true) :
    Calls Tryd.prog 42 #[.agg #[.int .i64 1, .int .i64 a, .int .i64 b]] w fun e w' => e = .returned (.bool true) ∧ Below w.heap.size w w' := by
  go_enter Tryd.func42, Tryd.ntmps42
  go_wp2_with fail
  refine (goodKind1_true a b _ hg).mono ?_
  rintro e w1 ⟨rfl, hb1⟩
  have hB1 := (below1 w (.cells #[.int .i64 1, .int .i64 a, .int .i64 b] 30)).trans (hb1.mono (by simp))
  clear hb1
  go_wp2
  go_ret
  exact ⟨rfl, Below.allocS hB1 _⟩
set_option maxHeartbeats 2000000 in
theorem implGood2 (a b : Int) (w : World) (hg : goodSt 2 a b = true) :
    Calls Tryd.prog 42 #[.agg #[.int .i64 2, .int .i64 a, .int .i64 b]] w fun e w' => e = .returned (.bool true) ∧ Below w.heap.size w w' := by
  go_enter Tryd.func42, Tryd.ntmps42
  go_wp2_with fail
  refine (goodKind2_true a b _ hg).mono ?_
  rintro e w1 ⟨rfl, hb1⟩
  have hB1 := (below1 w (.cells #[.int .i64 2, .int .i64 a, .int .i64 b] 30)).trans (hb1.mono (by simp))
  clear hb1
  go_wp2
  go_ret
  exact ⟨rfl, Below.allocS hB1 _⟩
set_option maxHeartbeats 2000000 in
theorem implGood3 (a b : Int) (w : World) (hg : goodSt 3 a b = true) :
    Calls Tryd.prog 42 #[.agg #[.int .i64 3, .int .i64 a, .int .i64 b]] w fun e w' => e = .returned (.bool true) ∧ Below w.heap.size w w' := by
  go_enter Tryd.func42, Tryd.ntmps42
  go_wp2_with fail
  refine (goodKind3_true a b _ hg).mono ?_
  rintro e w1 ⟨rfl, hb1⟩
  have hB1 := (below1 w (.cells #[.int .i64 3, .int .i64 a, .int .i64 b] 30)).trans (hb1.mono (by simp))
  clear hb1
  go_wp2
  go_ret
  exact ⟨rfl, Below.allocS hB1 _⟩
set_option maxHeartbeats 2000000 in
theorem implGood4 (a b : Int) (w : World) (hg : goodSt 4 a b = true) :
    Calls Tryd.prog 42 #[.agg #[.int .i64 4, .int .i64 a, .int .i64 b]] w fun e w' => e = .returned (.bool true) ∧ Below w.heap.size w w' := by
  go_enter Tryd.func42, Tryd.ntmps42
  go_wp2_with fail
  refine (goodKind4_true a b _ hg).mono ?_
  rintro e w1 ⟨rfl, hb1⟩
  have hB1 := (below1 w (.cells #[.int .i64 4, .int .i64 a, .int .i64 b] 30)).trans (hb1.mono (by simp))
  clear hb1
  go_wp2
  go_ret
  exact ⟨rfl, Below.allocS hB1 _⟩
set_option maxHeartbeats 2000000 in
theorem implGood0 (k a b : Int) (w : World) (hg : goodSt k a b = false) :
    Calls Tryd.prog 42 #[.agg #[.int .i64 k, .int .i64 a, .int .i64 b]] w fun e w' => e = .returned (.bool false) ∧ Below w.heap.size w w' := by
  go_enter Tryd.func42, Tryd.ntmps42
  go_wp2_with fail
  refine (goodKind_no k a b _ hg).mono ?_
  rintro e w1 ⟨rfl, hb1⟩
  have hB1 := (below1 w (.cells #[.int .i64 k, .int .i64 a, .int .i64 b] 30)).trans (hb1.mono (by simp))
  clear hb1
  go_wp2
  go_ret
  exact ⟨rfl, Below.allocS hB1 _⟩
theorem implGood_is (k a b : Int) (w : World) (r : Bool) (hg : goodSt k a b = r) :
    Calls Tryd.prog 42 #[.agg #[.int .i64 k, .int .i64 a, .int .i64 b]] w fun e w' => e = .returned (.bool r) ∧ Below w.heap.size w w' := by
  cases r with
  | false => exact implGood0 k a b w hg
  | true =>
    rcases kinds k with rfl | rfl | rfl | rfl | ⟨h1, h2, h3, h4⟩
    · exact implGood1 a b w hg
    · exact implGood2 a b w hg
    · exact implGood3 a b w hg
    · exact implGood4 a b w hg
    · rw [goodSt0 h1 h2 h3 h4] at hg; cases hg
/-- How many come out at most. -/
def factI (k a b : Int) : Int := if goodSt k a b = true then (if k = 3 then a else 1) else 0
set_option maxHeartbeats 2000000 in
theorem atMostOne_is (k a b : Int) (w : World) :
    Calls Tryd.prog 74 #[.agg #[.int .i64 k, .int .i64 a, .int .i64 b]] w fun e w' => e = .returned (.int .i64 1) ∧ Below w.heap.size w w' := by
  go_enter Tryd.func74, Tryd.ntmps74
  go_wp2
  go_ret
  exact ⟨rfl, below1 _ _⟩
set_option maxHeartbeats 2000000 in
theorem expandedTo_is (k a b : Int) (w : World) :
    Calls Tryd.prog 79 #[.agg #[.int .i64 k, .int .i64 a, .int .i64 b]] w fun e w' => e = .returned (.int .i64 a) ∧ Below w.heap.size w w' := by
  go_enter Tryd.func79, Tryd.ntmps79
  go_wp2
  go_ret
  exact ⟨rfl, below1 _ _⟩
set_option maxHeartbeats 2000000 in
theorem toStage_any (x1 x2 x3 : Int) (w : World) :
    Calls Tryd.prog 17 #[.agg #[.int .i64 x1, .int .i64 x2, .int .i64 x3]] w fun e w' => e = .returned (.agg #[.int .i64 x1, .int .i64 x2, .int .i64 x3]) ∧ Below w.heap.size w w' := by
  go_enter Tryd.func17, Tryd.ntmps17
  go_wp2
  exact bodyPost_ret (v := .agg #[.int .i64 x1, .int .i64 x2, .int .i64 x3]) (by simp [results, Tryd.results17, go_sem]) rfl ⟨rfl, below3 _ _ _ _⟩
end Go.Proofs.YtekadjjofcicaaaDoor
