
/- Stages: when the program finds them good, and what it keeps of each kind. No conditions but those written. -/
import Derived.Test.YtekadjjofcicaaaDoorSg
import Derived.Laws.EntriesVeiled
namespace Go.Proofs.YtekadjjofcicaaaDoor
open Go.RowKit

set_option maxHeartbeats 2000000 in
theorem goodMap_is (k a b : Int) (w : World) (r : Bool) (hr : ((decide (-100 ≤ a) && decide (a ≤ 100)) && valB b) = r) :
    Calls Tryd.prog 72 #[.agg #[.int .i64 k, .int .i64 a, .int .i64 b]] w fun e w' => e = .returned (.bool r) ∧ w' = w.alloc (.cells #[.int .i64 k, .int .i64 a, .int .i64 b] 30) := by
  subst hr
  by_cases h1 : -100 ≤ a
  · by_cases h2 : a ≤ 100
    · have hd : Hid ((decide (-100 ≤ a) && decide (a ≤ 100) && valB b) = valB b) := by show _ = _; simp [h1, h2]
      rw [hd.out]
      go_enter Tryd.func72, Tryd.ntmps72
      go_wp2_with fail
      refine (isValue_is b _ _ rfl).mono ?_
      rintro e w1 ⟨rfl, hw1⟩
      rw [hw1]; clear hw1 w1
      go_wp2
      go_ret
      exact ⟨rfl, rfl⟩
    · have h2' : decide (a ≤ 100) = false := by simpa using h2
      have hd : Hid ((decide (-100 ≤ a) && decide (a ≤ 100) && valB b) = false) := by show _ = _; simp [h1, h2]
      rw [hd.out]
      go_enter Tryd.func72, Tryd.ntmps72
      go_wp2
      go_ret
      exact ⟨rfl, rfl⟩
  · have h1' : decide (-100 ≤ a) = false := by simpa using h1
    have hd : Hid ((decide (-100 ≤ a) && decide (a ≤ 100) && valB b) = false) := by show _ = _; simp [h1]
    rw [hd.out]
    go_enter Tryd.func72, Tryd.ntmps72
    go_wp2
    go_ret
    exact ⟨rfl, rfl⟩
set_option maxHeartbeats 2000000 in
theorem goodRest_is (k a b : Int) (w : World) (r : Bool) (hr : ((decide (1 ≤ a) && decide (a ≤ 1000)) && (decide (0 ≤ b) && decide (b ≤ a - 1))) = r) :
    Calls Tryd.prog 75 #[.agg #[.int .i64 k, .int .i64 a, .int .i64 b]] w fun e w' => e = .returned (.bool r) ∧ w' = w.alloc (.cells #[.int .i64 k, .int .i64 a, .int .i64 b] 30) := by
  subst hr
  by_cases h0 : 1 ≤ a
  · skip
    by_cases h1 : a ≤ 1000
    · skip
      by_cases h2 : 0 ≤ b
      · skip
        by_cases h3 : b < a
        · skip
          have hd : Hid (((decide (1 ≤ a) && decide (a ≤ 1000)) && (decide (0 ≤ b) && decide (b ≤ a - 1))) = true) := by show _ = _; simp; omega
          rw [hd.out]
          go_enter Tryd.func75, Tryd.ntmps75
          go_wp2
          go_ret
          exact ⟨rfl, rfl⟩
        · have hn : decide (b < a) = false := by simpa using h3
          have hd : Hid (((decide (1 ≤ a) && decide (a ≤ 1000)) && (decide (0 ≤ b) && decide (b ≤ a - 1))) = false) := by show _ = _; rcases hx : ((decide (1 ≤ a) && decide (a ≤ 1000)) && (decide (0 ≤ b) && decide (b ≤ a - 1))) with _ | _ <;> simp at hx <;> first | rfl | omega
          rw [hd.out]
          go_enter Tryd.func75, Tryd.ntmps75
          go_wp2
          go_ret
          exact ⟨rfl, rfl⟩
      · have hn : decide (0 ≤ b) = false := by simpa using h2
        have hd : Hid (((decide (1 ≤ a) && decide (a ≤ 1000)) && (decide (0 ≤ b) && decide (b ≤ a - 1))) = false) := by show _ = _; rcases hx : ((decide (1 ≤ a) && decide (a ≤ 1000)) && (decide (0 ≤ b) && decide (b ≤ a - 1))) with _ | _ <;> simp at hx <;> first | rfl | omega
        rw [hd.out]
        go_enter Tryd.func75, Tryd.ntmps75
        go_wp2
        go_ret
        exact ⟨rfl, rfl⟩
    · have hn : decide (a ≤ 1000) = false := by simpa using h1
      have hd : Hid (((decide (1 ≤ a) && decide (a ≤ 1000)) && (decide (0 ≤ b) && decide (b ≤ a - 1))) = false) := by show _ = _; rcases hx : ((decide (1 ≤ a) && decide (a ≤ 1000)) && (decide (0 ≤ b) && decide (b ≤ a - 1))) with _ | _ <;> simp at hx <;> first | rfl | omega
      rw [hd.out]
      go_enter Tryd.func75, Tryd.ntmps75
      go_wp2
      go_ret
      exact ⟨rfl, rfl⟩
  · have hn : decide (1 ≤ a) = false := by simpa using h0
    have hd : Hid (((decide (1 ≤ a) && decide (a ≤ 1000)) && (decide (0 ≤ b) && decide (b ≤ a - 1))) = false) := by show _ = _; rcases hx : ((decide (1 ≤ a) && decide (a ≤ 1000)) && (decide (0 ≤ b) && decide (b ≤ a - 1))) with _ | _ <;> simp at hx <;> first | rfl | omega
    rw [hd.out]
    go_enter Tryd.func75, Tryd.ntmps75
    go_wp2
    go_ret
    exact ⟨rfl, rfl⟩
set_option maxHeartbeats 2000000 in
theorem goodExpand_is (k a b : Int) (w : World) (r : Bool) (hr : ((decide (1 ≤ a) && decide (a ≤ 3)) && (decide (-1000 ≤ b) && decide (b ≤ 1000))) = r) :
    Calls Tryd.prog 77 #[.agg #[.int .i64 k, .int .i64 a, .int .i64 b]] w fun e w' => e = .returned (.bool r) ∧ w' = w.alloc (.cells #[.int .i64 k, .int .i64 a, .int .i64 b] 30) := by
  subst hr
  by_cases h0 : 1 ≤ a
  · skip
    by_cases h1 : a ≤ 3
    · skip
      by_cases h2 : -1000 ≤ b
      · skip
        by_cases h3 : b ≤ 1000
        · skip
          have hd : Hid (((decide (1 ≤ a) && decide (a ≤ 3)) && (decide (-1000 ≤ b) && decide (b ≤ 1000))) = true) := by show _ = _; simp; omega
          rw [hd.out]
          go_enter Tryd.func77, Tryd.ntmps77
          go_wp2
          go_ret
          exact ⟨rfl, rfl⟩
        · have hn : decide (b ≤ 1000) = false := by simpa using h3
          have hd : Hid (((decide (1 ≤ a) && decide (a ≤ 3)) && (decide (-1000 ≤ b) && decide (b ≤ 1000))) = false) := by show _ = _; rcases hx : ((decide (1 ≤ a) && decide (a ≤ 3)) && (decide (-1000 ≤ b) && decide (b ≤ 1000))) with _ | _ <;> simp at hx <;> first | rfl | omega
          rw [hd.out]
          go_enter Tryd.func77, Tryd.ntmps77
          go_wp2
          go_ret
          exact ⟨rfl, rfl⟩
      · have hn : decide (-1000 ≤ b) = false := by simpa using h2
        have hd : Hid (((decide (1 ≤ a) && decide (a ≤ 3)) && (decide (-1000 ≤ b) && decide (b ≤ 1000))) = false) := by show _ = _; rcases hx : ((decide (1 ≤ a) && decide (a ≤ 3)) && (decide (-1000 ≤ b) && decide (b ≤ 1000))) with _ | _ <;> simp at hx <;> first | rfl | omega
        rw [hd.out]
        go_enter Tryd.func77, Tryd.ntmps77
        go_wp2
        go_ret
        exact ⟨rfl, rfl⟩
    · have hn : decide (a ≤ 3) = false := by simpa using h1
      have hd : Hid (((decide (1 ≤ a) && decide (a ≤ 3)) && (decide (-1000 ≤ b) && decide (b ≤ 1000))) = false) := by show _ = _; rcases hx : ((decide (1 ≤ a) && decide (a ≤ 3)) && (decide (-1000 ≤ b) && decide (b ≤ 1000))) with _ | _ <;> simp at hx <;> first | rfl | omega
      rw [hd.out]
      go_enter Tryd.func77, Tryd.ntmps77
      go_wp2
      go_ret
      exact ⟨rfl, rfl⟩
  · have hn : decide (1 ≤ a) = false := by simpa using h0
    have hd : Hid (((decide (1 ≤ a) && decide (a ≤ 3)) && (decide (-1000 ≤ b) && decide (b ≤ 1000))) = false) := by show _ = _; rcases hx : ((decide (1 ≤ a) && decide (a ≤ 3)) && (decide (-1000 ≤ b) && decide (b ≤ 1000))) with _ | _ <;> simp at hx <;> first | rfl | omega
    rw [hd.out]
    go_enter Tryd.func77, Tryd.ntmps77
    go_wp2
    go_ret
    exact ⟨rfl, rfl⟩
set_option maxHeartbeats 2000000 in
theorem kindOf1_is (a b : Int) (w : World) :
    Calls Tryd.prog 60 #[.agg #[.int .i64 1, .int .i64 a, .int .i64 b]] w fun e w' => e = .returned (.tuple #[.agg #[.func (.func 72) #[] #[], .func (.func 73) #[] #[], .func (.func 74) #[] #[]], .bool true]) ∧ Below w.heap.size w w' := by
  go_enter Tryd.func60, Tryd.ntmps60
  go_wp2
  exact bodyPost_ret (v := .tuple #[.agg #[.func (.func 72) #[] #[], .func (.func 73) #[] #[], .func (.func 74) #[] #[]], .bool true]) (by simp [results, Tryd.results60, go_sem]) rfl ⟨rfl, below2 _ _ _⟩
set_option maxHeartbeats 2000000 in
theorem kindOf2_is (a b : Int) (w : World) :
    Calls Tryd.prog 60 #[.agg #[.int .i64 2, .int .i64 a, .int .i64 b]] w fun e w' => e = .returned (.tuple #[.agg #[.func (.func 75) #[] #[], .func (.func 76) #[] #[], .func (.func 74) #[] #[]], .bool true]) ∧ Below w.heap.size w w' := by
  go_enter Tryd.func60, Tryd.ntmps60
  go_wp2
  exact bodyPost_ret (v := .tuple #[.agg #[.func (.func 75) #[] #[], .func (.func 76) #[] #[], .func (.func 74) #[] #[]], .bool true]) (by simp [results, Tryd.results60, go_sem]) rfl ⟨rfl, below2 _ _ _⟩
set_option maxHeartbeats 2000000 in
theorem kindOf3_is (a b : Int) (w : World) :
    Calls Tryd.prog 60 #[.agg #[.int .i64 3, .int .i64 a, .int .i64 b]] w fun e w' => e = .returned (.tuple #[.agg #[.func (.func 77) #[] #[], .func (.func 78) #[] #[], .func (.func 79) #[] #[]], .bool true]) ∧ Below w.heap.size w w' := by
  go_enter Tryd.func60, Tryd.ntmps60
  go_wp2
  exact bodyPost_ret (v := .tuple #[.agg #[.func (.func 77) #[] #[], .func (.func 78) #[] #[], .func (.func 79) #[] #[]], .bool true]) (by simp [results, Tryd.results60, go_sem]) rfl ⟨rfl, below2 _ _ _⟩
set_option maxHeartbeats 2000000 in
theorem kindOf4_is (a b : Int) (w : World) :
    Calls Tryd.prog 60 #[.agg #[.int .i64 4, .int .i64 a, .int .i64 b]] w fun e w' => e = .returned (.tuple #[.agg #[.func (.func 75) #[] #[], .func (.func 80) #[] #[], .func (.func 74) #[] #[]], .bool true]) ∧ Below w.heap.size w w' := by
  go_enter Tryd.func60, Tryd.ntmps60
  go_wp2
  exact bodyPost_ret (v := .tuple #[.agg #[.func (.func 75) #[] #[], .func (.func 80) #[] #[], .func (.func 74) #[] #[]], .bool true]) (by simp [results, Tryd.results60, go_sem]) rfl ⟨rfl, below2 _ _ _⟩
set_option maxHeartbeats 2000000 in
theorem kindOf0_is (k a b : Int) (w : World) (h1 : k ≠ 1) (h2 : k ≠ 2) (h3 : k ≠ 3) (h4 : k ≠ 4) :
    Calls Tryd.prog 60 #[.agg #[.int .i64 k, .int .i64 a, .int .i64 b]] w fun e w' => e = .returned (.tuple #[.agg #[.nilFunc, .nilFunc, .nilFunc], .bool false]) ∧ Below w.heap.size w w' := by
  have k1 : (k == 1) = false := by simpa using h1
  have k2 : (k == 2) = false := by simpa using h2
  have k3 : (k == 3) = false := by simpa using h3
  have k4 : (k == 4) = false := by simpa using h4
  clear h1 h2 h3 h4
  go_enter Tryd.func60, Tryd.ntmps60
  go_wp2
  exact bodyPost_ret (v := .tuple #[.agg #[.nilFunc, .nilFunc, .nilFunc], .bool false]) (by simp [results, Tryd.results60, go_sem]) rfl ⟨rfl, below2 _ _ _⟩
end Go.Proofs.YtekadjjofcicaaaDoor
