
/- Small contracts of the functions of chapter 1's laws. No conditions but those written. -/
import Derived.Test.YtgbnbnjfaffaiaaRows
import Derived.WalkKit
import Derived.WalkSpells
import Derived.Test.YtgbnbnjfaffaiaaOPa
namespace Go.Proofs.Ytgbnbnjfaffaiaa.Old
open Go.RowKit

theorem ret_bool {a b : Bool} (h : a = b) : Ending.returned (.bool a) = .returned (.bool b) := by rw [h]
theorem ret_int {k : IntKind} {a b : Int} (h : a = b) : Ending.returned (.int k a) = .returned (.int k b) := by rw [h]

set_option maxHeartbeats 400000 in
theorem l1In_any (n lo hi : Int) (w : World) :
    Calls Try.prog 42 #[.int .i64 n, .int .i64 lo, .int .i64 hi] w fun e w' => e = .returned (.bool (decide (lo ≤ n) && decide (n ≤ hi))) ∧ w' = w := by
  by_cases h : lo ≤ n
  · go_enter Try.func42, Try.ntmps42
    go_wp2
    go_ret
    exact ⟨by simp [*], rfl⟩
  · have h' : decide (lo ≤ n) = false := by simpa using h
    go_enter Try.func42, Try.ntmps42
    go_wp2
    go_ret
    exact ⟨by simp [*], rfl⟩

theorem below1 (w : World) (o : Obj) : Below w.heap.size w (w.alloc o) := (Below.refl _ _).alloc (Nat.le_refl _) _
theorem below2 (w : World) (o p : Obj) : Below w.heap.size w ((w.alloc o).alloc p) := (below1 w o).alloc (by simp) _
theorem below3 (w : World) (o p q : Obj) : Below w.heap.size w (((w.alloc o).alloc p).alloc q) := (below2 w o p).alloc (by simp; omega) _

theorem l1In_is (n lo hi : Int) (w : World) (b : Bool) (h : (decide (lo ≤ n) && decide (n ≤ hi)) = b) :
    Calls Try.prog 42 #[.int .i64 n, .int .i64 lo, .int .i64 hi] w fun e w' => e = .returned (.bool b) ∧ w' = w := by
  subst h; exact l1In_any n lo hi w

set_option maxHeartbeats 1000000 in
theorem goodTask_any (s p : Int) (w : World) :
    Calls Try.prog 44 #[.agg #[.int .i64 s, .int .i64 p]] w fun e w' => e = .returned (.bool (goodTaskB s p)) ∧ Below w.heap.size w w' := by
  rcases (show s = 1 ∨ s = 2 ∨ s = 3 ∨ s = 4 ∨ (s ≠ 1 ∧ s ≠ 2 ∧ s ≠ 3 ∧ s ≠ 4) from by omega) with h | h | h | h | ⟨h1, h2, h3, h4⟩
  · by_cases hp : 0 ≤ p
    · subst h
      go_enter Try.func44, Try.ntmps44
      go_wp2
      go_ret
      exact ⟨ret_bool (by simp [goodTaskB, hp]), below1 _ _⟩
    · subst h
      have hp' : decide (0 ≤ p) = false := by simpa using hp
      go_enter Try.func44, Try.ntmps44
      go_wp2
      go_ret
      exact ⟨ret_bool (by simp [goodTaskB]; omega), below1 _ _⟩
  · subst h
    go_enter Try.func44, Try.ntmps44
    go_wp2
    go_ret
    exact ⟨ret_bool (by simp [goodTaskB]; rfl), below1 _ _⟩
  · subst h
    go_enter Try.func44, Try.ntmps44
    go_wp2
    go_ret
    exact ⟨ret_bool (by simp [goodTaskB]; rfl), below1 _ _⟩
  · subst h
    go_enter Try.func44, Try.ntmps44
    go_wp2
    go_ret
    exact ⟨ret_bool (by simp [goodTaskB]; rfl), below1 _ _⟩
  · have H : Hid (goodTaskB s p = false) := by simp [Hid, goodTaskB, h1, h2, h3, h4]
    have e1 : (s == 1) = false := by simpa using h1
    have e2 : (s == 2) = false := by simpa using h2
    have e3 : (s == 3) = false := by simpa using h3
    have e4 : (s == 4) = false := by simpa using h4
    go_enter Try.func44, Try.ntmps44
    go_wp2
    go_ret
    exact ⟨ret_bool H.out.symm, below1 _ _⟩

theorem goodTask_is (s p : Int) (w : World) (b : Bool) (h : goodTaskB s p = b) :
    Calls Try.prog 44 #[.agg #[.int .i64 s, .int .i64 p]] w fun e w' => e = .returned (.bool b) ∧ Below w.heap.size w w' := by
  subst h; exact goodTask_any s p w

end Go.Proofs.Ytgbnbnjfaffaiaa.Old
