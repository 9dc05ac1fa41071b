
/- Stages: what a stage makes of a value, on both sides. No conditions but those written. -/
import Derived.Test.YtekadjjofcicaaaDoorSj
namespace Go.Proofs.YtekadjjofcicaaaDoor
open Go.RowKit

theorem mod_neg (a n : Int) (hn : 0 < n) (h : a.tmod n < 0) : a % n = a.tmod n + n := by
  have h2 : -n < a.tmod n := by have := Int.lt_tmod_of_pos a hn; omega
  have e : a = n * a.tdiv n + a.tmod n := (Int.mul_tdiv_add_tmod a n).symm
  have : a % n = (a.tmod n + n) % n := by
    conv => lhs; rw [e]
    rw [Int.add_emod_right, Int.mul_add_emod_self_left]
  rw [this, Int.emod_eq_of_lt (by omega) (by omega)]
theorem mod_pos (a n : Int) (hn : 0 < n) (h : ¬ a.tmod n < 0) : a % n = a.tmod n := by
  have h1 : a.tmod n < n := Int.tmod_lt_of_pos a hn
  have e : a = n * a.tdiv n + a.tmod n := (Int.mul_tdiv_add_tmod a n).symm
  have : a % n = (a.tmod n) % n := by
    conv => lhs; rw [e]
    rw [Int.mul_add_emod_self_left]
  rw [this, Int.emod_eq_of_lt (by omega) (by omega)]
set_option maxHeartbeats 1000000 in
theorem modulo_is (a n : Int) (w : World) (z : Int) (hz : a % n = z) (hn : 0 < n) (hn2 : n ≤ 1048576) :
    Calls Tryd.prog 90 #[.int .i64 a, .int .i64 n] w fun e w' => e = .returned (.int .i64 z) ∧ w' = w := by
  subst hz
  have h1 : a.tmod n < n := Int.tmod_lt_of_pos a hn
  have h2 : -n < a.tmod n := by have := Int.lt_tmod_of_pos a hn; omega
  have hne : n ≠ 0 := by omega
  go_enter Tryd.func90, Tryd.ntmps90
  by_cases h : a.tmod n < 0
  · rw [mod_neg a n hn h]
    go_wp2
    go_ret
    exact ⟨rfl, rfl⟩
  · rw [mod_pos a n hn h]
    go_wp2
    go_ret
    exact ⟨rfl, rfl⟩
/-- A number cut to the values. -/
def cutI (n : Int) : Int := if n > 1000000 then 1000000 else if n < -1000000 then -1000000 else n
theorem cutI_val (n : Int) : valB (cutI n) = true := by
  unfold cutI valB
  split
  · decide
  · split
    · decide
    · simp; omega
set_option maxHeartbeats 1000000 in
theorem cutTo_is (n : Int) (w : World) (z : Int) (hz : cutI n = z) :
    Calls Tryd.prog 89 #[.int .i64 n] w fun e w' => e = .returned (.int .i64 z) ∧ w' = w := by
  subst hz
  unfold cutI
  by_cases h : n > 1000000
  · rw [if_pos h]
    go_enter Tryd.func89, Tryd.ntmps89
    go_wp2
    all_goals go_ret
    all_goals exact ⟨ret_int (by omega), rfl⟩
  · rw [if_neg h]
    by_cases h2 : n < -1000000
    · rw [if_pos h2]
      go_enter Tryd.func89, Tryd.ntmps89
      go_wp2
      all_goals go_ret
      all_goals exact ⟨ret_int (by omega), rfl⟩
    · rw [if_neg h2]
      go_enter Tryd.func89, Tryd.ntmps89
      go_wp2
      all_goals go_ret
      all_goals exact ⟨ret_int (by omega), rfl⟩
/-- What a stage makes of a value: what comes out, and whether it fails. -/
def expI (n : Nat) (b v : Int) : List Int := (List.range n).map fun i : Nat => cutI (v + (i : Int) * b)
def appSt (k a b v : Int) : List Int × Bool :=
  if k = 1 then ([cutI (v * a + b)], false)
  else if k = 2 then (if v % a = b then [v] else [], false)
  else if k = 3 then (expI a.toNat b v, false)
  else if v % a = b then ([], true) else ([v], false)
theorem expI_len (n : Nat) (b v : Int) : (expI n b v).length = n := by simp [expI]
theorem expI_succ (n : Nat) (b v : Int) : expI (n + 1) b v = expI n b v ++ [cutI (v + (n : Int) * b)] := by simp [expI, List.range_succ]
theorem good3 {a b : Int} (h : goodSt 3 a b = true) : 1 ≤ a ∧ a ≤ 3 ∧ -1000 ≤ b ∧ b ≤ 1000 := by
  rw [goodSt3] at h; simpa [and_assoc] using h
theorem good2 {a b : Int} (h : goodSt 2 a b = true) : 1 ≤ a ∧ a ≤ 1000 ∧ 0 ≤ b ∧ b ≤ a - 1 := by
  rw [goodSt2] at h; simpa [and_assoc] using h
theorem good4 {a b : Int} (h : goodSt 4 a b = true) : 1 ≤ a ∧ a ≤ 1000 ∧ 0 ≤ b ∧ b ≤ a - 1 := by
  rw [goodSt4] at h; simpa [and_assoc] using h
theorem good1 {a b : Int} (h : goodSt 1 a b = true) : -100 ≤ a ∧ a ≤ 100 ∧ -1000000 ≤ b ∧ b ≤ 1000000 := by
  rw [goodSt1] at h; simpa [valB, and_assoc] using h
theorem val_of {v : Int} (h : valB v = true) : -1000000 ≤ v ∧ v ≤ 1000000 := by simpa [valB] using h
theorem good_kind {k a b : Int} (h : goodSt k a b = true) : k = 1 ∨ k = 2 ∨ k = 3 ∨ k = 4 := by
  rcases kinds k with h1 | h1 | h1 | h1 | ⟨h1, h2, h3, h4⟩
  · exact .inl h1
  · exact .inr (.inl h1)
  · exact .inr (.inr (.inl h1))
  · exact .inr (.inr (.inr h1))
  · rw [goodSt0 h1 h2 h3 h4] at h; cases h
theorem appSt1 (a b v : Int) : appSt 1 a b v = ([cutI (v * a + b)], false) := rfl
theorem appSt2 (a b v : Int) : appSt 2 a b v = (if v % a = b then [v] else [], false) := rfl
theorem appSt3 (a b v : Int) : appSt 3 a b v = (expI a.toNat b v, false) := rfl
theorem appSt4 (a b v : Int) : appSt 4 a b v = if v % a = b then ([], true) else ([v], false) := rfl
theorem appSt_len {k a b v : Int} (h : goodSt k a b = true) : (appSt k a b v).1.length ≤ 3 := by
  rcases good_kind h with rfl | rfl | rfl | rfl
  · simp [appSt]
  · rw [appSt2]; dsimp only; split <;> simp
  · have := good3 h
    rw [appSt3]; dsimp only; rw [expI_len]; omega
  · rw [appSt4]; split <;> simp
theorem appSt_val {k a b v : Int} (h : goodSt k a b = true) (hv : valB v = true) : ∀ x ∈ (appSt k a b v).1, valB x = true := by
  intro x hx
  rcases good_kind h with rfl | rfl | rfl | rfl
  · simp [appSt] at hx; subst hx; exact cutI_val _
  · rw [appSt2] at hx; dsimp only at hx
    split at hx <;> simp at hx; subst hx; exact hv
  · rw [appSt3] at hx; dsimp only at hx
    simp [expI] at hx; obtain ⟨i, _, rfl⟩ := hx; exact cutI_val _
  · rw [appSt4] at hx
    split at hx <;> simp at hx; subst hx; exact hv
theorem mul_le100 {v a : Int} (h1 : -1000000 ≤ v ∧ v ≤ 1000000) (h2 : -100 ≤ a ∧ a ≤ 100) : -100000000 ≤ v * a ∧ v * a ≤ 100000000 := by
  have hn : (v * a).natAbs ≤ 1000000 * 100 := by rw [Int.natAbs_mul]; exact Nat.mul_le_mul (by omega) (by omega)
  omega
end Go.Proofs.YtekadjjofcicaaaDoor
