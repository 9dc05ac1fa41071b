
/- Both BackoffOf, and the law upon them. No conditions but those written. -/
import Derived.Test.YthhamfgclhiagaaBx
import Derived.Test.YthhamfgclhiagaaIa
namespace Go.Proofs.Ythhamfgclhiagaa
open Go.RowKit

/-- BackoffOf. -/
def backI (tries base most : Int) : Int :=
  if decide (1 ≤ tries) && decide (tries ≤ 30) && (decide (0 ≤ base) && decide (base ≤ 1000000)) && (decide (0 ≤ most) && decide (most ≤ 1000000000)) then
    (if base * 2 ^ (tries - 1).toNat > most then most else base * 2 ^ (tries - 1).toNat) else 0

theorem two_le (n : Nat) (h : n ≤ 29) : (2 : Int) ^ n ≤ 536870912 := by
  have h1 : 2 ^ n ≤ 2 ^ 29 := Nat.pow_le_pow_right (by omega) h
  have h2 : ((2 ^ n : Nat) : Int) ≤ ((2 ^ 29 : Nat) : Int) := by exact_mod_cast h1
  simpa using h2
theorem two_pos (n : Nat) : (0 : Int) < 2 ^ n := Int.pow_pos (by omega)
theorem shl_in (b : Int) (n : Nat) (h : n ≤ 29) (h0 : 0 ≤ b) (h1 : b ≤ 1000000) : 0 ≤ b * 2 ^ n ∧ b * 2 ^ n ≤ 536870912000000 := by
  have p := two_pos n
  have q := two_le n h
  refine ⟨Int.mul_nonneg h0 (by omega), ?_⟩
  have := Int.mul_le_mul h1 q (by omega) (by omega)
  omega

set_option maxHeartbeats 1000000 in
theorem implBack_any (t b m : Int) (w : World) :
    Calls Try.prog 25 #[.int .i64 t, .int .i64 b, .int .i64 m] w fun e w' => e = .returned (.int .i64 (backI t b m)) ∧ w' = w := by
  by_cases h1 : t < 1
  · have HE : Hid (backI t b m = 0) := by simp [Hid, backI]; omega
    go_enter Try.func25, Try.ntmps25
    go_wp2
    go_ret
    exact ⟨ret_int HE.out.symm, rfl⟩
  by_cases h2 : t > 30
  · have HE : Hid (backI t b m = 0) := by simp [Hid, backI]; omega
    go_enter Try.func25, Try.ntmps25
    go_wp2
    go_ret
    exact ⟨ret_int HE.out.symm, rfl⟩
  by_cases h3 : b < 0
  · have HE : Hid (backI t b m = 0) := by simp [Hid, backI]; omega
    go_enter Try.func25, Try.ntmps25
    go_wp2
    go_ret
    exact ⟨ret_int HE.out.symm, rfl⟩
  by_cases h4 : b > 1000000
  · have HE : Hid (backI t b m = 0) := by simp [Hid, backI]; omega
    go_enter Try.func25, Try.ntmps25
    go_wp2
    go_ret
    exact ⟨ret_int HE.out.symm, rfl⟩
  by_cases h5 : m < 0
  · have HE : Hid (backI t b m = 0) := by simp [Hid, backI]; omega
    go_enter Try.func25, Try.ntmps25
    go_wp2
    go_ret
    exact ⟨ret_int HE.out.symm, rfl⟩
  by_cases h6 : m > 1000000000
  · have HE : Hid (backI t b m = 0) := by simp [Hid, backI]; omega
    go_enter Try.func25, Try.ntmps25
    go_wp2
    go_ret
    exact ⟨ret_int HE.out.symm, rfl⟩
  obtain ⟨x, hx⟩ : ∃ x, x = b * 2 ^ (t.toNat - 1) := ⟨_, rfl⟩
  have hr := shl_in b (t.toNat - 1) (by omega) (by omega) (by omega)
  rw [← hx] at hr
  have hwr : wrap64 (b * 2 ^ (t.toNat - 1)) = x := by rw [← hx]; exact IntWalk.wrap64_in x (by omega)
  have HV : Hid (backI t b m = if x > m then m else x) := by
    have e : (t - 1).toNat = t.toNat - 1 := by omega
    simp only [Hid, backI, e, ← hx]
    rw [if_pos (by simp; omega)]
  by_cases h8 : m < x
  · have HE : Hid (backI t b m = m) := by rw [Hid, HV.out, if_pos h8]
    clear hx HV
    go_enter Try.func25, Try.ntmps25
    go_wp2
    go_ret
    exact ⟨ret_int HE.out.symm, rfl⟩
  · have HE : Hid (backI t b m = x) := by rw [Hid, HV.out, if_neg h8]
    clear hx HV
    go_enter Try.func25, Try.ntmps25
    go_wp2
    go_ret
    exact ⟨ret_int HE.out.symm, rfl⟩


set_option maxHeartbeats 2000000 in
theorem specBack_any (t b m : Int) (w : World) :
    Calls Try.prog 24 #[.int .i64 t, .int .i64 b, .int .i64 m] w fun e w' => e = .returned (.int .i64 (backI t b m)) ∧ w' = w := by
  cases h1 : (decide (1 ≤ t) && decide (t ≤ 30))
  · have H1 := hid h1
    have HE : Hid (backI t b m = 0) := by rw [Hid, backI, if_neg]; simp only [h1]; simp
    clear h1
    go_enter Try.func24, Try.ntmps24
    go_wp2_with fail
    refine (l1In_is t 1 30 _ false H1.out).mono ?_
    rintro e w1 ⟨rfl, hw1⟩
    subst hw1
    go_wp2
    go_ret
    exact ⟨ret_int HE.out.symm, rfl⟩
  have H1 := hid h1
  cases h2 : (decide (0 ≤ b) && decide (b ≤ 1000000))
  · have H2 := hid h2
    have HE : Hid (backI t b m = 0) := by rw [Hid, backI, if_neg]; simp only [h1, h2]; simp
    clear h1 h2
    go_enter Try.func24, Try.ntmps24
    go_wp2_with fail
    refine (l1In_is t 1 30 _ true H1.out).mono ?_
    rintro e w1 ⟨rfl, hw1⟩
    subst hw1
    go_wp2_with fail
    refine (l1In_is b 0 1000000 _ false H2.out).mono ?_
    rintro e w1 ⟨rfl, hw1⟩
    subst hw1
    go_wp2
    go_ret
    exact ⟨ret_int HE.out.symm, rfl⟩
  have H2 := hid h2
  cases h3 : (decide (0 ≤ m) && decide (m ≤ 1000000000))
  · have H3 := hid h3
    have HE : Hid (backI t b m = 0) := by rw [Hid, backI, if_neg]; simp only [h1, h2, h3]; simp
    clear h1 h2 h3
    go_enter Try.func24, Try.ntmps24
    go_wp2_with fail
    refine (l1In_is t 1 30 _ true H1.out).mono ?_
    rintro e w1 ⟨rfl, hw1⟩
    subst hw1
    go_wp2_with fail
    refine (l1In_is b 0 1000000 _ true H2.out).mono ?_
    rintro e w1 ⟨rfl, hw1⟩
    subst hw1
    go_wp2_with fail
    refine (l1In_is m 0 1000000000 _ false H3.out).mono ?_
    rintro e w1 ⟨rfl, hw1⟩
    subst hw1
    go_wp2
    go_ret
    exact ⟨ret_int HE.out.symm, rfl⟩
  have H3 := hid h3
  simp only [Bool.and_eq_true, decide_eq_true_eq] at h1 h2 h3
  obtain ⟨x, hx⟩ : ∃ x, x = b * 2 ^ (t.toNat - 1) := ⟨_, rfl⟩
  have hr := shl_in b (t.toNat - 1) (by omega) (by omega) (by omega)
  rw [← hx] at hr
  have hwr : wrap64 (b * 2 ^ (t.toNat - 1)) = x := by rw [← hx]; exact IntWalk.wrap64_in x (by omega)
  have HV : Hid (backI t b m = if x > m then m else x) := by
    have e : (t - 1).toNat = t.toNat - 1 := by omega
    simp only [Hid, backI, e, ← hx]
    rw [if_pos (by simp; omega)]
  have h7 : 0 ≤ t - 1 := by omega
  by_cases h8 : m < x
  · have HE : Hid (backI t b m = m) := by rw [Hid, HV.out, if_pos h8]
    clear hx HV
    go_enter Try.func24, Try.ntmps24
    go_wp2_with fail
    refine (l1In_is t 1 30 _ true H1.out).mono ?_
    rintro e w1 ⟨rfl, hw1⟩
    subst hw1
    go_wp2_with fail
    refine (l1In_is b 0 1000000 _ true H2.out).mono ?_
    rintro e w1 ⟨rfl, hw1⟩
    subst hw1
    go_wp2_with fail
    refine (l1In_is m 0 1000000000 _ true H3.out).mono ?_
    rintro e w1 ⟨rfl, hw1⟩
    subst hw1
    go_wp2
    go_ret
    exact ⟨ret_int HE.out.symm, rfl⟩
  · have HE : Hid (backI t b m = x) := by rw [Hid, HV.out, if_neg h8]
    clear hx HV
    go_enter Try.func24, Try.ntmps24
    go_wp2_with fail
    refine (l1In_is t 1 30 _ true H1.out).mono ?_
    rintro e w1 ⟨rfl, hw1⟩
    subst hw1
    go_wp2_with fail
    refine (l1In_is b 0 1000000 _ true H2.out).mono ?_
    rintro e w1 ⟨rfl, hw1⟩
    subst hw1
    go_wp2_with fail
    refine (l1In_is m 0 1000000000 _ true H3.out).mono ?_
    rintro e w1 ⟨rfl, hw1⟩
    subst hw1
    go_wp2
    go_ret
    exact ⟨ret_int (hwr.trans HE.out.symm), rfl⟩

set_option maxHeartbeats 400000 in
theorem lawBack_any (t b m : Int) (w : World) :
    Calls Try.prog 6 #[.int .i64 t, .int .i64 b, .int .i64 m] w fun e w' => e = .returned (.bool true) ∧ Below w.heap.size w w' := by
  obtain ⟨x, hx⟩ : ∃ x, x = backI t b m := ⟨_, rfl⟩
  have HX := hid hx
  clear hx
  go_enter Try.func6, Try.ntmps6
  go_wp2_with fail
  refine (specBack_any t b m _).mono ?_
  rw [← HX.out]
  rintro e w1 ⟨rfl, hw1⟩
  subst hw1
  go_wp2_with fail
  refine (implBack_any t b m _).mono ?_
  rw [← HX.out]
  rintro e w1 ⟨rfl, hw1⟩
  subst hw1
  go_wp2
  go_ret
  exact ⟨rfl, Below.refl _ _⟩
end Go.Proofs.Ythhamfgclhiagaa
