
/- Stages: when they are good, on both sides. No conditions but those written. -/
import Derived.Test.YtekadjjofcicaaaDoorIa
import Derived.Test.YtekadjjofcicaaaDoorBx
namespace Go.Proofs.YtekadjjofcicaaaDoor
open Go.RowKit

/-- A number is a value. -/
def valB (n : Int) : Bool := decide (-1000000 ≤ n) && decide (n ≤ 1000000)
/-- A stage is good. -/
def goodSt (k a b : Int) : Bool :=
  if k = 1 then (decide (-100 ≤ a) && decide (a ≤ 100)) && valB b
  else if k = 2 ∨ k = 4 then (decide (1 ≤ a) && decide (a ≤ 1000)) && (decide (0 ≤ b) && decide (b ≤ a - 1))
  else if k = 3 then (decide (1 ≤ a) && decide (a ≤ 3)) && (decide (-1000 ≤ b) && decide (b ≤ 1000))
  else false
theorem goodSt1 (a b : Int) : goodSt 1 a b = ((decide (-100 ≤ a) && decide (a ≤ 100)) && valB b) := rfl
theorem goodSt2 (a b : Int) : goodSt 2 a b = ((decide (1 ≤ a) && decide (a ≤ 1000)) && (decide (0 ≤ b) && decide (b ≤ a - 1))) := rfl
theorem goodSt4 (a b : Int) : goodSt 4 a b = ((decide (1 ≤ a) && decide (a ≤ 1000)) && (decide (0 ≤ b) && decide (b ≤ a - 1))) := rfl
theorem goodSt3 (a b : Int) : goodSt 3 a b = ((decide (1 ≤ a) && decide (a ≤ 3)) && (decide (-1000 ≤ b) && decide (b ≤ 1000))) := rfl
theorem goodSt0 {k a b : Int} (h1 : k ≠ 1) (h2 : k ≠ 2) (h3 : k ≠ 3) (h4 : k ≠ 4) : goodSt k a b = false := by
  unfold goodSt; rw [if_neg h1, if_neg (by omega), if_neg h3]
/-- The kind is one of the four, or none. -/
theorem kinds (k : Int) : k = 1 ∨ k = 2 ∨ k = 3 ∨ k = 4 ∨ (k ≠ 1 ∧ k ≠ 2 ∧ k ≠ 3 ∧ k ≠ 4) := by omega
set_option maxHeartbeats 400000 in
theorem l7Value_is (n : Int) (w : World) (b : Bool) (hb : valB n = b) :
    Calls Tryd.prog 52 #[.int .i64 n] w fun e w' => e = .returned (.bool b) ∧ w' = w := by
  go_enter Tryd.func52, Tryd.ntmps52
  go_wp2_with fail
  refine (l1In_is n (-1000000) 1000000 _ b hb).mono ?_
  rintro e w1 ⟨rfl, rfl⟩
  go_wp2
  go_ret
  exact ⟨rfl, rfl⟩
set_option maxHeartbeats 400000 in
theorem isValue_is (n : Int) (w : World) (b : Bool) (hb : valB n = b) :
    Calls Tryd.prog 88 #[.int .i64 n] w fun e w' => e = .returned (.bool b) ∧ w' = w := by
  subst hb
  by_cases h : -1000000 ≤ n
  · go_enter Tryd.func88, Tryd.ntmps88
    go_wp2
    go_ret
    exact ⟨ret_bool (by simp [h, valB]), rfl⟩
  · have h' : decide (-1000000 ≤ n) = false := by simpa using h
    go_enter Tryd.func88, Tryd.ntmps88
    go_wp2
    go_ret
    exact ⟨ret_bool (by simp [valB]; omega), rfl⟩
set_option maxHeartbeats 4000000 in
theorem specGood_is (k a b : Int) (w : World) (r : Bool) (hr : goodSt k a b = r) :
    Calls Tryd.prog 37 #[.agg #[.int .i64 k, .int .i64 a, .int .i64 b]] w fun e w' => e = .returned (.bool r) ∧ w' = w.alloc (.cells #[.int .i64 k, .int .i64 a, .int .i64 b] 30) := by
  have HR : Hid (goodSt k a b = r) := hr
  clear hr
  rcases kinds k with rfl | rfl | rfl | rfl | ⟨h1, h2, h3, h4⟩
  · rcases hb : (decide (-100 ≤ a) && decide (a ≤ 100)) with _ | _
    · have hc : Hid ((decide (-100 ≤ a) && decide (a ≤ 100)) = false) := hb
      clear hb
      go_enter Tryd.func37, Tryd.ntmps37
      go_wp2_with fail
      refine (l1In_is a (-100) 100 _ _ hc.out).mono ?_
      rintro e w1 ⟨rfl, hw1⟩
      rw [hw1]; clear hw1 w1
      go_wp2
      go_ret
      exact ⟨ret_bool (by rw [← HR.out, goodSt1, hc.out]; rfl), rfl⟩
    · have hc : Hid ((decide (-100 ≤ a) && decide (a ≤ 100)) = true) := hb
      clear hb
      have hd : Hid (r = (valB b)) := by rw [← HR.out, goodSt1, hc.out]; exact Bool.true_and _
      go_enter Tryd.func37, Tryd.ntmps37
      go_wp2_with fail
      refine (l1In_is a (-100) 100 _ _ hc.out).mono ?_
      rintro e w1 ⟨rfl, hw1⟩
      rw [hw1]; clear hw1 w1
      go_wp2_with fail
      refine (l7Value_is b _ _ rfl).mono ?_
      rintro e w1 ⟨rfl, hw1⟩
      rw [hw1]; clear hw1 w1
      rw [← hd.out]
      go_wp2
      go_ret
      exact ⟨rfl, rfl⟩
  · rcases hb : (decide (1 ≤ a) && decide (a ≤ 1000)) with _ | _
    · have hc : Hid ((decide (1 ≤ a) && decide (a ≤ 1000)) = false) := hb
      clear hb
      go_enter Tryd.func37, Tryd.ntmps37
      go_wp2_with fail
      refine (l1In_is a 1 1000 _ _ hc.out).mono ?_
      rintro e w1 ⟨rfl, hw1⟩
      rw [hw1]; clear hw1 w1
      go_wp2
      go_ret
      exact ⟨ret_bool (by rw [← HR.out, goodSt2, hc.out]; rfl), rfl⟩
    · have hc : Hid ((decide (1 ≤ a) && decide (a ≤ 1000)) = true) := hb
      clear hb
      have ha : 1 ≤ a ∧ a ≤ 1000 := by simpa using hc.out
      have hd : Hid (r = (decide (0 ≤ b) && decide (b ≤ a - 1))) := by rw [← HR.out, goodSt2, hc.out]; exact Bool.true_and _
      go_enter Tryd.func37, Tryd.ntmps37
      go_wp2_with fail
      refine (l1In_is a 1 1000 _ _ hc.out).mono ?_
      rintro e w1 ⟨rfl, hw1⟩
      rw [hw1]; clear hw1 w1
      go_wp2_with fail
      refine (l1In_is b 0 (a - 1) _ _ rfl).mono ?_
      rintro e w1 ⟨rfl, hw1⟩
      rw [hw1]; clear hw1 w1
      rw [← hd.out]
      go_wp2
      go_ret
      exact ⟨rfl, rfl⟩
  · rcases hb : (decide (1 ≤ a) && decide (a ≤ 3)) with _ | _
    · have hc : Hid ((decide (1 ≤ a) && decide (a ≤ 3)) = false) := hb
      clear hb
      go_enter Tryd.func37, Tryd.ntmps37
      go_wp2_with fail
      refine (l1In_is a 1 3 _ _ hc.out).mono ?_
      rintro e w1 ⟨rfl, hw1⟩
      rw [hw1]; clear hw1 w1
      go_wp2
      go_ret
      exact ⟨ret_bool (by rw [← HR.out, goodSt3, hc.out]; rfl), rfl⟩
    · have hc : Hid ((decide (1 ≤ a) && decide (a ≤ 3)) = true) := hb
      clear hb
      have hd : Hid (r = (decide (-1000 ≤ b) && decide (b ≤ 1000))) := by rw [← HR.out, goodSt3, hc.out]; exact Bool.true_and _
      go_enter Tryd.func37, Tryd.ntmps37
      go_wp2_with fail
      refine (l1In_is a 1 3 _ _ hc.out).mono ?_
      rintro e w1 ⟨rfl, hw1⟩
      rw [hw1]; clear hw1 w1
      go_wp2_with fail
      refine (l1In_is b (-1000) 1000 _ _ rfl).mono ?_
      rintro e w1 ⟨rfl, hw1⟩
      rw [hw1]; clear hw1 w1
      rw [← hd.out]
      go_wp2
      go_ret
      exact ⟨rfl, rfl⟩
  · rcases hb : (decide (1 ≤ a) && decide (a ≤ 1000)) with _ | _
    · have hc : Hid ((decide (1 ≤ a) && decide (a ≤ 1000)) = false) := hb
      clear hb
      go_enter Tryd.func37, Tryd.ntmps37
      go_wp2_with fail
      refine (l1In_is a 1 1000 _ _ hc.out).mono ?_
      rintro e w1 ⟨rfl, hw1⟩
      rw [hw1]; clear hw1 w1
      go_wp2
      go_ret
      exact ⟨ret_bool (by rw [← HR.out, goodSt4, hc.out]; rfl), rfl⟩
    · have hc : Hid ((decide (1 ≤ a) && decide (a ≤ 1000)) = true) := hb
      clear hb
      have ha : 1 ≤ a ∧ a ≤ 1000 := by simpa using hc.out
      have hd : Hid (r = (decide (0 ≤ b) && decide (b ≤ a - 1))) := by rw [← HR.out, goodSt4, hc.out]; exact Bool.true_and _
      go_enter Tryd.func37, Tryd.ntmps37
      go_wp2_with fail
      refine (l1In_is a 1 1000 _ _ hc.out).mono ?_
      rintro e w1 ⟨rfl, hw1⟩
      rw [hw1]; clear hw1 w1
      go_wp2_with fail
      refine (l1In_is b 0 (a - 1) _ _ rfl).mono ?_
      rintro e w1 ⟨rfl, hw1⟩
      rw [hw1]; clear hw1 w1
      rw [← hd.out]
      go_wp2
      go_ret
      exact ⟨rfl, rfl⟩
  · have k1 : (k == 1) = false := by simpa using h1
    have k2 : (k == 2) = false := by simpa using h2
    have k3 : (k == 3) = false := by simpa using h3
    have k4 : (k == 4) = false := by simpa using h4
    have hd : Hid (r = false) := HR.out.symm.trans (goodSt0 h1 h2 h3 h4)
    clear h1 h2 h3 h4
    go_enter Tryd.func37, Tryd.ntmps37
    go_wp2
    go_ret
    exact ⟨ret_bool hd.out.symm, rfl⟩
end Go.Proofs.YtekadjjofcicaaaDoor
