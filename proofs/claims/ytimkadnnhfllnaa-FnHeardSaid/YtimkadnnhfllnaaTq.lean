
/- Whether a topic is good: plain facts and small functions. No conditions but those written. -/
import Derived.Test.YtimkadnnhfllnaaTp
namespace Go.Proofs.Ytimkadnnhfllnaa
open Go.RowKit

/-- A number of places is good. -/
def sizeB (n : Int) : Bool := decide (1 ≤ n) && decide (n ≤ 20)
/-- A Sub is good. -/
def subB (p : PSub) : Bool := sizeB p.2.1 && (decide ((p.2.2.2.2.length : Int) ≤ p.2.1) && (if p.2.2.1 then decide (0 ≤ p.2.2.2.1) && decide (p.2.2.2.1 ≤ 1000000) else p.2.2.2.1 == 0))
/-- The Sub at place j is good, and behind the one ahead of it. -/
def stepB (ps : List PSub) (j : Nat) : Bool := subB (el ps j) && (j == 0 || decide ((el ps (j - 1)).1 < (el ps j).1))
/-- A topic is good. -/
def topicB (sd : Int) (ps : List PSub) : Bool := (decide (0 ≤ sd) && decide (sd ≤ 1000000)) && (decide (ps.length ≤ 10) && decide (∀ j, j < ps.length → stepB ps j = true))
theorem topicB_said {sd : Int} {ps : List PSub} (h : ¬ (0 ≤ sd ∧ sd ≤ 1000000)) : topicB sd ps = false := by
  have : (decide (0 ≤ sd) && decide (sd ≤ 1000000)) = false := by rw [Bool.eq_false_iff]; simpa using h
  rw [topicB, this]; rfl
theorem topicB_long {sd : Int} {ps : List PSub} (h : 10 < ps.length) : topicB sd ps = false := by rw [topicB, decide_eq_false (p := ps.length ≤ 10) (by omega)]; simp
theorem topicB_no {sd : Int} {ps : List PSub} {k : Nat} (hk : k < ps.length) (h : stepB ps k = false) : topicB sd ps = false := by
  have : decide (∀ j, j < ps.length → stepB ps j = true) = false := decide_eq_false fun hh => by rw [hh k hk] at h; cases h
  rw [topicB, this]; simp
theorem topicB_yes {sd : Int} {ps : List PSub} (h0 : 0 ≤ sd ∧ sd ≤ 1000000) (h1 : ps.length ≤ 10) (h : ∀ j, j < ps.length → stepB ps j = true) : topicB sd ps = true := by
  rw [topicB, decide_eq_true h, decide_eq_true h1, decide_eq_true h0.1, decide_eq_true h0.2]; rfl
theorem topicB_good {sd : Int} {ps : List PSub} (h : topicB sd ps = true) : (0 ≤ sd ∧ sd ≤ 1000000) ∧ ps.length ≤ 10 ∧ ∀ j, j < ps.length → stepB ps j = true := by
  simpa [topicB, and_assoc] using h
theorem el_val {ts : List LSub} {j : Nat} (h : j < ts.length) : el (ts.map valSub) j = valSub (el ts j) := by simp [el, h]
set_option maxHeartbeats 400000 in
theorem goodSize_is (n : Int) (w : World) (b : Bool) (hb : sizeB n = b) :
    Calls Try.prog 37 #[.int .i64 n] w fun e w' => e = .returned (.bool b) ∧ w' = w := by
  subst hb
  by_cases h : 1 ≤ n
  · have h' : decide (1 ≤ n) = true := by simpa using h
    go_enter Try.func37, Try.ntmps37
    go_wp2
    go_ret
    exact ⟨ret_bool (by simp [sizeB, h]), rfl⟩
  · have h' : decide (1 ≤ n) = false := by simpa using h
    go_enter Try.func37, Try.ntmps37
    go_wp2
    go_ret
    exact ⟨ret_bool (by simp [sizeB]; omega), rfl⟩
set_option maxHeartbeats 1000000 in
theorem goodSub_is (nd kap : Int) (dr : Bool) (dp : Int) (qo : Option Addr) (qc : Nat) (q : List Int) (w : World) (x : Bool) (hx : subB (nd, kap, dr, dp, q) = x) :
    Calls Try.prog 20 #[.agg #[.int .i64 nd, .int .i64 kap, .bool dr, .int .i64 dp, .slice qo q.length qc]] w fun e w' => e = .returned (.bool x) ∧ Below w.heap.size w w' := by
  have HX := hid hx
  have hB0 := below1 w (.cells #[.int .i64 nd, .int .i64 kap, .bool dr, .int .i64 dp, .slice qo q.length qc] 36)
  clear hx
  cases hs : sizeB kap
  · have HS := hid hs
    clear hs
    go_enter Try.func20, Try.ntmps20
    go_wp2_with fail
    refine (goodSize_is kap _ false HS.out).mono ?_
    rintro e w1 ⟨rfl, hw1⟩
    rw [hw1]; clear hw1 w1
    go_wp2
    go_ret
    exact ⟨ret_bool (by rw [← HX.out]; simp [subB, HS.out]), hB0⟩
  have HS := hid hs
  clear hs
  by_cases hq : (q.length : Int) ≤ kap
  · have hq' : decide (kap < (q.length : Int)) = false := by simpa using hq
    have HQ := hid hq
    clear hq
    cases dr
    · go_enter Try.func20, Try.ntmps20
      go_wp2_with fail
      refine (goodSize_is kap _ true HS.out).mono ?_
      rintro e w1 ⟨rfl, hw1⟩
      rw [hw1]; clear hw1 w1
      go_wp2
      go_ret
      exact ⟨ret_bool (by rw [← HX.out]; simp [subB, HS.out, HQ.out]), hB0⟩
    · by_cases h0 : 0 ≤ dp
      · have h0' : decide (0 ≤ dp) = true := by simpa using h0
        go_enter Try.func20, Try.ntmps20
        go_wp2_with fail
        refine (goodSize_is kap _ true HS.out).mono ?_
        rintro e w1 ⟨rfl, hw1⟩
        rw [hw1]; clear hw1 w1
        go_wp2
        go_ret
        exact ⟨ret_bool (by rw [← HX.out]; simp [subB, HS.out, HQ.out, h0]), hB0⟩
      · have h0' : decide (0 ≤ dp) = false := by simpa using h0
        go_enter Try.func20, Try.ntmps20
        go_wp2_with fail
        refine (goodSize_is kap _ true HS.out).mono ?_
        rintro e w1 ⟨rfl, hw1⟩
        rw [hw1]; clear hw1 w1
        go_wp2
        go_ret
        exact ⟨ret_bool (by rw [← HX.out]; simp [subB]; omega), hB0⟩
  · have hq' : decide (kap < (q.length : Int)) = true := by simpa using hq
    go_enter Try.func20, Try.ntmps20
    go_wp2_with fail
    refine (goodSize_is kap _ true HS.out).mono ?_
    rintro e w1 ⟨rfl, hw1⟩
    rw [hw1]; clear hw1 w1
    go_wp2
    go_ret
    exact ⟨ret_bool (by rw [← HX.out]; simp [subB]; omega), hB0⟩
end Go.Proofs.Ytimkadnnhfllnaa
