
/- NewChan: both, and the walk of the law: it returns true. No conditions but those written. -/
import Derived.Test.YtdfmmidokfcjfaaODb
namespace Go.Proofs.Ytdfmmidokfcjfaa.Old
open Go.RowKit

theorem chanIn_nil (n : Nat) (w : World) : ChanIn n w none [] none [] none [] := ⟨.inl rfl, .inl rfl, .inl rfl⟩
theorem implGood_nil (kap : Int) (w : World) (x : Bool) (hx : (decide (0 ≤ kap) && decide (kap ≤ 10)) = x) :
    Calls Try.prog 11 #[.agg #[.int .i64 kap, .bool false, .slice none 0 0, .slice none 0 0, .slice none 0 0]] w fun e w' => e = .returned (.bool x) ∧ Below w.heap.size w w' := by
  refine implGood_is kap false none 0 [] none 0 [] none 0 [] w x (by simp) (by simp) (by simp) (.inl rfl) (.inl rfl) ?_
  rw [← hx]
  by_cases h : 0 ≤ kap
  · simp [goodC, rowB, h]
  · simp [goodC, rowB, h]

/-- NewChan. -/
def newK (z : Int) : Int := if 0 ≤ z ∧ z ≤ 10 then z else 0
def newB (z : Int) : Bool := decide (0 ≤ z) && decide (z ≤ 10)

set_option maxHeartbeats 1000000 in
theorem specNew_any (z : Int) (w : World) :
    Calls Try.prog 27 #[.int .i64 z] w fun e w' => e = .returned (.tuple #[.agg #[.int .i64 (newK z), .bool false, .slice none 0 0, .slice none 0 0, .slice none 0 0], .bool (newB z)]) ∧ Below w.heap.size w w' := by
  cases h : (decide (0 ≤ z) && decide (z ≤ 10))
  · have HV : Hid (newK z = 0 ∧ newB z = false) := ⟨by unfold newK; rw [if_neg]; intro hh; simp [hh] at h, h⟩
    have H : Hid ((decide (0 ≤ z) && decide (z ≤ 10)) = false) := h
    clear h
    go_enter Try.func27, Try.ntmps27
    go_wp2_with fail
    refine (l1In_is z 0 10 _ false H.out).mono ?_
    rintro e w1 ⟨rfl, rfl⟩
    go_wp2
    refine bodyPost_ret (v := .tuple #[.agg #[.int .i64 0, .bool false, .slice none 0 0, .slice none 0 0, .slice none 0 0], .bool false]) (by simp [results, Try.results27, go_sem]) rfl ⟨by rw [HV.out.1, HV.out.2], ?_⟩
    repeat (first | assumption | exact Below.refl _ _ | exact below1 _ _ | refine Below.setCell ?_ (by simp) _)
  · have HV : Hid (newK z = z ∧ newB z = true) := ⟨by unfold newK; rw [if_pos]; simpa using h, h⟩
    have H : Hid ((decide (0 ≤ z) && decide (z ≤ 10)) = true) := h
    clear h
    go_enter Try.func27, Try.ntmps27
    go_wp2_with fail
    refine (l1In_is z 0 10 _ true H.out).mono ?_
    rintro e w1 ⟨rfl, rfl⟩
    go_wp2
    refine bodyPost_ret (v := .tuple #[.agg #[.int .i64 z, .bool false, .slice none 0 0, .slice none 0 0, .slice none 0 0], .bool true]) (by simp [results, Try.results27, go_sem]) rfl ⟨by rw [HV.out.1, HV.out.2], ?_⟩
    repeat (first | assumption | exact Below.refl _ _ | exact below1 _ _ | refine Below.setCell ?_ (by simp) _)

end Go.Proofs.Ytdfmmidokfcjfaa.Old
