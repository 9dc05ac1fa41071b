
/- TakeNext: small functions of the program. No conditions but those written. -/
import Derived.Test.YtnnlbnbamhkcaaaEa
import Derived.Test.YtnnlbnbamhkcaaaWl
import Derived.Test.YtnnlbnbamhkcaaaWi
import Derived.Deep.Cut
namespace Go.Proofs.Ytnnlbnbamhkcaaa
open Go.RowKit

/-- One try more, at most 1000. -/
def tryV (t : Int) : Int := if t < 1000 then t + 1 else t
/-- TakeNext's answer. -/
def takeR (kap : Int) (cl : Bool) (b : List Int) (s r : List (Int × Int × Int)) : Int × Bool × List Int × List (Int × Int × Int) × List (Int × Int × Int) × Int × Int × Int × Int × Int :=
  if goodX kap b s r = true then
    (if 0 < b.length then (kap, cl, b.drop 1, s, r, el b 0, 0, 0, 0, 0)
     else if 0 < s.length then (kap, cl, b, s.drop 1, r ++ [((el s 0).1, (el s 0).2.1, tryV (el s 0).2.2)], 0, (el s 0).1, (el s 0).2.1, tryV (el s 0).2.2, 0)
     else (kap, cl, b, s, r, 0, 0, 0, 0, 4))
  else (0, false, [], [], [], 0, 0, 0, 0, 1)
theorem takeR_bad {kap : Int} {cl : Bool} {b : List Int} {s r : List (Int × Int × Int)} (h : goodX kap b s r = false) : takeR kap cl b s r = (0, false, [], [], [], 0, 0, 0, 0, 1) := by rw [takeR, if_neg]; rw [h]; simp
theorem takeR_len {kap : Int} {cl : Bool} {b : List Int} {s r : List (Int × Int × Int)} (h1 : b.length ≤ 1048576) (h2 : s.length ≤ 1048576) (h3 : r.length ≤ 1048576) : (takeR kap cl b s r).2.2.1.length ≤ 1048576 ∧ (takeR kap cl b s r).2.2.2.1.length ≤ 1048576 ∧ (takeR kap cl b s r).2.2.2.2.1.length ≤ 1048576 := by
  unfold takeR
  split
  · rename_i h
    have := goodX_good h
    split
    · refine ⟨?_, h2, h3⟩
      show (b.drop 1).length ≤ 1048576
      simp; omega
    · split
      · refine ⟨h1, ?_, ?_⟩
        · show (s.drop 1).length ≤ 1048576
          simp; omega
        · show (r ++ [((el s 0).1, (el s 0).2.1, tryV (el s 0).2.2)]).length ≤ 1048576
          simp; omega
      · exact ⟨h1, h2, h3⟩
  · simp
/-- A box, a word, a letter and a number, the box in its own memory, as an ending. -/
def AnsT (w : World) (R : Int × Bool × List Int × List (Int × Int × Int) × List (Int × Int × Int) × Int × Int × Int × Int × Int) (e : Ending) (w' : World) : Prop :=
  (∃ bo bc so sc ro rc, e = .returned (.tuple #[.agg #[.int .i64 R.1, .bool R.2.1, .slice bo R.2.2.1.length bc, .slice so R.2.2.2.1.length sc, .slice ro R.2.2.2.2.1.length rc], .int .i64 R.2.2.2.2.2.1, .agg #[.int .i64 R.2.2.2.2.2.2.1, .int .i64 R.2.2.2.2.2.2.2.1, .int .i64 R.2.2.2.2.2.2.2.2.1], .int .i64 R.2.2.2.2.2.2.2.2.2]) ∧ FrBox w.heap.size w'.heap.size w' bo bc R.2.2.1 so sc R.2.2.2.1 ro rc R.2.2.2.2.1) ∧ Below w.heap.size w w'
theorem keepE_zero {α : Type} [Inhabited α] (l : List α) (h : 0 < l.length) : l.drop 1 = keepE l 0 (List.range l.length) := by
  have := keepE_range l 0 h
  simpa using this.symm
theorem tries_first {kap : Int} {b : List Int} {s r : List (Int × Int × Int)} (h : goodX kap b s r = true) (hs : 0 < s.length) : 0 ≤ (el s 0).2.2 ∧ (el s 0).2.2 ≤ 1000 := by
  have := (goodX_good h).2.2.2.2.2.1
  rw [triesB, List.all_eq_true] at this
  simpa using this _ (el_mem hs)
set_option maxHeartbeats 2000000 in
theorem begun_is (x1 x2 x3 x4 : Int) (w : World) (h0 : 0 ≤ x3) (h1 : x3 ≤ 1000) (hx : tryV x3 = x4) :
    Calls Try.prog 27 #[.agg #[.int .i64 x1, .int .i64 x2, .int .i64 x3]] w fun e w' => e = .returned (.agg #[.int .i64 x1, .int .i64 x2, .int .i64 x4]) ∧ Below w.heap.size w w' := by
  have HX : Hid (x4 = if x3 < 1000 then x3 + 1 else x3) := hx.symm
  clear hx
  have hm : min (x3 + 1) 1000 = x4 := by rw [HX.out]; split <;> omega
  go_enter Try.func27, Try.ntmps27
  go_wp2
  · have e4 : x4 = 1000 := by rw [← hm]; omega
    subst e4
    exact bodyPost_ret (v := .agg #[.int .i64 x1, .int .i64 x2, .int .i64 1000]) (by simp [results, Try.results27, go_sem]) rfl ⟨rfl, below2 _ _ _⟩
  · have e4 : x4 = x3 + 1 := by rw [← hm]; omega
    subst e4
    exact bodyPost_ret (v := .agg #[.int .i64 x1, .int .i64 x2, .int .i64 (x3 + 1)]) (by simp [results, Try.results27, go_sem]) rfl ⟨rfl, below2 _ _ _⟩
set_option maxRecDepth 100000 in
set_option maxHeartbeats 2000000 in
theorem wordS_is (x : Int) (w : World) :
    Calls Try.prog 15 #[.iface 62 (.int .i64 x)] w fun e w' => e = .returned (.tuple #[.int .i64 x, .agg #[.int .i64 0, .int .i64 0, .int .i64 0]]) ∧ Below w.heap.size w w' := by
  have a1 : ∀ W : World, (Instr.typeAssert (.iface 62 (.int .i64 x)) 41 62 true).run Try.prog W = .ok (.tuple #[.int .i64 x, .bool true]) W := fun _ => by kernel_rfl
  go_enter Try.func15, Try.ntmps15
  go_wp2
  exact bodyPost_ret (v := .tuple #[.int .i64 x, .agg #[.int .i64 0, .int .i64 0, .int .i64 0]]) (by simp [results, Try.results15, go_sem]) rfl ⟨rfl, below1 _ _⟩
set_option maxRecDepth 100000 in
set_option maxHeartbeats 2000000 in
theorem wordL_is (x1 x2 x3 : Int) (w : World) :
    Calls Try.prog 15 #[.iface 63 (.agg #[.int .i64 x1, .int .i64 x2, .int .i64 x3])] w fun e w' => e = .returned (.tuple #[.int .i64 0, .agg #[.int .i64 x1, .int .i64 x2, .int .i64 x3]]) ∧ Below w.heap.size w w' := by
  have a1 : ∀ W : World, (Instr.typeAssert (.iface 63 (.agg #[.int .i64 x1, .int .i64 x2, .int .i64 x3])) 41 62 true).run Try.prog W = .ok (.tuple #[.int .i64 0, .bool false]) W := fun _ => by kernel_rfl
  have a2 : ∀ W : World, (Instr.typeAssert (.iface 63 (.agg #[.int .i64 x1, .int .i64 x2, .int .i64 x3])) 41 63 true).run Try.prog W = .ok (.tuple #[.agg #[.int .i64 x1, .int .i64 x2, .int .i64 x3], .bool true]) W := fun _ => by kernel_rfl
  go_enter Try.func15, Try.ntmps15
  go_wp2
  go_region
  all_goals go_wp2
  all_goals refine bodyPost_ret (v := .tuple #[.int .i64 0, .agg #[.int .i64 x1, .int .i64 x2, .int .i64 x3]]) (by simp [results, Try.results15, go_sem]) rfl ⟨rfl, ?_⟩
  all_goals repeat (first | assumption | exact Below.refl _ _ | refine Below.allocS ?_ _ | refine Below.drew ?_)
end Go.Proofs.Ytnnlbnbamhkcaaa
