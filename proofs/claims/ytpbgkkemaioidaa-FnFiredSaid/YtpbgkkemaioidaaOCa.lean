
/- Small contracts of the functions of chapter 2's laws. No conditions but those written. -/
import Derived.Test.YtpbgkkemaioidaaOLa
import Derived.Test.YtpbgkkemaioidaaOPa
import Derived.Deep.RegionWith
namespace Go.Proofs.Ytpbgkkemaioidaa.Old
open Go.RowKit

/-- The slice at ao holds the timers ts, in a block below n. -/
def TimersIn (n : Nat) (W : World) (ao : Option Addr) (ts : List T3) : Prop :=
  ts = [] ∨ ∃ b off, ao = some ⟨b, off, none⟩ ∧ b < n ∧ ∀ j, j < ts.length → W.cell? ⟨b, off + j * 3, none⟩ = some (.int .i64 (t3 ts j).1) ∧ W.cell? ⟨b, off + j * 3 + 1, none⟩ = some (.int .i64 (t3 ts j).2.1) ∧ W.cell? ⟨b, off + j * 3 + 2, none⟩ = some (.int .i64 (t3 ts j).2.2)
theorem TimersIn.pos {n : Nat} {W : World} {ao : Option Addr} {ts : List T3} (h : TimersIn n W ao ts) {k : Nat} (hk : k < ts.length) :
    ∃ b off, ao = some ⟨b, off, none⟩ ∧ b < n ∧ ∀ j, j < ts.length → W.cell? ⟨b, off + j * 3, none⟩ = some (.int .i64 (t3 ts j).1) ∧ W.cell? ⟨b, off + j * 3 + 1, none⟩ = some (.int .i64 (t3 ts j).2.1) ∧ W.cell? ⟨b, off + j * 3 + 2, none⟩ = some (.int .i64 (t3 ts j).2.2) := by
  rcases h with rfl | h
  · simp at hk
  · exact h
theorem TimersIn.below {n : Nat} {W W' : World} {ao : Option Addr} {ts : List T3} (h : TimersIn n W ao ts) (hb : Below n W W') : TimersIn n W' ao ts := by
  rcases h with rfl | ⟨b, off, e, hn, hc⟩
  · exact .inl rfl
  · exact .inr ⟨b, off, e, hn, fun j hj => ⟨(hb.cell (p := ⟨b, off + j * 3, none⟩) hn).trans (hc j hj).1, (hb.cell (p := ⟨b, off + j * 3 + 1, none⟩) hn).trans (hc j hj).2.1, (hb.cell (p := ⟨b, off + j * 3 + 2, none⟩) hn).trans (hc j hj).2.2⟩⟩
theorem TimersIn.later {W W' : World} {ao : Option Addr} {ts : List T3} (h : TimersIn W.heap.size W ao ts) (hb : Below W.heap.size W W') : TimersIn W'.heap.size W' ao ts := by
  rcases h.below hb with h | ⟨b, off, e, hn, hc⟩
  · exact .inl h
  · exact .inr ⟨b, off, e, Nat.lt_of_lt_of_le hn hb.size, hc⟩

set_option maxHeartbeats 400000 in
theorem l1In_any (n lo hi : Int) (w : World) :
    Calls Try.prog 29 #[.int .i64 n, .int .i64 lo, .int .i64 hi] w fun e w' => e = .returned (.bool (decide (lo ≤ n) && decide (n ≤ hi))) ∧ w' = w := by
  by_cases h : lo ≤ n
  · go_enter Try.func29, Try.ntmps29
    go_wp2
    go_ret
    exact ⟨by simp [*], rfl⟩
  · have h' : decide (lo ≤ n) = false := by simpa using h
    go_enter Try.func29, Try.ntmps29
    go_wp2
    go_ret
    exact ⟨by simp [*], rfl⟩
theorem l1In_is (n lo hi : Int) (w : World) (b : Bool) (h : (decide (lo ≤ n) && decide (n ≤ hi)) = b) :
    Calls Try.prog 29 #[.int .i64 n, .int .i64 lo, .int .i64 hi] w fun e w' => e = .returned (.bool b) ∧ w' = w := by
  subst h; exact l1In_any n lo hi w

set_option maxHeartbeats 2000000 in
theorem fires_any (now sq : Int) (ao : Option Addr) (cap : Nat) (ts : List T3) (x y : Nat) (w : World) (hx : x < ts.length) (hy : y < ts.length) (hz : TimersIn w.heap.size w ao ts) :
    Calls Try.prog 33 #[.agg #[.int .i64 now, .int .i64 sq, .slice ao ts.length cap], .int .i64 (x : Int), .int .i64 (y : Int)] w fun e w' => e = .returned (.bool (beforeB (t3 ts x) (t3 ts y))) ∧ Below w.heap.size w w' := by
  obtain ⟨b, off, rfl, hb, hc⟩ := hz.pos hx
  obtain ⟨cx1, cx2, cx3⟩ := hc x hx
  obtain ⟨cy1, cy2, cy3⟩ := hc y hy
  clear hc hz
  obtain ⟨⟨x1, x2, x3⟩, ex⟩ : ∃ v, v = t3 ts x := ⟨_, rfl⟩
  obtain ⟨⟨y1, y2, y3⟩, ey⟩ : ∃ v, v = t3 ts y := ⟨_, rfl⟩
  rw [← ex] at cx1 cx2 cx3 ⊢
  rw [← ey] at cy1 cy2 cy3 ⊢
  clear ex ey
  dsimp only at cx1 cx2 cx3 cy1 cy2 cy3
  have hxi : (x : Int) < (ts.length : Int) := by omega
  have hyi : (y : Int) < (ts.length : Int) := by omega
  have hb1 : b < w.heap.size + 1 := by omega
  have hb2 : b < w.heap.size + 1 + 1 := by omega
  by_cases h : x2 = y2
  · subst h
    have HE : Hid (beforeB (x1, x2, x3) (y1, x2, y3) = decide (x3 < y3)) := by simp [Hid, beforeB]
    have hne : (x2 != x2) = false := by simp
    go_enter Try.func33, Try.ntmps33
    go_wp2
    go_region
    all_goals
      go_wp2
      go_ret
      exact ⟨ret_bool HE.out.symm, by repeat (first | assumption | exact Below.refl _ _ | refine Below.alloc ?_ (by simp <;> omega) _ | refine Below.drew ?_)⟩
  · have HE : Hid (beforeB (x1, x2, x3) (y1, y2, y3) = decide (x2 < y2)) := by simp [Hid, beforeB, h]
    have hne : (x2 != y2) = true := by simpa using h
    clear h
    go_enter Try.func33, Try.ntmps33
    go_wp2
    go_region
    all_goals
      go_wp2
      go_ret
      exact ⟨ret_bool HE.out.symm, by repeat (first | assumption | exact Below.refl _ _ | refine Below.alloc ?_ (by simp <;> omega) _ | refine Below.drew ?_)⟩
end Go.Proofs.Ytpbgkkemaioidaa.Old
