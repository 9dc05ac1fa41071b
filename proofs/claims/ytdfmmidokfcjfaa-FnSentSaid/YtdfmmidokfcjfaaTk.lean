
/- Rows of waiters. No conditions but those written. -/
import Derived.Test.YtdfmmidokfcjfaaIa
namespace Go.Proofs.Ytdfmmidokfcjfaa
open Go.RowKit

theorem set_far {xs : List Value} {p q : Nat} {u : Value} (h : p ≠ q) : (xs.set p u)[q]? = xs[q]? := by rw [List.getElem?_set, if_neg h]
theorem set_at {xs : List Value} {p : Nat} {u : Value} (h : p < xs.length) : (xs.set p u)[p]? = some u := by rw [List.getElem?_set, if_pos rfl, if_pos h]
/-- A row of Waiter. -/
def kT : Kind (Int × Int × Int) := ⟨28, 24, 3, fun t => [.int .i64 t.1, .int .i64 t.2.1, .int .i64 t.2.2], fun _ => rfl, fun a v h => by simp at h; rcases h with rfl | rfl | rfl <;> rfl⟩
theorem Try.info28 : (Try.prog.info? 28).map (fun i => (i.zero, i.size, i.bytes)) = some (some (.agg #[.int .i64 0, .int .i64 0, .int .i64 0]), 3, 24) := by kernel_rfl
theorem kT_ok : kT.Ok := kind_ok (K := kT) Try.underlying24 Try.info28 rfl (by decide) (by decide)
theorem kT_at {n : Nat} {W : World} {ao : Option Addr} {ts : List (Int × Int × Int)} (h : kT.In n W ao ts) {k : Nat} (hk : k < ts.length) :
    ∃ b off, ao = some ⟨b, off, none⟩ ∧ b < n ∧ ∀ j, j < ts.length → W.cell? ⟨b, off + j * 3, none⟩ = some (.int .i64 (el ts j).1) ∧ W.cell? ⟨b, off + j * 3 + 1, none⟩ = some (.int .i64 (el ts j).2.1) ∧ W.cell? ⟨b, off + j * 3 + 2, none⟩ = some (.int .i64 (el ts j).2.2) := by
  obtain ⟨b, off, e, hb, hc⟩ := h.pos hk
  exact ⟨b, off, e, hb, fun j hj => ⟨hc j hj 0 (by decide), hc j hj 1 (by decide), hc j hj 2 (by decide)⟩⟩
theorem kT_one {n : Nat} {W : World} {p : Nat} {t : Int × Int × Int} (hp : p < n) (h0 : W.cell? ⟨p, 0, none⟩ = some (.int .i64 t.1)) (h1 : W.cell? ⟨p, 1, none⟩ = some (.int .i64 t.2.1)) (h2 : W.cell? ⟨p, 2, none⟩ = some (.int .i64 t.2.2)) : kT.In n W (some ⟨p, 0, none⟩) [t] := by
  refine Kind.In.mk1 hp fun i hi => ?_
  rw [Nat.zero_add]
  have hi' : i < 3 := hi
  rcases (show i = 0 ∨ i = 1 ∨ i = 2 from by omega) with rfl | rfl | rfl
  · exact h0
  · exact h1
  · exact h2
end Go.Proofs.Ytdfmmidokfcjfaa
