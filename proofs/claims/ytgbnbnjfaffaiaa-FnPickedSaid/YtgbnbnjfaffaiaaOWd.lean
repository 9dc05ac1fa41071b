
/- Contracts of the copies that the laws make. No conditions but those written. -/
import Derived.Test.YtgbnbnjfaffaiaaOWb
namespace Go.Proofs.Ytgbnbnjfaffaiaa.Old
open Go.RowKit

theorem Try.info3 : (Try.prog.info? 3).map (fun i => (i.zero, i.size, i.bytes)) = some (some (.int .i64 0), 1, 8) := by kernel_rfl
theorem Try.info34 : (Try.prog.info? 34).map (fun i => (i.zero, i.size, i.bytes)) = some (some (.agg #[.int .i64 0, .int .i64 0]), 2, 16) := by kernel_rfl

theorem ownsRow_below {w w' : World} {base : Nat} {e : TypeId} {size : Nat} {v : Value} {n : Nat} {xs : List Value} (h : w.ownsRow base e size v n xs) (hb : Below w.heap.size w w') : w'.ownsRow base e size v n xs := by
  obtain ⟨h1, h2⟩ := h
  refine ⟨h1, ?_⟩
  rcases h2 with h2 | ⟨g, cap, cur, hv, hg, hh, r⟩
  · exact Or.inl h2
  · have hlt : g < w.heap.size := (Array.getElem?_eq_some_iff.1 hh).1
    exact Or.inr ⟨g, cap, cur, hv, hg, by rw [hb.block g hlt]; exact hh, r⟩

/-- Block g, from base on, is a row of the ints zs. -/
def OwnI (base : Nat) (W : World) (g : Nat) (zs : List Int) : Prop := W.ownsRow base 3 1 (.slice (some ⟨g, 0, none⟩) zs.length zs.length) zs.length (zs.map (Value.int .i64))
/-- Block g, from base on, is a row of the tasks ts. -/
def OwnT (base : Nat) (W : World) (g : Nat) (ts : List (Int × Int)) : Prop :=
  ∃ xs, W.ownsRow base 34 2 (.slice (some ⟨g, 0, none⟩) ts.length ts.length) ts.length xs ∧ ∀ j, j < ts.length → xs[j * 2]? = some (.int .i64 (ts[j]?.getD (0, 0)).1) ∧ xs[j * 2 + 1]? = some (.int .i64 (ts[j]?.getD (0, 0)).2)
theorem owns_lt {W : World} {base e size g n cap : Nat} {xs : List Value} (h : W.ownsRow base e size (.slice (some ⟨g, 0, none⟩) n cap) n xs) : base ≤ g ∧ g < W.heap.size := by
  rcases h.2 with ⟨h', _⟩ | ⟨g', cap', cur, h', hb, hg, _⟩
  · simp at h'
  · simp only [Value.slice.injEq, Option.some.injEq, Addr.mk.injEq, and_true, true_and] at h'
    obtain ⟨rfl, rfl⟩ := h'
    exact ⟨hb, (Array.getElem?_eq_some_iff.1 hg).1⟩
theorem OwnI.ints {base : Nat} {W : World} {g : Nat} {zs : List Int} (h : OwnI base W g zs) : IntsIn W.heap.size W (some ⟨g, 0, none⟩) zs :=
  .inr ⟨g, 0, rfl, (owns_lt h).2, fun j hj => by rw [Nat.zero_add, h.cellAt j (by omega)]; simp [hj]⟩
theorem OwnT.tasks {base : Nat} {W : World} {g : Nat} {ts : List (Int × Int)} (h : OwnT base W g ts) : TasksIn W.heap.size W (some ⟨g, 0, none⟩) ts := by
  obtain ⟨xs, ho, hp⟩ := h
  refine .inr ⟨g, 0, rfl, (owns_lt ho).2, fun j hj => ⟨?_, ?_⟩⟩
  · rw [Nat.zero_add, ho.cellAt (j * 2) (by omega)]; exact (hp j hj).1
  · rw [Nat.zero_add, ho.cellAt (j * 2 + 1) (by omega)]; exact (hp j hj).2
theorem OwnI.below {base : Nat} {W W' : World} {g : Nat} {zs : List Int} (h : OwnI base W g zs) (hb : Below W.heap.size W W') : OwnI base W' g zs := ownsRow_below h hb
theorem OwnT.below {base : Nat} {W W' : World} {g : Nat} {ts : List (Int × Int)} (h : OwnT base W g ts) (hb : Below W.heap.size W W') : OwnT base W' g ts := by
  obtain ⟨xs, ho, hp⟩ := h
  exact ⟨xs, ownsRow_below ho hb, hp⟩
theorem IntsIn.later {W W' : World} {ao : Option Addr} {zs : List Int} (h : IntsIn W.heap.size W ao zs) (hb : Below W.heap.size W W') : IntsIn W'.heap.size W' ao zs := by
  rcases h.below hb with h | ⟨b, off, e, hn, hc⟩
  · exact .inl h
  · exact .inr ⟨b, off, e, Nat.lt_of_lt_of_le hn hb.size, hc⟩
theorem TasksIn.later {W W' : World} {ao : Option Addr} {ts : List (Int × Int)} (h : TasksIn W.heap.size W ao ts) (hb : Below W.heap.size W W') : TasksIn W'.heap.size W' ao ts := by
  rcases h.below hb with h | ⟨b, off, e, hn, hc⟩
  · exact .inl h
  · exact .inr ⟨b, off, e, Nat.lt_of_lt_of_le hn hb.size, hc⟩
theorem ownsRow_base {w : World} {base base' : Nat} {e : TypeId} {size : Nat} {g n cap : Nat} {xs : List Value} (h : w.ownsRow base e size (.slice (some ⟨g, 0, none⟩) n cap) n xs) (hg : base' ≤ g) : w.ownsRow base' e size (.slice (some ⟨g, 0, none⟩) n cap) n xs := by
  obtain ⟨h1, h2⟩ := h
  refine ⟨h1, ?_⟩
  rcases h2 with ⟨h', _⟩ | ⟨g', cap', cur, h', r⟩
  · simp at h'
  · have h'' := h'
    simp only [Value.slice.injEq, Option.some.injEq, Addr.mk.injEq, and_true, true_and] at h''
    obtain ⟨rfl, rfl⟩ := h''
    exact Or.inr ⟨g, cap, cur, h', hg, r.2⟩

end Go.Proofs.Ytgbnbnjfaffaiaa.Old
