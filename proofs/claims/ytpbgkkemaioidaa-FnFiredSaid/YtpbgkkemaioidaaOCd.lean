
/- Contracts of the copies that the laws make, and of their comparisons. No conditions but those written. -/
import Derived.Test.YtpbgkkemaioidaaOCa
import Derived.Deep.QuietTactic
import Derived.BigQuiet
import Derived.Deep.RegionWith
import Derived.Laws.CopyOwn
namespace Go.Proofs.Ytpbgkkemaioidaa.Old
open Go.RowKit

theorem Try.info49 : (Try.prog.info? 49).map (fun i => (i.zero, i.size, i.bytes)) = some (some (.agg #[.int .i64 0, .int .i64 0, .int .i64 0]), 3, 24) := by kernel_rfl
theorem ownsRow_below {w w' : World} {base : Nat} {e : TypeId} {size : Nat} {v : Value} {n : Nat} {xs : List Value} (h : w.ownsRow base e size v n xs) (hb : Below w.heap.size w w') : w'.ownsRow base e size v n xs := by
  obtain ⟨h1, h2⟩ := h
  refine ⟨h1, ?_⟩
  rcases h2 with h2 | ⟨g, cap, cur, hv, hg, hh, r⟩
  · exact Or.inl h2
  · have hlt : g < w.heap.size := (Array.getElem?_eq_some_iff.1 hh).1
    exact Or.inr ⟨g, cap, cur, hv, hg, by rw [hb.block g hlt]; exact hh, r⟩
theorem owns_lt {W : World} {base e size g n cap : Nat} {xs : List Value} (h : W.ownsRow base e size (.slice (some ⟨g, 0, none⟩) n cap) n xs) : base ≤ g ∧ g < W.heap.size := by
  rcases h.2 with ⟨h', _⟩ | ⟨g', cap', cur, h', hb, hg, _⟩
  · simp at h'
  · simp only [Value.slice.injEq, Option.some.injEq, Addr.mk.injEq, and_true, true_and] at h'
    obtain ⟨rfl, rfl⟩ := h'
    exact ⟨hb, (Array.getElem?_eq_some_iff.1 hg).1⟩
theorem ownsRow_base {w : World} {base base' : Nat} {e : TypeId} {size : Nat} {g n cap : Nat} {xs : List Value} (h : w.ownsRow base e size (.slice (some ⟨g, 0, none⟩) n cap) n xs) (hg : base' ≤ g) : w.ownsRow base' e size (.slice (some ⟨g, 0, none⟩) n cap) n xs := by
  obtain ⟨h1, h2⟩ := h
  refine ⟨h1, ?_⟩
  rcases h2 with ⟨h', _⟩ | ⟨g', cap', cur, h', r⟩
  · simp at h'
  · have h'' := h'
    simp only [Value.slice.injEq, Option.some.injEq, Addr.mk.injEq, and_true, true_and] at h''
    obtain ⟨rfl, rfl⟩ := h''
    exact Or.inr ⟨g, cap, cur, h', hg, r.2⟩
theorem owns_block {w w' : World} {base : Nat} {e : TypeId} {size g n cap : Nat} {xs : List Value} (h : w.ownsRow base e size (.slice (some ⟨g, 0, none⟩) n cap) n xs) (hb : w'.heap[g]? = w.heap[g]?) : w'.ownsRow base e size (.slice (some ⟨g, 0, none⟩) n cap) n xs := by
  obtain ⟨h1, h2⟩ := h
  refine ⟨h1, ?_⟩
  rcases h2 with ⟨h', _⟩ | ⟨g', cap', cur, h', hg, hh, r⟩
  · simp at h'
  · have h'' := h'
    simp only [Value.slice.injEq, Option.some.injEq, Addr.mk.injEq, and_true, true_and] at h''
    obtain ⟨rfl, rfl⟩ := h''
    exact Or.inr ⟨g, cap, cur, h', hg, by rw [hb]; exact hh, r⟩

/-- The cells xs are those of the timers ts. -/
def Cells3 (xs : List Value) (ts : List T3) : Prop := ∀ j, j < ts.length → xs[j * 3]? = some (.int .i64 (t3 ts j).1) ∧ xs[j * 3 + 1]? = some (.int .i64 (t3 ts j).2.1) ∧ xs[j * 3 + 2]? = some (.int .i64 (t3 ts j).2.2)
/-- The timers ts lie in a row of their own, in a block from lo on and before hi. -/
def FreshC (lo hi : Nat) (W : World) (to : Option Addr) (tc : Nat) (ts : List T3) : Prop :=
  ts = [] ∨ ∃ g xs, to = some ⟨g, 0, none⟩ ∧ g < hi ∧ W.ownsRow lo 49 3 (.slice (some ⟨g, 0, none⟩) ts.length tc) ts.length xs ∧ Cells3 xs ts
theorem FreshC.timers {lo hi : Nat} {W : World} {to : Option Addr} {tc : Nat} {ts : List T3} (h : FreshC lo hi W to tc ts) : TimersIn W.heap.size W to ts := by
  rcases h with h | ⟨g, xs, rfl, _, ho, hp⟩
  · exact .inl h
  · refine .inr ⟨g, 0, rfl, (owns_lt ho).2, fun j hj => ⟨?_, ?_, ?_⟩⟩
    · rw [Nat.zero_add, ho.cellAt (j * 3) (by omega)]; exact (hp j hj).1
    · rw [Nat.zero_add, ho.cellAt (j * 3 + 1) (by omega)]; exact (hp j hj).2.1
    · rw [Nat.zero_add, ho.cellAt (j * 3 + 2) (by omega)]; exact (hp j hj).2.2
theorem FreshC.keep {lo hi : Nat} {W W' : World} {to : Option Addr} {tc : Nat} {ts : List T3} (h : FreshC lo hi W to tc ts) (hk : ∀ k, lo ≤ k → k < hi → k < W.heap.size → W'.heap[k]? = W.heap[k]?) : FreshC lo hi W' to tc ts := by
  rcases h with h | ⟨g, xs, e, hg, ho, hp⟩
  · exact .inl h
  · exact .inr ⟨g, xs, e, hg, owns_block ho (hk g (owns_lt ho).1 hg (owns_lt ho).2), hp⟩
theorem FreshC.later {lo hi : Nat} {W W' : World} {to : Option Addr} {tc : Nat} {ts : List T3} (h : FreshC lo hi W to tc ts) (hb : Below W.heap.size W W') : FreshC lo hi W' to tc ts := h.keep fun k _ _ hk => hb.block k hk
theorem FreshC.wide {lo hi lo' hi' : Nat} {W : World} {to : Option Addr} {tc : Nat} {ts : List T3} (h : FreshC lo hi W to tc ts) (h1 : lo' ≤ lo) (h2 : hi ≤ hi') : FreshC lo' hi' W to tc ts := by
  rcases h with h | ⟨g, xs, e, hg, ho, hp⟩
  · exact .inl h
  · exact .inr ⟨g, xs, e, by omega, ownsRow_base ho (Nat.le_trans h1 (owns_lt ho).1), hp⟩
theorem FreshC.setBelow {lo hi : Nat} {W : World} {to : Option Addr} {tc : Nat} {ts : List T3} (h : FreshC lo hi W to tc ts) {a : Addr} (ha : a.block < lo) (u : Value) : FreshC lo hi (W.setCell a u) to tc ts := h.keep fun k hk _ _ => Below.heap_setCell W a u k (by omega)
theorem FreshC.cap {lo hi : Nat} {W : World} {to : Option Addr} {tc : Nat} {ts : List T3} (h : FreshC lo hi W to tc ts) : ts.length ≤ tc := by
  rcases h with rfl | ⟨g, xs, rfl, _, ho, hp⟩
  · simp
  · rcases ho.2 with ⟨h', _⟩ | ⟨g', cap', cur, h', hb, hg, h1, _⟩
    · simp at h'
    · simp only [Value.slice.injEq, Option.some.injEq, Addr.mk.injEq, and_true, true_and] at h'
      obtain ⟨rfl, rfl⟩ := h'
      exact h1

end Go.Proofs.Ytpbgkkemaioidaa.Old
