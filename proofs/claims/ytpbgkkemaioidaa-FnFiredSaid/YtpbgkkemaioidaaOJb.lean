
/- The laws' comparisons and marks of ints. No conditions but those written. -/
import Derived.Test.YtpbgkkemaioidaaOIe
import Derived.Test.YtpbgkkemaioidaaODh
namespace Go.Proofs.Ytpbgkkemaioidaa.Old
open Go.RowKit

/-- The slice at ao holds the ints zs, in a block below n. -/
def IntsIn (n : Nat) (W : World) (ao : Option Addr) (zs : List Int) : Prop :=
  zs = [] ∨ ∃ b off, ao = some ⟨b, off, none⟩ ∧ b < n ∧ ∀ j, j < zs.length → W.cell? ⟨b, off + j, none⟩ = some (.int .i64 (zs[j]?.getD 0))
theorem IntsIn.pos {n : Nat} {W : World} {ao : Option Addr} {zs : List Int} (h : IntsIn n W ao zs) {k : Nat} (hk : k < zs.length) :
    ∃ b off, ao = some ⟨b, off, none⟩ ∧ b < n ∧ ∀ j, j < zs.length → W.cell? ⟨b, off + j, none⟩ = some (.int .i64 (zs[j]?.getD 0)) := by
  rcases h with rfl | h
  · simp at hk
  · exact h

theorem IntsIn.below {n : Nat} {W W' : World} {ao : Option Addr} {zs : List Int} (h : IntsIn n W ao zs) (hb : Below n W W') : IntsIn n W' ao zs := by
  rcases h with rfl | ⟨b, off, e, hn, hc⟩
  · exact .inl rfl
  · exact .inr ⟨b, off, e, hn, fun j hj => (hb.cell (p := ⟨b, off + j, none⟩) hn).trans (hc j hj)⟩
theorem IntsIn.later {W W' : World} {ao : Option Addr} {zs : List Int} (h : IntsIn W.heap.size W ao zs) (hb : Below W.heap.size W W') : IntsIn W'.heap.size W' ao zs := by
  rcases h.below hb with h | ⟨b, off, e, hn, hc⟩
  · exact .inl h
  · exact .inr ⟨b, off, e, Nat.lt_of_lt_of_le hn hb.size, hc⟩
def FreshI (lo hi : Nat) (W : World) (qo : Option Addr) (qc : Nat) (q : List Int) : Prop :=
  q = [] ∨ ∃ g, qo = some ⟨g, 0, none⟩ ∧ g < hi ∧ W.ownsRow lo 3 1 (.slice (some ⟨g, 0, none⟩) q.length qc) q.length (q.map (Value.int .i64))
theorem FreshI.ints {lo hi : Nat} {W : World} {qo : Option Addr} {qc : Nat} {q : List Int} (h : FreshI lo hi W qo qc q) : IntsIn W.heap.size W qo q := by
  rcases h with h | ⟨g, rfl, _, ho⟩
  · exact .inl h
  · exact .inr ⟨g, 0, rfl, (owns_lt ho).2, fun j hj => by rw [Nat.zero_add, ho.cellAt j (by omega)]; simp [hj]⟩
theorem FreshI.keep {lo hi : Nat} {W W' : World} {qo : Option Addr} {qc : Nat} {q : List Int} (h : FreshI lo hi W qo qc q) (hk : ∀ k, lo ≤ k → k < hi → k < W.heap.size → W'.heap[k]? = W.heap[k]?) : FreshI lo hi W' qo qc q := by
  rcases h with h | ⟨g, e, hg, ho⟩
  · exact .inl h
  · exact .inr ⟨g, e, hg, owns_block ho (hk g (owns_lt ho).1 hg (owns_lt ho).2)⟩
theorem FreshI.later {lo hi : Nat} {W W' : World} {qo : Option Addr} {qc : Nat} {q : List Int} (h : FreshI lo hi W qo qc q) (hb : Below W.heap.size W W') : FreshI lo hi W' qo qc q := h.keep fun k _ _ hk => hb.block k hk
theorem FreshI.wide {lo hi lo' hi' : Nat} {W : World} {qo : Option Addr} {qc : Nat} {q : List Int} (h : FreshI lo hi W qo qc q) (h1 : lo' ≤ lo) (h2 : hi ≤ hi') : FreshI lo' hi' W qo qc q := by
  rcases h with h | ⟨g, e, hg, ho⟩
  · exact .inl h
  · exact .inr ⟨g, e, by omega, ownsRow_base ho (Nat.le_trans h1 (owns_lt ho).1)⟩
def markI (k : Int) (n : Nat) : List Int := (List.range n).map (fun i : Nat => k + (i : Int))
theorem markI_len (k : Int) (n : Nat) : (markI k n).length = n := by simp [markI]
theorem markI_at (k : Int) (n j : Nat) (h : j < n) : (markI k n)[j]?.getD 0 = k + (j : Int) := by simp [markI, h]

theorem FreshI.between {lo hi : Nat} {W W' : World} {qo : Option Addr} {qc : Nat} {q : List Int} (h : FreshI lo hi W qo qc q) (hb : OnlyAt (eff qo q.length) W W') : Between lo hi W W' := by
  refine ⟨hb.os, hb.tape, hb.output, by rw [hb.size]; exact Nat.le_refl _, fun k _ hr => hb.block k fun g e => ?_⟩
  rcases h with rfl | ⟨g2, e2, hg, ho⟩
  · simp [eff] at e
  · unfold eff at e
    split at e
    · cases e
    · rw [e2] at e; simp at e; subst e
      have := (owns_lt ho).1
      omega

theorem FreshI.between' {lo hi lo' hi' : Nat} {W W' : World} {qo : Option Addr} {qc : Nat} {q : List Int} (h : FreshI lo hi W qo qc q) (hb : Between lo' hi' W W') (hd : hi ≤ lo' ∨ hi' ≤ lo) : FreshI lo hi W' qo qc q :=
  h.keep fun k h1 h2 h3 => hb.block k h3 (by omega)
theorem owns_type {w : World} {base : Nat} {e : TypeId} {size g n cap : Nat} {xs : List Value} (h : w.ownsRow base e size (.slice (some ⟨g, 0, none⟩) n cap) n xs) : ∃ cur, w.heap[g]? = some (.cells cur e (0, 0)) := by
  rcases h.2 with ⟨h', _⟩ | ⟨g', cap', cur, h', hb, hg, _⟩
  · simp at h'
  · simp only [Value.slice.injEq, Option.some.injEq, Addr.mk.injEq, and_true, true_and] at h'
    obtain ⟨rfl, rfl⟩ := h'
    exact ⟨cur, hg⟩
theorem owns_ne {w : World} {base base' size size' g g' n n' cap cap' : Nat} {xs xs' : List Value} (h : w.ownsRow base 49 size (.slice (some ⟨g, 0, none⟩) n cap) n xs) (h' : w.ownsRow base' 3 size' (.slice (some ⟨g', 0, none⟩) n' cap') n' xs') : g ≠ g' := by
  obtain ⟨c, e⟩ := owns_type h
  obtain ⟨c', e'⟩ := owns_type h'
  rintro rfl
  rw [e] at e'; simp at e'
theorem FreshI.only {lo hi lo' hi' : Nat} {W W' : World} {to qo : Option Addr} {tc qc : Nat} {ts : List T3} {q : List Int} (h : FreshI lo hi W qo qc q) (hT : FreshC lo' hi' W to tc ts) (hb : OnlyAt (eff to ts.length) W W') : FreshI lo hi W' qo qc q := by
  rcases h with h | ⟨g, e, hg, ho⟩
  · exact .inl h
  · refine .inr ⟨g, e, hg, owns_block ho (hb.block g fun g' e' => ?_)⟩
    rcases hT with rfl | ⟨g2, xs, e2, _, ho2, _⟩
    · simp [eff] at e'
    · unfold eff at e'
      split at e'
      · cases e'
      · rw [e2] at e'; simp at e'; subst e'
        exact fun x => owns_ne ho2 ho x.symm
theorem FreshC.only {lo hi lo' hi' : Nat} {W W' : World} {to qo : Option Addr} {tc qc : Nat} {ts : List T3} {q : List Int} (h : FreshC lo hi W to tc ts) (hI : FreshI lo' hi' W qo qc q) (hb : OnlyAt (eff qo q.length) W W') : FreshC lo hi W' to tc ts := by
  rcases h with h | ⟨g, xs, e, hg, ho, hp⟩
  · exact .inl h
  · refine .inr ⟨g, xs, e, hg, owns_block ho (hb.block g fun g' e' => ?_), hp⟩
    rcases hI with rfl | ⟨g2, e2, _, ho2⟩
    · simp [eff] at e'
    · unfold eff at e'
      split at e'
      · cases e'
      · rw [e2] at e'; simp at e'; subst e'
        exact owns_ne ho ho2
end Go.Proofs.Ytpbgkkemaioidaa.Old
