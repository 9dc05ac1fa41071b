
/- Boards in memory of their own, and the laws' marks upon them. No conditions but those written. -/
import Derived.Test.YtgbnbnjfaffaiaaOWf
namespace Go.Proofs.Ytgbnbnjfaffaiaa.Old
open Go.RowKit

/-- Nothing that was there has turned but for the block to which ao leads. -/
structure OnlyAt (ao : Option Addr) (w w' : World) : Prop where
  os : w'.os = w.os
  tape : w'.tape = w.tape
  output : w'.output = w.output
  size : w'.heap.size = w.heap.size
  block : ∀ k, (∀ g, ao = some ⟨g, 0, none⟩ → k ≠ g) → w'.heap[k]? = w.heap[k]?
theorem OnlyAt.refl (ao : Option Addr) (w : World) : OnlyAt ao w w := ⟨rfl, rfl, rfl, rfl, fun _ _ => rfl⟩
theorem OnlyAt.trans {ao : Option Addr} {a b c : World} (h : OnlyAt ao a b) (k : OnlyAt ao b c) : OnlyAt ao a c :=
  ⟨k.os.trans h.os, k.tape.trans h.tape, k.output.trans h.output, k.size.trans h.size, fun i hi => (k.block i hi).trans (h.block i hi)⟩
theorem OnlyAt.set (g o : Nat) (w : World) (u : Value) : OnlyAt (some ⟨g, 0, none⟩) w (w.setCell ⟨g, o, none⟩ u) :=
  ⟨rfl, rfl, rfl, by simp [World.setCell], fun k hk => Below.heap_setCell _ _ _ _ (hk g rfl)⟩

/-- Outside the blocks from lo to hi nothing that was there has turned. -/
structure Between (lo hi : Nat) (w w' : World) : Prop where
  os : w'.os = w.os
  tape : w'.tape = w.tape
  output : w'.output = w.output
  size : w.heap.size ≤ w'.heap.size
  block : ∀ k, k < w.heap.size → (k < lo ∨ hi ≤ k) → w'.heap[k]? = w.heap[k]?
theorem Between.below {lo hi : Nat} {w w' : World} (h : Between lo hi w w') (hl : lo ≤ w.heap.size) : Below lo w w' :=
  ⟨h.os, h.tape, h.output, h.size, fun k hk => h.block k (by omega) (.inl hk)⟩
theorem Between.trans {lo hi : Nat} {a b c : World} (h : Between lo hi a b) (k : Between lo hi b c) : Between lo hi a c :=
  ⟨k.os.trans h.os, k.tape.trans h.tape, k.output.trans h.output, Nat.le_trans h.size k.size, fun i hi hr => (k.block i (Nat.lt_of_lt_of_le hi h.size) hr).trans (h.block i hi hr)⟩
theorem Between.of_below {lo hi : Nat} {w w' : World} (h : Below w.heap.size w w') : Between lo hi w w' :=
  ⟨h.os, h.tape, h.output, h.size, fun k hk _ => h.block k hk⟩

/-- The tasks ts lie in a row of their own, in a block from lo on and before hi. -/
def FreshT (lo hi : Nat) (W : World) (to : Option Addr) (tc : Nat) (ts : List (Int × Int)) : Prop :=
  ts = [] ∨ ∃ g xs, to = some ⟨g, 0, none⟩ ∧ g < hi ∧ W.ownsRow lo 34 2 (.slice (some ⟨g, 0, none⟩) ts.length tc) ts.length xs ∧ ∀ j, j < ts.length → xs[j * 2]? = some (.int .i64 (ts[j]?.getD (0, 0)).1) ∧ xs[j * 2 + 1]? = some (.int .i64 (ts[j]?.getD (0, 0)).2)
def FreshI (lo hi : Nat) (W : World) (qo : Option Addr) (qc : Nat) (q : List Int) : Prop :=
  q = [] ∨ ∃ g, qo = some ⟨g, 0, none⟩ ∧ g < hi ∧ W.ownsRow lo 3 1 (.slice (some ⟨g, 0, none⟩) q.length qc) q.length (q.map (Value.int .i64))
theorem FreshT.tasks {lo hi : Nat} {W : World} {to : Option Addr} {tc : Nat} {ts : List (Int × Int)} (h : FreshT lo hi W to tc ts) : TasksIn W.heap.size W to ts := by
  rcases h with h | ⟨g, xs, rfl, _, ho, hp⟩
  · exact .inl h
  · refine .inr ⟨g, 0, rfl, (owns_lt ho).2, fun j hj => ⟨?_, ?_⟩⟩
    · rw [Nat.zero_add, ho.cellAt (j * 2) (by omega)]; exact (hp j hj).1
    · rw [Nat.zero_add, ho.cellAt (j * 2 + 1) (by omega)]; exact (hp j hj).2
theorem FreshI.ints {lo hi : Nat} {W : World} {qo : Option Addr} {qc : Nat} {q : List Int} (h : FreshI lo hi W qo qc q) : IntsIn W.heap.size W qo q := by
  rcases h with h | ⟨g, rfl, _, ho⟩
  · exact .inl h
  · exact .inr ⟨g, 0, rfl, (owns_lt ho).2, fun j hj => by rw [Nat.zero_add, ho.cellAt j (by omega)]; simp [hj]⟩
theorem owns_block {w w' : World} {base : Nat} {e : TypeId} {size g n cap : Nat} {xs : List Value} (h : w.ownsRow base e size (.slice (some ⟨g, 0, none⟩) n cap) n xs) (hb : w'.heap[g]? = w.heap[g]?) : w'.ownsRow base e size (.slice (some ⟨g, 0, none⟩) n cap) n xs := by
  obtain ⟨h1, h2⟩ := h
  refine ⟨h1, ?_⟩
  rcases h2 with ⟨h', _⟩ | ⟨g', cap', cur, h', hg, hh, r⟩
  · simp at h'
  · have h'' := h'
    simp only [Value.slice.injEq, Option.some.injEq, Addr.mk.injEq, and_true, true_and] at h''
    obtain ⟨rfl, rfl⟩ := h''
    exact Or.inr ⟨g, cap, cur, h', hg, by rw [hb]; exact hh, r⟩
theorem FreshT.keep {lo hi : Nat} {W W' : World} {to : Option Addr} {tc : Nat} {ts : List (Int × Int)} (h : FreshT lo hi W to tc ts) (hk : ∀ k, lo ≤ k → k < hi → k < W.heap.size → W'.heap[k]? = W.heap[k]?) : FreshT lo hi W' to tc ts := by
  rcases h with h | ⟨g, xs, e, hg, ho, hp⟩
  · exact .inl h
  · exact .inr ⟨g, xs, e, hg, owns_block ho (hk g (owns_lt ho).1 hg (owns_lt ho).2), hp⟩
theorem FreshI.keep {lo hi : Nat} {W W' : World} {qo : Option Addr} {qc : Nat} {q : List Int} (h : FreshI lo hi W qo qc q) (hk : ∀ k, lo ≤ k → k < hi → k < W.heap.size → W'.heap[k]? = W.heap[k]?) : FreshI lo hi W' qo qc q := by
  rcases h with h | ⟨g, e, hg, ho⟩
  · exact .inl h
  · exact .inr ⟨g, e, hg, owns_block ho (hk g (owns_lt ho).1 hg (owns_lt ho).2)⟩
theorem FreshT.later {lo hi : Nat} {W W' : World} {to : Option Addr} {tc : Nat} {ts : List (Int × Int)} (h : FreshT lo hi W to tc ts) (hb : Below W.heap.size W W') : FreshT lo hi W' to tc ts := h.keep fun k _ _ hk => hb.block k hk
theorem FreshI.later {lo hi : Nat} {W W' : World} {qo : Option Addr} {qc : Nat} {q : List Int} (h : FreshI lo hi W qo qc q) (hb : Below W.heap.size W W') : FreshI lo hi W' qo qc q := h.keep fun k _ _ hk => hb.block k hk
theorem FreshT.wide {lo hi lo' hi' : Nat} {W : World} {to : Option Addr} {tc : Nat} {ts : List (Int × Int)} (h : FreshT lo hi W to tc ts) (h1 : lo' ≤ lo) (h2 : hi ≤ hi') : FreshT lo' hi' W to tc ts := by
  rcases h with h | ⟨g, xs, e, hg, ho, hp⟩
  · exact .inl h
  · exact .inr ⟨g, xs, e, by omega, ownsRow_base ho (Nat.le_trans h1 (owns_lt ho).1), hp⟩
theorem FreshI.wide {lo hi lo' hi' : Nat} {W : World} {qo : Option Addr} {qc : Nat} {q : List Int} (h : FreshI lo hi W qo qc q) (h1 : lo' ≤ lo) (h2 : hi ≤ hi') : FreshI lo' hi' W qo qc q := by
  rcases h with h | ⟨g, e, hg, ho⟩
  · exact .inl h
  · exact .inr ⟨g, e, by omega, ownsRow_base ho (Nat.le_trans h1 (owns_lt ho).1)⟩
theorem owns_type {w : World} {base : Nat} {e : TypeId} {size g n cap : Nat} {xs : List Value} (h : w.ownsRow base e size (.slice (some ⟨g, 0, none⟩) n cap) n xs) : ∃ cur, w.heap[g]? = some (.cells cur e (0, 0)) := by
  rcases h.2 with ⟨h', _⟩ | ⟨g', cap', cur, h', hb, hg, _⟩
  · simp at h'
  · simp only [Value.slice.injEq, Option.some.injEq, Addr.mk.injEq, and_true, true_and] at h'
    obtain ⟨rfl, rfl⟩ := h'
    exact ⟨cur, hg⟩
theorem owns_ne {w : World} {base base' size size' g g' n n' cap cap' : Nat} {xs xs' : List Value} (h : w.ownsRow base 34 size (.slice (some ⟨g, 0, none⟩) n cap) n xs) (h' : w.ownsRow base' 3 size' (.slice (some ⟨g', 0, none⟩) n' cap') n' xs') : g ≠ g' := by
  obtain ⟨c, e⟩ := owns_type h
  obtain ⟨c', e'⟩ := owns_type h'
  rintro rfl
  rw [e] at e'; simp at e'

/-- The address of a row, none where it has no element. -/
def eff (ao : Option Addr) (n : Nat) : Option Addr := if n = 0 then none else ao
theorem eff_pos {ao : Option Addr} {n : Nat} (h : 0 < n) : eff ao n = ao := by unfold eff; rw [if_neg (by omega)]

def markT (k : Int) (n : Nat) : List (Int × Int) := (List.range n).map (fun i : Nat => (k + 2 * (i : Int), k + 2 * (i : Int) + 1))
def markI (k : Int) (n : Nat) : List Int := (List.range n).map (fun i : Nat => k + (i : Int))
theorem markT_len (k : Int) (n : Nat) : (markT k n).length = n := by simp [markT]
theorem markI_len (k : Int) (n : Nat) : (markI k n).length = n := by simp [markI]
theorem markT_at (k : Int) (n j : Nat) (h : j < n) : (markT k n)[j]?.getD (0, 0) = (k + 2 * (j : Int), k + 2 * (j : Int) + 1) := by simp [markT, h]
theorem markI_at (k : Int) (n j : Nat) (h : j < n) : (markI k n)[j]?.getD 0 = k + (j : Int) := by simp [markI, h]

theorem FreshI.only {lo hi : Nat} {W W' : World} {to qo : Option Addr} {tc qc : Nat} {ts : List (Int × Int)} {q : List Int} (h : FreshI lo hi W qo qc q) (hT : FreshT lo hi W to tc ts) (hb : OnlyAt (eff to ts.length) W W') : FreshI lo hi W' qo qc q := by
  rcases h with h | ⟨g, e, hg, ho⟩
  · exact .inl h
  · refine .inr ⟨g, e, hg, owns_block ho (hb.block g fun g' e' => ?_)⟩
    rcases hT with rfl | ⟨g2, xs, e2, _, ho2, _⟩
    · simp [eff] at e'
    · unfold eff at e'
      split at e'
      · cases e'
      · rw [e2] at e'; simp at e'; subst e'
        exact fun x => owns_ne ho2 ho x.symm
theorem FreshT.only {lo hi : Nat} {W W' : World} {to qo : Option Addr} {tc qc : Nat} {ts : List (Int × Int)} {q : List Int} (h : FreshT lo hi W to tc ts) (hI : FreshI lo hi W qo qc q) (hb : OnlyAt (eff qo q.length) W W') : FreshT lo hi W' to tc ts := by
  rcases h with h | ⟨g, xs, e, hg, ho, hp⟩
  · exact .inl h
  · refine .inr ⟨g, xs, e, hg, owns_block ho (hb.block g fun g' e' => ?_), hp⟩
    rcases hI with rfl | ⟨g2, e2, _, ho2⟩
    · simp [eff] at e'
    · unfold eff at e'
      split at e'
      · cases e'
      · rw [e2] at e'; simp at e'; subst e'
        exact owns_ne ho ho2
theorem FreshT.between {lo hi : Nat} {W W' : World} {to : Option Addr} {tc : Nat} {ts : List (Int × Int)} (h : FreshT lo hi W to tc ts) (hb : OnlyAt (eff to ts.length) W W') : Between lo hi W W' := by
  refine ⟨hb.os, hb.tape, hb.output, by rw [hb.size]; exact Nat.le_refl _, fun k _ hr => hb.block k fun g e => ?_⟩
  rcases h with rfl | ⟨g2, xs, e2, hg, ho, _⟩
  · simp [eff] at e
  · unfold eff at e
    split at e
    · cases e
    · rw [e2] at e; simp at e; subst e
      have := (owns_lt ho).1
      omega
theorem FreshI.between {lo hi : Nat} {W W' : World} {qo : Option Addr} {qc : Nat} {q : List Int} (h : FreshI lo hi W qo qc q) (hb : OnlyAt (eff qo q.length) W W') : Between lo hi W W' := by
  refine ⟨hb.os, hb.tape, hb.output, by rw [hb.size]; exact Nat.le_refl _, fun k _ hr => hb.block k fun g e => ?_⟩
  rcases h with rfl | ⟨g2, e2, hg, ho⟩
  · simp [eff] at e
  · unfold eff at e
    split at e
    · cases e
    · rw [e2] at e; simp at e; subst e
      have := (owns_lt ho).1
      omega

end Go.Proofs.Ytgbnbnjfaffaiaa.Old
