
/- The laws' marks upon clocks in memory of their own. No conditions but those written. -/
import Derived.Test.YtpbgkkemaioidaaOCd
namespace Go.Proofs.Ytpbgkkemaioidaa.Old
open Go.RowKit

/-- Nothing that was there has turned but for the block to which ao leads. -/
structure OnlyAt (ao : Option Addr) (w w' : World) : Prop where
  os : w'.os = w.os
  tape : w'.tape = w.tape
  output : w'.output = w.output
  size : w'.heap.size = w.heap.size
  block : ∀ k, (∀ g, ao = some ⟨g, 0, none⟩ → k ≠ g) → w'.heap[k]? = w.heap[k]?
theorem OnlyAt.refl (ao : Option Addr) (w : World) : OnlyAt ao w w := ⟨rfl, rfl, rfl, rfl, fun _ _ => rfl⟩
theorem OnlyAt.trans {ao : Option Addr} {a b c : World} (h : OnlyAt ao a b) (k : OnlyAt ao b c) : OnlyAt ao a c :=
  ⟨k.os.trans h.os, k.tape.trans h.tape, k.output.trans h.output, k.size.trans h.size, fun i hi => (k.block i hi).trans (h.block i hi)⟩
theorem OnlyAt.set (g o : Nat) (w : World) (u : Value) : OnlyAt (some ⟨g, 0, none⟩) w (w.setCell ⟨g, o, none⟩ u) :=
  ⟨rfl, rfl, rfl, by simp [World.setCell], fun k hk => Below.heap_setCell _ _ _ _ (hk g rfl)⟩

/-- Outside the blocks from lo to hi nothing that was there has turned. -/
structure Between (lo hi : Nat) (w w' : World) : Prop where
  os : w'.os = w.os
  tape : w'.tape = w.tape
  output : w'.output = w.output
  size : w.heap.size ≤ w'.heap.size
  block : ∀ k, k < w.heap.size → (k < lo ∨ hi ≤ k) → w'.heap[k]? = w.heap[k]?
theorem Between.below {lo hi : Nat} {w w' : World} (h : Between lo hi w w') (hl : lo ≤ w.heap.size) : Below lo w w' :=
  ⟨h.os, h.tape, h.output, h.size, fun k hk => h.block k (by omega) (.inl hk)⟩
theorem Between.trans {lo hi : Nat} {a b c : World} (h : Between lo hi a b) (k : Between lo hi b c) : Between lo hi a c :=
  ⟨k.os.trans h.os, k.tape.trans h.tape, k.output.trans h.output, Nat.le_trans h.size k.size, fun i hi hr => (k.block i (Nat.lt_of_lt_of_le hi h.size) hr).trans (h.block i hi hr)⟩
theorem Between.of_below {lo hi : Nat} {w w' : World} (h : Below w.heap.size w w') : Between lo hi w w' :=
  ⟨h.os, h.tape, h.output, h.size, fun k hk _ => h.block k hk⟩

/-- The address of a row, none where it has no element. -/
def eff (ao : Option Addr) (n : Nat) : Option Addr := if n = 0 then none else ao
theorem eff_pos {ao : Option Addr} {n : Nat} (h : 0 < n) : eff ao n = ao := by unfold eff; rw [if_neg (by omega)]
theorem FreshC.between {lo hi : Nat} {W W' : World} {to : Option Addr} {tc : Nat} {ts : List T3} (h : FreshC lo hi W to tc ts) (hb : OnlyAt (eff to ts.length) W W') : Between lo hi W W' := by
  refine ⟨hb.os, hb.tape, hb.output, by rw [hb.size]; exact Nat.le_refl _, fun k _ hr => hb.block k fun g e => ?_⟩
  rcases h with rfl | ⟨g2, xs, e2, hg, ho, _⟩
  · simp [eff] at e
  · unfold eff at e
    split at e
    · cases e
    · rw [e2] at e; simp at e; subst e
      have := (owns_lt ho).1
      omega
theorem FreshC.between' {lo hi lo' hi' : Nat} {W W' : World} {to : Option Addr} {tc : Nat} {ts : List T3} (h : FreshC lo hi W to tc ts) (hb : Between lo' hi' W W') (hd : hi ≤ lo' ∨ hi' ≤ lo) : FreshC lo hi W' to tc ts :=
  h.keep fun k h1 h2 h3 => hb.block k h3 (by omega)

def markC (k : Int) (n : Nat) : List T3 := (List.range n).map (fun i : Nat => (k + 3 * (i : Int), k + 3 * (i : Int) + 1, k + 3 * (i : Int) + 2))
theorem markC_len (k : Int) (n : Nat) : (markC k n).length = n := by simp [markC]
theorem markC_at (k : Int) (n j : Nat) (h : j < n) : t3 (markC k n) j = (k + 3 * (j : Int), k + 3 * (j : Int) + 1, k + 3 * (j : Int) + 2) := by simp [markC, t3, h]

end Go.Proofs.Ytpbgkkemaioidaa.Old
