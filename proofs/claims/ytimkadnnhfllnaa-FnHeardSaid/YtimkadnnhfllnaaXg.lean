
/- The draws' cursor: a waiter. No conditions but those written. -/
import Derived.Test.YtimkadnnhfllnaaXb
namespace Go.Proofs.Ytimkadnnhfllnaa
open Go.RowKit

/-- Nothing that was there has turned but for the block p. -/
structure Grew (p : Nat) (w w' : World) : Prop where
  os : w'.os = w.os
  tape : w'.tape = w.tape
  output : w'.output = w.output
  size : w.heap.size ≤ w'.heap.size
  block : ∀ j, j < w.heap.size → j ≠ p → w'.heap[j]? = w.heap[j]?
theorem Grew.refl (p : Nat) (w : World) : Grew p w w := ⟨rfl, rfl, rfl, Nat.le_refl _, fun _ _ _ => rfl⟩
theorem Grew.trans {p : Nat} {a b c : World} (h : Grew p a b) (k : Grew p b c) : Grew p a c := ⟨k.os.trans h.os, k.tape.trans h.tape, k.output.trans h.output, Nat.le_trans h.size k.size, fun j hj hp => (k.block j (Nat.lt_of_lt_of_le hj h.size) hp).trans (h.block j hj hp)⟩
theorem Grew.of_only {p : Nat} {w w' : World} (h : OnlyAt (some ⟨p, 0, none⟩) w w') : Grew p w w' := ⟨h.os, h.tape, h.output, by rw [h.size]; exact Nat.le_refl _, fun j _ hp => h.block j fun g e => by cases e; exact hp⟩
theorem Grew.of_below {p : Nat} {w w' : World} (h : Below w.heap.size w w') : Grew p w w' := ⟨h.os, h.tape, h.output, h.size, fun j hj _ => h.block j hj⟩
theorem Grew.alloc (p : Nat) (w : World) (o : Obj) : Grew p w (w.alloc o) := .of_below (below1 w o)
theorem Grew.set {p : Nat} {w w' : World} (h : Grew p w w') {a : Addr} (ha : w.heap.size ≤ a.block) (u : Value) : Grew p w (w'.setCell a u) := ⟨h.os, h.tape, h.output, by simpa [World.setCell] using h.size, fun j hj hp => (Below.heap_setCell w' a u j (by omega)).trans (h.block j hj hp)⟩
theorem Cur.keep {W W' : World} {p : Nat} {co : Option Addr} {cap : Nat} {bs : List Int} {k : Nat} {sd : Int} (h : Cur W p co cap bs k sd) (hs : W.heap.size ≤ W'.heap.size) (hb : ∀ j, j ≤ p → W'.heap[j]? = W.heap[j]?) : Cur W' p co cap bs k sd := by
  obtain ⟨hp, ⟨c0, c1, c2⟩, ⟨f0, f1, f2⟩, hB⟩ := h
  have hc : ∀ i, W'.cell? ⟨p, i, none⟩ = W.cell? ⟨p, i, none⟩ := fun i => World.cell?_of_block (a := ⟨p, i, none⟩) (hb p (Nat.le_refl _))
  have hf : ∀ i, W'.frozen? ⟨p, i, none⟩ = W.frozen? ⟨p, i, none⟩ := fun i => World.frozen?_of_block (a := ⟨p, i, none⟩) (hb p (Nat.le_refl _))
  refine ⟨Nat.lt_of_lt_of_le hp hs, ⟨(hc 0).trans c0, (hc 1).trans c1, (hc 2).trans c2⟩, ⟨(hf 0).trans f0, (hf 1).trans f1, (hf 2).trans f2⟩, ?_⟩
  rcases hB with hB | ⟨b, off, e, hbp, hc⟩
  · exact .inl hB
  · exact .inr ⟨b, off, e, hbp, fun j hj => ⟨(World.cell?_of_block (a := ⟨b, off + j, none⟩) (hb b (by omega))).trans (hc j hj).1, (hc j hj).2⟩⟩
theorem Cur.later {W W' : World} {p : Nat} {co : Option Addr} {cap : Nat} {bs : List Int} {k : Nat} {sd : Int} (h : Cur W p co cap bs k sd) (hb : Below W.heap.size W W') : Cur W' p co cap bs k sd := h.keep hb.size fun j hj => hb.block j (by have := h.1; omega)
theorem Cur.other {W : World} {p : Nat} {co : Option Addr} {cap : Nat} {bs : List Int} {k : Nat} {sd : Int} (h : Cur W p co cap bs k sd) {a : Addr} (ha : p < a.block) (u : Value) : Cur (W.setCell a u) p co cap bs k sd := h.keep (by simp [World.setCell]) fun j hj => Below.heap_setCell W a u j (by omega)
/-- What a draw leaves that makes memory. -/
def DrawnG (w : World) (p : Nat) (co : Option Addr) (cap : Nat) (bs : List Int) (k d : Nat) (w' : World) : Prop := ∃ k' sd', k' ≤ k + d ∧ Cur w' p co cap bs k' sd' ∧ Grew p w w'
theorem Bx.grew {W W' : World} {q p : Nat} {us : List Value} (h : Bx W q us) (hg : Grew p W W') (hne : q ≠ p) : Bx W' q us := h.keep hg.size (hg.block q h.1 hne)
theorem Kind.Own.grew {α : Type} {K : Kind α} {lo p : Nat} {W W' : World} {v : Value} {xs : List α} (h : K.Own lo W v xs) (hg : Grew p W W') (hp : p < lo) : K.Own lo W' v xs := h.keep fun k hk hs => hg.block k hs (by omega)
theorem Grew.below {p B : Nat} {w w' : World} (h : Grew p w w') (hp : B ≤ p) (hB : B ≤ w.heap.size) : Below B w w' := ⟨h.os, h.tape, h.output, h.size, fun k hk => h.block k (by omega) (by omega)⟩
theorem Grew.drew {p : Nat} {w w' : World} (h : Grew p w w') : Grew p w w'.drew := ⟨h.os, h.tape, h.output, h.size, h.block⟩
theorem Grew.from {p : Nat} {w w' : World} (h : Grew p w.drew w') : Grew p w w' := ⟨h.os, h.tape, h.output, h.size, h.block⟩
theorem Cur.drew {W : World} {p : Nat} {co : Option Addr} {cap : Nat} {bs : List Int} {k : Nat} {sd : Int} (h : Cur W p co cap bs k sd) : Cur W.drew p co cap bs k sd := h
theorem Drawn.grew {w w' : World} {p : Nat} {co : Option Addr} {cap : Nat} {bs : List Int} {k d : Nat} (h : Drawn w p co cap bs k d w') : ∃ k' sd', k' ≤ k + d ∧ Cur w' p co cap bs k' sd' ∧ Grew p w w' ∧ w'.heap.size = w.heap.size := by
  obtain ⟨k', sd', h1, h2, h3⟩ := h
  exact ⟨k', sd', h1, h2, .of_only h3, h3.size⟩
end Go.Proofs.Ytimkadnnhfllnaa
