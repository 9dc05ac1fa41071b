
/- Boxes: blocks of a struct's cells. No conditions but those written. -/
import Derived.Test.YtimkadnnhfllnaaGen
namespace Go.Proofs.Ytimkadnnhfllnaa
open Go.RowKit

theorem hid {p : Prop} (h : p) : Hid p := h
/-- At p lies a block with the cells us, that may be written. -/
def Bx (W : World) (p : Nat) (us : List Value) : Prop := p < W.heap.size ∧ ∀ i v, us[i]? = some v → W.cell? ⟨p, i, none⟩ = some v ∧ W.frozen? ⟨p, i, none⟩ = false
theorem Bx.new {w : World} {p : Nat} (us : List Value) (t : TypeId) (hp : w.heap.size = p) : Bx (w.alloc (.cells us.toArray t)) p us := by
  subst hp
  refine ⟨by simp, fun i v h => ⟨?_, by simp [go_sem]⟩⟩
  rw [World.cell?_alloc_at (hn := rfl)]
  simpa using h
theorem Bx.c {W : World} {p : Nat} {us : List Value} (h : Bx W p us) (i : Nat) {v : Value} (e : us[i]? = some v) : W.cell? ⟨p, i, none⟩ = some v := (h.2 i v e).1
theorem Bx.f {W : World} {p : Nat} {us : List Value} (h : Bx W p us) (i : Nat) {v : Value} (e : us[i]? = some v) : W.frozen? ⟨p, i, none⟩ = false := (h.2 i v e).2
theorem Bx.keep {W W' : World} {p : Nat} {us : List Value} (h : Bx W p us) (hs : W.heap.size ≤ W'.heap.size) (hb : W'.heap[p]? = W.heap[p]?) : Bx W' p us :=
  ⟨Nat.lt_of_lt_of_le h.1 hs, fun i v e => ⟨(World.cell?_of_block (a := ⟨p, i, none⟩) hb).trans (h.2 i v e).1, (World.frozen?_of_block (a := ⟨p, i, none⟩) hb).trans (h.2 i v e).2⟩⟩
theorem Bx.later {W W' : World} {p : Nat} {us : List Value} (h : Bx W p us) (hb : Below W.heap.size W W') : Bx W' p us := h.keep hb.size (hb.block p h.1)
theorem Bx.below {n : Nat} {W W' : World} {p : Nat} {us : List Value} (h : Bx W p us) (hb : Below n W W') (hp : p < n) : Bx W' p us := h.keep hb.size (hb.block p hp)
theorem Bx.between {lo hi : Nat} {W W' : World} {p : Nat} {us : List Value} (h : Bx W p us) (hb : Between lo hi W W') (hp : p < lo ∨ hi ≤ p) : Bx W' p us := h.keep hb.size (hb.block p h.1 hp)
theorem Bx.only {ao : Option Addr} {W W' : World} {p : Nat} {us : List Value} (h : Bx W p us) (hb : OnlyAt ao W W') (hp : ∀ g, ao = some ⟨g, 0, none⟩ → p ≠ g) : Bx W' p us := h.keep (by rw [hb.size]; exact Nat.le_refl _) (hb.block p hp)
theorem Bx.alloc {W : World} {p : Nat} {us : List Value} (h : Bx W p us) (o : Obj) : Bx (W.alloc o) p us := h.later (below1 W o)
theorem Bx.drew {W : World} {p : Nat} {us : List Value} (h : Bx W p us) : Bx W.drew p us := h
theorem Bx.other {W : World} {p : Nat} {us : List Value} (h : Bx W p us) {a : Addr} (ha : a.block ≠ p) (u : Value) : Bx (W.setCell a u) p us :=
  h.keep (by simp [World.setCell]) (Below.heap_setCell W a u p (fun e => ha e.symm))
theorem Bx.set {W : World} {p : Nat} {us : List Value} (h : Bx W p us) (i : Nat) (u : Value) : Bx (W.setCell ⟨p, i, none⟩ u) p (us.set i u) := by
  refine ⟨by simpa using h.1, fun j v e => ?_⟩
  rw [List.getElem?_set] at e
  rw [World.frozen?_setCell]
  split at e
  · rename_i hij
    subst hij
    split at e
    · rename_i hlt
      cases e
      have hq : us[i]? = some us[i] := by simp [hlt]
      exact ⟨World.cell?_setCell_same' _ _ _ (by rw [h.c i hq]; rfl), h.f i hq⟩
    · cases e
  · rename_i hij
    exact ⟨by rw [World.cell?_setCell_other _ _ _ _ (by simp)]; exact h.c j e, h.f j e⟩
theorem Bx.size {W : World} {p : Nat} {us : List Value} (h : Bx W p us) : p < W.heap.size := h.1
end Go.Proofs.Ytimkadnnhfllnaa
