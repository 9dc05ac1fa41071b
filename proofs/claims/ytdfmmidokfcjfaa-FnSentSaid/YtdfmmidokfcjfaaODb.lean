
/- The laws' marks of channels and comparisons of those that are woken; NewChan. No conditions but those written. -/
import Derived.Test.YtdfmmidokfcjfaaODa
namespace Go.Proofs.Ytdfmmidokfcjfaa.Old
open Go.RowKit

theorem offIC {lo hi lo' hi' : Nat} {W : World} {ao bo : Option Addr} {ac bc : Nat} {q : List Int} {ts : List T3} (h : FreshI lo hi W ao ac q) (h' : FreshC lo' hi' W bo bc ts) : Off ao q.length bo ts.length := h.rowAt.off h'.rowAt (by decide)
theorem offIK {lo hi lo' hi' : Nat} {W : World} {ao bo : Option Addr} {ac bc : Nat} {q : List Int} {ts : List T4} (h : FreshI lo hi W ao ac q) (h' : FreshK lo' hi' W bo bc ts) : Off ao q.length bo ts.length := h.rowAt.off h'.rowAt (by decide)
theorem offCK {lo hi lo' hi' : Nat} {W : World} {ao bo : Option Addr} {ac bc : Nat} {q : List T3} {ts : List T4} (h : FreshC lo hi W ao ac q) (h' : FreshK lo' hi' W bo bc ts) : Off ao q.length bo ts.length := h.rowAt.off h'.rowAt (by decide)

theorem offIC' {lo hi lo' hi' : Nat} {W : World} {ao bo : Option Addr} {ac bc : Nat} {q : List Int} {ts : List T3} (h : FreshI lo hi W ao ac q) (h' : FreshC lo' hi' W bo bc ts) : Off ao q.length bo ts.length := offIC h h'
theorem FreshI.notNew {lo hi : Nat} {W : World} {qo : Option Addr} {qc : Nat} {q : List Int} (h : FreshI lo hi W qo qc q) {g : Nat} (e : eff qo q.length = some ⟨g, 0, none⟩) : W.heap.size ≠ g := by
  rcases h with ⟨rfl, _⟩ | ⟨g2, e2, hg, ho⟩
  · simp [eff] at e
  · unfold eff at e
    split at e
    · cases e
    · rw [e2] at e; simp at e; subst e
      have := (owns_lt ho).2; omega
theorem FreshC.notNew {lo hi : Nat} {W : World} {qo : Option Addr} {qc : Nat} {q : List T3} (h : FreshC lo hi W qo qc q) {g : Nat} (e : eff qo q.length = some ⟨g, 0, none⟩) : W.heap.size ≠ g := by
  rcases h with ⟨rfl, _⟩ | ⟨g2, _, e2, hg, ho, _⟩
  · simp [eff] at e
  · unfold eff at e
    split at e
    · cases e
    · rw [e2] at e; simp at e; subst e
      have := (owns_lt ho).2; omega
theorem Box5.only {W W' : World} {p : Nat} {u0 u1 u2 u3 u4 : Value} {ao : Option Addr} (h : Box5 W p u0 u1 u2 u3 u4) (hb : OnlyAt ao W W') (hp : ∀ g, ao = some ⟨g, 0, none⟩ → p ≠ g) : Box5 W' p u0 u1 u2 u3 u4 := by
  have hs : SameAt p W W' := hb.block p hp
  exact ⟨by rw [hb.size]; exact h.1, (hs.cell _).trans h.2.1, (hs.cell _).trans h.2.2.1, (hs.cell _).trans h.2.2.2.1, (hs.cell _).trans h.2.2.2.2.1, (hs.cell _).trans h.2.2.2.2.2⟩

end Go.Proofs.Ytdfmmidokfcjfaa.Old
