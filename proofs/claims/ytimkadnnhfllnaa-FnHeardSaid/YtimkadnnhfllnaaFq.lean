
/- Rows that are new and their own, also where they are empty. No conditions but those written. -/
import Derived.Test.YtimkadnnhfllnaaIa
import Derived.Test.YtimkadnnhfllnaaAo
namespace Go.Proofs.Ytimkadnnhfllnaa
open Go.RowKit

section
variable {α : Type} {K : Kind α}
/-- A new row that is its own besides. -/
def Kind.FrO (K : Kind α) (lo hi : Nat) (W : World) (to : Option Addr) (tc : Nat) (xs : List α) : Prop := K.Fresh lo hi W to tc xs ∧ K.Own lo W (.slice to xs.length tc) xs
theorem own_less {lo lo' : Nat} {W : World} {v : Value} {xs : List α} (h : K.Own lo W v xs) (hl : lo' ≤ lo) : K.Own lo' W v xs := by
  obtain ⟨h1, h2⟩ := h
  refine ⟨h1, ?_⟩
  rcases h2 with h2 | ⟨g, cap, cur, hv, hg, r⟩
  · exact .inl h2
  · exact .inr ⟨g, cap, cur, hv, Nat.le_trans hl hg, r⟩
theorem Kind.FrO.nil {lo hi : Nat} {W : World} : K.FrO lo hi W none 0 [] := ⟨.inl rfl, Kind.Own.nil _ _ _⟩
theorem Kind.FrO.in [Inhabited α] {lo hi : Nat} {W : World} {to : Option Addr} {tc : Nat} {xs : List α} (h : K.FrO lo hi W to tc xs) : K.In W.heap.size W to xs := h.1.in
theorem Kind.FrO.cap {lo hi : Nat} {W : World} {to : Option Addr} {tc : Nat} {xs : List α} (h : K.FrO lo hi W to tc xs) : xs.length ≤ tc := h.1.cap
theorem Kind.FrO.later {lo hi : Nat} {W W' : World} {to : Option Addr} {tc : Nat} {xs : List α} (h : K.FrO lo hi W to tc xs) (hb : Below W.heap.size W W') : K.FrO lo hi W' to tc xs := ⟨h.1.later hb, h.2.below hb⟩
theorem Kind.FrO.wide {lo hi lo' hi' : Nat} {W : World} {to : Option Addr} {tc : Nat} {xs : List α} (h : K.FrO lo hi W to tc xs) (h1 : lo' ≤ lo) (h2 : hi ≤ hi') : K.FrO lo' hi' W to tc xs := ⟨h.1.wide h1 h2, own_less h.2 h1⟩
theorem Kind.FrO.setBelow {lo hi : Nat} {W : World} {to : Option Addr} {tc : Nat} {xs : List α} (h : K.FrO lo hi W to tc xs) {a : Addr} (ha : a.block < lo) (u : Value) : K.FrO lo hi (W.setCell a u) to tc xs := ⟨h.1.setBelow ha u, h.2.setBelow ha u⟩
theorem Kind.Own.someO {lo : Nat} {W : World} {v : Value} {xs : List α} (h : K.Own lo W v xs) (hv : v ≠ .slice none 0 0) : ∃ g c, v = .slice (Option.some ⟨g, 0, none⟩) xs.length c ∧ K.FrO lo W.heap.size W (Option.some ⟨g, 0, none⟩) c xs := by
  obtain ⟨g, c, e, hF⟩ := h.some hv
  exact ⟨g, c, e, hF, by rw [← e]; exact h⟩
/-- A new row that is not empty is its own. -/
theorem Kind.Fresh.own {lo hi : Nat} {W : World} {to : Option Addr} {tc : Nat} {xs : List α} (h : K.Fresh lo hi W to tc xs) (hn : 0 < xs.length) : K.Own lo W (.slice to xs.length tc) xs := by
  obtain ⟨g, e, _, _, _, ho⟩ := h.at hn
  subst e; exact ho
end
end Go.Proofs.Ytimkadnnhfllnaa
