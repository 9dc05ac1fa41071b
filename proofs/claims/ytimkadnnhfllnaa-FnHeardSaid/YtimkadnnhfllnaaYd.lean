
/- Heads written; a Sub put anew. No conditions but those written. -/
import Derived.Test.YtimkadnnhfllnaaYb
import Derived.Deep.Cut
namespace Go.Proofs.Ytimkadnnhfllnaa
open Go.RowKit

theorem hSub_setd {us : List LSub} {k : Nat} (hk : k < us.length) (d : Int) :
    (hSub.flat us).set (k * 5 + 3) (.int .i64 d) = hSub.flat (us.set k ((el us k).1, (el us k).2.1, (el us k).2.2.1, d, (el us k).2.2.2.2)) := by
  have hlen : (hSub.flat us).length = us.length * 5 := hSub.flat_len us
  refine hSub.flat_of _ _ (by simp [hlen]; rfl) fun j hj q hq => ?_
  have hj' : j < us.length := by simpa using hj
  have hq' : q < 5 := hq
  have hsz : hSub.sz = 5 := rfl
  have hold := hSub.flat_at us j hj' q hq
  rw [hsz] at hold ⊢
  by_cases e : j = k
  · subst e
    rw [el_set_same hj']
    rcases (show q = 0 ∨ q = 1 ∨ q = 2 ∨ q = 3 ∨ q = 4 from by omega) with rfl | rfl | rfl | rfl | rfl
    · rw [set_far (by omega), hold]; rfl
    · rw [set_far (by omega), hold]; rfl
    · rw [set_far (by omega), hold]; rfl
    · rw [set_at (by omega)]; rfl
    · rw [set_far (by omega), hold]; rfl
  · rw [el_set_other e, set_far (by omega), hold]
theorem head_q {lo hi : Nat} {W : World} {g c : Nat} {us : List LSub} (h : hSub.Fresh lo hi W (some ⟨g, 0, none⟩) c us) {k : Nat} (hk : k < us.length) {nd kap dp : Int} {dr : Bool} {x : Option Addr × Nat × List Int} (he : el us k = (nd, kap, dr, dp, x)) (go : Option Addr) (qc : Nat) (r : List Int) : hSub.Fresh lo hi (W.setCell ⟨g, k * 5 + 4, none⟩ (.slice go r.length qc)) (some ⟨g, 0, none⟩) c (us.set k (nd, kap, dr, dp, (go, qc, r))) := by
  obtain ⟨g2, e2, hg1, hg2, hg3, ho⟩ := h.at (show 0 < us.length by omega)
  simp at e2; subst e2
  have hs := (World.ownsRow.stored ho (k * 5 + 4) (.slice go r.length qc)).1
  rw [hSub_set1 hk, he] at hs
  refine .inr ⟨g, rfl, hg2, ?_⟩
  simpa using hs
theorem head_d {lo hi : Nat} {W : World} {g c : Nat} {us : List LSub} (h : hSub.Fresh lo hi W (some ⟨g, 0, none⟩) c us) {k : Nat} (hk : k < us.length) {nd kap dp : Int} {dr : Bool} {x : Option Addr × Nat × List Int} (he : el us k = (nd, kap, dr, dp, x)) (d : Int) : hSub.Fresh lo hi (W.setCell ⟨g, k * 5 + 3, none⟩ (.int .i64 d)) (some ⟨g, 0, none⟩) c (us.set k (nd, kap, dr, d, x)) := by
  obtain ⟨g2, e2, hg1, hg2, hg3, ho⟩ := h.at (show 0 < us.length by omega)
  simp at e2; subst e2
  have hs := (World.ownsRow.stored ho (k * 5 + 3) (.int .i64 d)).1
  rw [hSub_setd hk, he] at hs
  refine .inr ⟨g, rfl, hg2, ?_⟩
  simpa using hs
theorem head_at {lo hi : Nat} {W : World} {g c : Nat} {us : List LSub} (h1 : hSub.Fresh lo hi W (some ⟨g, 0, none⟩) c us) {i : Nat} (hi' : i < us.length) {nd kap dp : Int} {dr : Bool} {qo : Option Addr} {qc : Nat} {q : List Int} (he : el us i = (nd, kap, dr, dp, (qo, qc, q))) :
    (W.cell? ⟨g, i * 5, none⟩ = some (.int .i64 nd) ∧ W.cell? ⟨g, i * 5 + 1, none⟩ = some (.int .i64 kap) ∧ W.cell? ⟨g, i * 5 + 2, none⟩ = some (.bool dr) ∧ W.cell? ⟨g, i * 5 + 3, none⟩ = some (.int .i64 dp) ∧ W.cell? ⟨g, i * 5 + 4, none⟩ = some (.slice qo q.length qc)) ∧ (∀ q, W.frozen? ⟨g, i * 5 + q, none⟩ = false) ∧ lo ≤ g ∧ g < hi ∧ g < W.heap.size := by
  obtain ⟨g2, e2, hg1, hg2, hg3, ho⟩ := h1.at (show 0 < us.length by omega)
  simp at e2; subst e2
  obtain ⟨b0, off, eb, _, hc⟩ := hSub_at h1.in hi'
  obtain ⟨rfl, rfl⟩ : b0 = g ∧ off = 0 := by simp at eb; exact ⟨eb.1.symm, eb.2.symm⟩
  have hc' := hc i hi'
  simp only [Nat.zero_add] at hc'
  rw [he] at hc'
  exact ⟨hc', fun q => ho.frozenAt (i * 5 + q), hg1, hg2, hg3⟩
/-- The blocks of the queues are as they were. -/
def KeptQ (us : List LSub) (W W' : World) : Prop := ∀ j, j < us.length → ∀ b, dSub.own (el us j) b → W'.heap[b]? = W.heap[b]?
theorem KeptQ.refl (us : List LSub) (W : World) : KeptQ us W W := fun _ _ _ _ => rfl
theorem KeptQ.set {lo hi : Nat} {W W' : World} {g c : Nat} {us : List LSub} (h : KeptQ us W W') (hD : DFr dSub lo hi W (some ⟨g, 0, none⟩) c us) (i : Nat) (u : Value) : KeptQ us W (W'.setCell ⟨g, i, none⟩ u) := fun j hj b hb => by
  rw [Below.heap_setCell _ _ _ _ (show b ≠ g from fun e => hD.head dSub_ok hj (b := b) hb ⟨by omega, by rw [e]⟩)]
  exact h j hj b hb
theorem KeptQ.below {lo hi : Nat} {W W' W2 : World} {o : Option Addr} {c : Nat} {us : List LSub} (h : KeptQ us W W') (hD : DFr dSub lo hi W o c us) (hs : W.heap.size ≤ W'.heap.size) (hb2 : Below W'.heap.size W' W2) : KeptQ us W W2 := fun j hj b hb => by
  have := (dSub_ok.lt (hD.2.1 j hj) hb).2.2.1
  rw [hb2.block b (by omega)]
  exact h j hj b hb
theorem KeptQ.grown {lo hi : Nat} {W W' W2 : World} {o : Option Addr} {c : Nat} {us : List LSub} {l : Value} (h : KeptQ us W W') (hD : DFr dSub lo hi W o c us) (hs : W.heap.size ≤ W'.heap.size) (hg : W'.grownBy W2 l.ownBlock) (hA : PubA l us) : KeptQ us W W2 := fun j hj b hb => by
  have := (dSub_ok.lt (hD.2.1 j hj) hb).2.2.1
  rw [hg.block b (by omega) fun e => hA b e.symm j hj hb]
  exact h j hj b hb
theorem DFr.newK {lo hi hi2 : Nat} {W W' : World} {g c : Nat} {us : List LSub} (h : DFr dSub lo hi W (some ⟨g, 0, none⟩) c us) {k : Nat} (hk : k < us.length) {a : LSub} (hH : hSub.Fresh lo hi W' (some ⟨g, 0, none⟩) c (us.set k a)) (hF : kI.Fresh hi hi2 W' a.2.2.2.2.1 a.2.2.2.2.2.1 a.2.2.2.2.2.2) (hh : hi ≤ hi2) (hlo : lo ≤ hi) (hb : KeptQ us W W') : DFr dSub lo hi2 W' (some ⟨g, 0, none⟩) c (us.set k a) := by
  have own_lt : ∀ j, j < us.length → ∀ b, dSub.own (el us j) b → b < hi := fun j hj b hb => (dSub_ok.lt (h.2.1 j hj) hb).2.1
  have new_ge : ∀ b, dSub.own a b → hi ≤ b := fun b hb => (Kind.Fresh.lt hF hb).1
  refine ⟨hH.wide (Nat.le_refl _) hh, fun j hj => ?_, fun i j hij hj b h1 h2 => ?_⟩
  · have hj' : j < us.length := by simpa using hj
    by_cases e : j = k
    · subst e; rw [el_set_same hk]; exact Kind.Fresh.wide hF hlo (Nat.le_refl _)
    · rw [el_set_other e]
      exact dSub_ok.wide (dSub_ok.keep (h.2.1 j hj') fun b hob => hb j hj' b hob) (Nat.le_refl _) hh
  · have hj' : j < us.length := by simpa using hj
    by_cases e1 : i = k
    · subst e1
      rw [el_set_same hk] at h1
      rw [el_set_other (by omega)] at h2
      have := new_ge b h1
      have := own_lt j hj' b h2
      omega
    · rw [el_set_other e1] at h1
      by_cases e2 : j = k
      · subst e2
        rw [el_set_same hk] at h2
        have := new_ge b h2
        have := own_lt i (by omega) b h1
        omega
      · rw [el_set_other e2] at h2
        exact h.2.2 i j hij hj' b h1 h2
end Go.Proofs.Ytimkadnnhfllnaa
