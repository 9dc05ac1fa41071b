
/- Boxes that grow out of draws. No conditions but those written. -/
import Derived.Test.YtnnlbnbamhkcaaaOb
import Derived.Test.YtnnlbnbamhkcaaaOc
import Derived.Test.YtnnlbnbamhkcaaaOd
import Derived.Test.YtnnlbnbamhkcaaaXg
namespace Go.Proofs.Ytnnlbnbamhkcaaa
open Go.RowKit

/-- A box's rows, nil or each a row of its own, in blocks from lo on and before hi. -/
def WB (lo hi : Nat) (W : World) (bo : Option Addr) (bc : Nat) (b : List Int) (so : Option Addr) (sc : Nat) (s : List (Int × Int × Int)) (ro : Option Addr) (rc : Nat) (r : List (Int × Int × Int)) : Prop :=
  WBox lo W (.slice bo b.length bc) b (.slice so s.length sc) s (.slice ro r.length rc) r ∧ (∀ g o, bo = some ⟨g, o, none⟩ → g < hi) ∧ (∀ g o, so = some ⟨g, o, none⟩ → g < hi) ∧ (∀ g o, ro = some ⟨g, o, none⟩ → g < hi)
theorem own_keep2 {α : Type} {K : Kind α} {lo hi : Nat} {W W' : World} {ao : Option Addr} {n c : Nat} {xs : List α} (h : K.Own lo W (.slice ao n c) xs) (hh : ∀ g o, ao = some ⟨g, o, none⟩ → g < hi) (hk : ∀ k, lo ≤ k → k < hi → k < W.heap.size → W'.heap[k]? = W.heap[k]?) : K.Own lo W' (.slice ao n c) xs := by
  obtain ⟨h1, h2⟩ := h
  refine ⟨h1, ?_⟩
  rcases h2 with h2 | ⟨g, cap, cur, hv, hg, hb, r⟩
  · exact .inl h2
  · have e : ao = some ⟨g, 0, none⟩ := by simp at hv; exact hv.1
    exact .inr ⟨g, cap, cur, hv, hg, by rw [hk g hg (hh g 0 e) (Array.getElem?_eq_some_iff.1 hb).1]; exact hb, r⟩
theorem own_hi {α : Type} {K : Kind α} {lo : Nat} {W : World} {ao : Option Addr} {n c : Nat} {xs : List α} (h : K.Own lo W (.slice ao n c) xs) : ∀ g o, ao = some ⟨g, o, none⟩ → g < W.heap.size := by
  intro g o e
  rcases h.2 with ⟨hv, _⟩ | ⟨g', cap, cur, hv, _, hb, _⟩
  · simp at hv; rw [e] at hv; simp at hv
  · simp at hv; rw [e] at hv; simp at hv
    obtain ⟨⟨rfl, _⟩, _⟩ := hv
    exact (Array.getElem?_eq_some_iff.1 hb).1
section
variable {lo hi : Nat} {W W' : World} {bo : Option Addr} {bc : Nat} {b : List Int} {so : Option Addr} {sc : Nat} {s : List (Int × Int × Int)} {ro : Option Addr} {rc : Nat} {r : List (Int × Int × Int)}
theorem WB.keep (h : WB lo hi W bo bc b so sc s ro rc r) (hk : ∀ k, lo ≤ k → k < hi → k < W.heap.size → W'.heap[k]? = W.heap[k]?) : WB lo hi W' bo bc b so sc s ro rc r :=
  ⟨⟨own_keep2 h.1.1 h.2.1 hk, own_keep2 h.1.2.1 h.2.2.1 hk, own_keep2 h.1.2.2.1 h.2.2.2 hk, h.1.2.2.2⟩, h.2⟩
theorem WB.later (h : WB lo hi W bo bc b so sc s ro rc r) (hb : Below W.heap.size W W') : WB lo hi W' bo bc b so sc s ro rc r := h.keep fun k _ _ hk => hb.block k hk
theorem WB.grew {p : Nat} (h : WB lo hi W bo bc b so sc s ro rc r) (hg : Grew p W W') (hp : p < lo) : WB lo hi W' bo bc b so sc s ro rc r := h.keep fun k h1 _ hk => hg.block k hk (by omega)
theorem WB.setOff (h : WB lo hi W bo bc b so sc s ro rc r) {a : Addr} (ha : a.block < lo ∨ hi ≤ a.block) (u : Value) : WB lo hi (W.setCell a u) bo bc b so sc s ro rc r := h.keep fun k h1 h2 _ => Below.heap_setCell W a u k (by omega)
theorem WB.wide {lo' hi' : Nat} (h : WB lo hi W bo bc b so sc s ro rc r) (h1 : lo' ≤ lo) (h2 : hi ≤ hi') : WB lo' hi' W bo bc b so sc s ro rc r := ⟨h.1.low h1, fun g o e => Nat.lt_of_lt_of_le (h.2.1 g o e) h2, fun g o e => Nat.lt_of_lt_of_le (h.2.2.1 g o e) h2, fun g o e => Nat.lt_of_lt_of_le (h.2.2.2 g o e) h2⟩
theorem WB.of (h : WBox lo W (.slice bo b.length bc) b (.slice so s.length sc) s (.slice ro r.length rc) r) : WB lo W.heap.size W bo bc b so sc s ro rc r := ⟨h, own_hi h.1, own_hi h.2.1, own_hi h.2.2.1⟩
theorem WB.all (h : WB lo hi W bo bc b so sc s ro rc r) : WfBox bo bc so sc ro rc ∧ InBox W.heap.size W bo b so s ro r := by
  obtain ⟨bo', bc', so', sc', ro', rc', e1, e2, e3, hw, hi⟩ := h.1.in
  simp at e1 e2 e3
  obtain ⟨rfl, rfl⟩ := e1
  obtain ⟨rfl, rfl⟩ := e2
  obtain ⟨rfl, rfl⟩ := e3
  exact ⟨hw, hi⟩
end
theorem wB_nil (lo hi : Nat) (W : World) : WB lo hi W none 0 [] none 0 [] none 0 [] := ⟨wBox_nil _ _, (fun g o e => by cases e), (fun g o e => by cases e), (fun g o e => by cases e)⟩
/-- Lists that are short. -/
def Small (b : List Int) (s r : List (Int × Int × Int)) : Prop := b.length ≤ 31 ∧ s.length ≤ 31 ∧ r.length ≤ 31
theorem small_good {kap : Int} {b : List Int} {s r : List (Int × Int × Int)} (h : goodX kap b s r = true) : b.length ≤ 30 ∧ s.length + r.length ≤ 30 := by
  have := goodX_good h; omega
theorem sysR_small {kap : Int} {cl : Bool} {b : List Int} {s r : List (Int × Int × Int)} {iv : Int} (h : (sysR kap cl b s r iv).2.2.2.2.2 = 0) : Small (sysR kap cl b s r iv).2.2.1 (sysR kap cl b s r iv).2.2.2.1 (sysR kap cl b s r iv).2.2.2.2.1 := by
  unfold sysR at h ⊢
  split at h
  · rename_i hg
    have := small_good hg
    rw [if_pos hg]
    split at h
    · simp at h
    · rename_i h30
      rw [if_neg h30]
      refine ⟨?_, by dsimp only; omega, by dsimp only; omega⟩
      simp; omega
  · simp at h
theorem putR_small {kap : Int} {cl : Bool} {b : List Int} {s r : List (Int × Int × Int)} {iv jv : Int} (h : (putR kap cl b s r iv jv).2.2.2.2.2 = 0) : Small (putR kap cl b s r iv jv).2.2.1 (putR kap cl b s r iv jv).2.2.2.1 (putR kap cl b s r iv jv).2.2.2.2.1 := by
  unfold putR at h ⊢
  split at h
  · rename_i hg
    have := small_good hg
    rw [if_pos hg]
    split
    · refine ⟨by dsimp only; omega, ?_, by dsimp only; omega⟩
      simp; omega
    · exact ⟨by dsimp only; omega, by dsimp only; omega, by dsimp only; omega⟩
  · simp at h
theorem doneR_small {kap : Int} {cl : Bool} {b : List Int} {s r : List (Int × Int × Int)} {iv : Int} (h : (doneR kap cl b s r iv).2.2.2.2.2 = 0) : Small (doneR kap cl b s r iv).2.2.1 (doneR kap cl b s r iv).2.2.2.1 (doneR kap cl b s r iv).2.2.2.2.1 := by
  unfold doneR at h ⊢
  split at h
  · rename_i hg
    have := small_good hg
    rw [if_pos hg]
    split
    · exact ⟨by dsimp only; omega, by dsimp only; omega, Nat.le_trans (List.length_filter_le _ _) (by omega)⟩
    · exact ⟨by dsimp only; omega, by dsimp only; omega, by dsimp only; omega⟩
  · simp at h
theorem giveR_small {kap : Int} {cl : Bool} {b : List Int} {s r : List (Int × Int × Int)} (h : (giveR kap cl b s r).2.2.2.2.2 = 0) : Small (giveR kap cl b s r).2.2.1 (giveR kap cl b s r).2.2.2.1 (giveR kap cl b s r).2.2.2.2.1 := by
  unfold giveR at h ⊢
  split at h
  · rename_i hg
    have := small_good hg
    rw [if_pos hg]
    refine ⟨by dsimp only; omega, ?_, by simp⟩
    simp; omega
  · simp at h
theorem takeR_small {kap : Int} {cl : Bool} {b : List Int} {s r : List (Int × Int × Int)} (h : (takeR kap cl b s r).2.2.2.2.2.2.2.2.2 = 0) : Small (takeR kap cl b s r).2.2.1 (takeR kap cl b s r).2.2.2.1 (takeR kap cl b s r).2.2.2.2.1 := by
  unfold takeR at h ⊢
  split at h
  · rename_i hg
    have := small_good hg
    rw [if_pos hg]
    split
    · refine ⟨?_, by dsimp only; omega, by dsimp only; omega⟩
      simp; omega
    · split
      · refine ⟨by dsimp only; omega, ?_, ?_⟩
        · simp; omega
        · simp; omega
      · exact ⟨by dsimp only; omega, by dsimp only; omega, by dsimp only; omega⟩
  · simp at h
end Go.Proofs.Ytnnlbnbamhkcaaa
