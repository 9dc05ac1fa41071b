
/- A queue of a topic put anew; what HearNext answers. No conditions but those written. -/
import Derived.Test.YtimkadnnhfllnaaTc
import Derived.Test.YtimkadnnhfllnaaTd
namespace Go.Proofs.Ytimkadnnhfllnaa
open Go.RowKit

theorem hSub_set1 {us : List LSub} {k : Nat} (hk : k < us.length) (go : Option Addr) (qc : Nat) (r : List Int) :
    (hSub.flat us).set (k * 5 + 4) (.slice go r.length qc) = hSub.flat (us.set k ((el us k).1, (el us k).2.1, (el us k).2.2.1, (el us k).2.2.2.1, (go, qc, r))) := by
  have hlen : (hSub.flat us).length = us.length * 5 := hSub.flat_len us
  refine hSub.flat_of _ _ (by simp [hlen]; rfl) fun j hj q hq => ?_
  have hj' : j < us.length := by simpa using hj
  have hq' : q < 5 := hq
  have hsz : hSub.sz = 5 := rfl
  have hold := hSub.flat_at us j hj' q hq
  rw [hsz] at hold ⊢
  by_cases e : j = k
  · subst e
    rw [el_set_same hj']
    rcases (show q = 0 ∨ q = 1 ∨ q = 2 ∨ q = 3 ∨ q = 4 from by omega) with rfl | rfl | rfl | rfl | rfl
    · rw [set_far (by omega), hold]; rfl
    · rw [set_far (by omega), hold]; rfl
    · rw [set_far (by omega), hold]; rfl
    · rw [set_far (by omega), hold]; rfl
    · rw [set_at (by omega)]; rfl
  · rw [el_set_other e, set_far (by omega), hold]
/-- The row of one is put anew, out of newer memory. -/
theorem DFr.newE {lo hi hi2 : Nat} {W W' : World} {g c : Nat} {us : List LSub} (h : DFr dSub lo hi W (some ⟨g, 0, none⟩) c us) {k : Nat} (hk : k < us.length) {a : LSub} (hH : hSub.Fresh lo hi W' (some ⟨g, 0, none⟩) c (us.set k a)) (hF : kI.Fresh hi hi2 W' a.2.2.2.2.1 a.2.2.2.2.2.1 a.2.2.2.2.2.2) (hh : hi ≤ hi2) (hlo : lo ≤ hi) (hb : ∀ b, b ≠ g → W'.heap[b]? = W.heap[b]?) : DFr dSub lo hi2 W' (some ⟨g, 0, none⟩) c (us.set k a) := by
  have own_lt : ∀ j, j < us.length → ∀ b, dSub.own (el us j) b → b < hi := fun j hj b hb => (dSub_ok.lt (h.2.1 j hj) hb).2.1
  have new_ge : ∀ b, dSub.own a b → hi ≤ b := fun b hb => (Kind.Fresh.lt hF hb).1
  refine ⟨hH.wide (Nat.le_refl _) hh, fun j hj => ?_, fun i j hij hj b h1 h2 => ?_⟩
  · have hj' : j < us.length := by simpa using hj
    by_cases e : j = k
    · subst e; rw [el_set_same hk]; exact Kind.Fresh.wide hF hlo (Nat.le_refl _)
    · rw [el_set_other e]
      refine dSub_ok.wide (dSub_ok.keep (h.2.1 j hj') fun b hob => hb b fun e2 => ?_) (Nat.le_refl _) hh
      subst e2
      exact h.head dSub_ok hj' hob ⟨by omega, rfl⟩
  · have hj' : j < us.length := by simpa using hj
    by_cases e1 : i = k
    · subst e1
      rw [el_set_same hk] at h1
      rw [el_set_other (by omega)] at h2
      have := new_ge b h1
      have := own_lt j hj' b h2
      omega
    · rw [el_set_other e1] at h1
      by_cases e2 : j = k
      · subst e2
        rw [el_set_same hk] at h2
        have := new_ge b h2
        have := own_lt i (by omega) b h1
        omega
      · rw [el_set_other e2] at h2
        exact h.2.2 i j hij hj' b h1 h2
theorem DFr.newQ {lo hi hi2 : Nat} {W : World} {g c : Nat} {us : List LSub} (h : DFr dSub lo hi W (some ⟨g, 0, none⟩) c us) {k : Nat} (hk : k < us.length) {go : Option Addr} {qc : Nat} {r : List Int} (hF : kI.Fresh hi hi2 W go qc r) (hh : hi ≤ hi2) (hlo : lo ≤ hi) :
    DFr dSub lo hi2 (W.setCell ⟨g, k * 5 + 4, none⟩ (.slice go r.length qc)) (some ⟨g, 0, none⟩) c (us.set k ((el us k).1, (el us k).2.1, (el us k).2.2.1, (el us k).2.2.2.1, (go, qc, r))) := by
  have h1 : hSub.Fresh lo hi W (some ⟨g, 0, none⟩) c us := h.1
  obtain ⟨g2, e2, hg1, hg2, hg3, ho⟩ := h1.at (show 0 < us.length by omega)
  simp at e2; subst e2
  refine DFr.newE h hk ?_ (hF.setBelow (a := ⟨g, k * 5 + 4, none⟩) hg2 _) hh hlo fun b hb => Below.heap_setCell _ _ _ _ (by simpa using hb)
  have hs := (World.ownsRow.stored ho (k * 5 + 4) (.slice go r.length qc)).1
  rw [hSub_set1 hk] at hs
  refine .inr ⟨g, rfl, hg2, ?_⟩
  simpa using hs
theorem map_set {us : List LSub} {k : Nat} {a : LSub} : (us.set k a).map valSub = (us.map valSub).set k (valSub a) := by rw [List.map_set]
/-- What HearNext answers. -/
def hearR (sd : Int) (ps : List PSub) (id : Int) : Int × List PSub × Int × Int :=
  if topicB sd ps then
    if thB ps id then
      match (el ps (pl ps id)).2.2.2.2 with
      | [] => (sd, ps, 0, 3)
      | x :: r => (sd, ps.set (pl ps id) ((el ps (pl ps id)).1, (el ps (pl ps id)).2.1, (el ps (pl ps id)).2.2.1, (el ps (pl ps id)).2.2.2.1, r), x, 0)
    else (sd, ps, 0, 4)
  else (0, [], 0, 1)
/-- A topic in its own memory and two numbers, as an ending. -/
def AnsH (w : World) (r : Int × List PSub × Int × Int) (e : Ending) (w' : World) : Prop := (∃ o c us, e = .returned (.tuple #[.agg #[.int .i64 r.1, .slice o r.2.1.length c], .int .i64 r.2.2.1, .int .i64 r.2.2.2]) ∧ us.map valSub = r.2.1 ∧ DFr dSub w.heap.size w'.heap.size w' o c us) ∧ Below w.heap.size w w'
theorem sub_el {sd : Int} {ps : List PSub} (h : topicB sd ps = true) {k : Nat} (hk : k < ps.length) : 1 ≤ (el ps k).2.1 ∧ (el ps k).2.1 ≤ 20 ∧ ((el ps k).2.2.2.2.length : Int) ≤ (el ps k).2.1 ∧ 0 ≤ (el ps k).2.2.2.1 ∧ (el ps k).2.2.2.1 ≤ 1000000 := by
  have hs := (topicB_good h).2.2 k hk
  simp only [stepB, subB, sizeB, Bool.and_eq_true, decide_eq_true_eq] at hs
  obtain ⟨⟨⟨h1, h2⟩, h3, h4⟩, _⟩ := hs
  refine ⟨h1, h2, h3, ?_⟩
  split at h4
  · simpa using h4
  · have : (el ps k).2.2.2.1 = 0 := by simpa using h4
    omega
end Go.Proofs.Ytimkadnnhfllnaa
