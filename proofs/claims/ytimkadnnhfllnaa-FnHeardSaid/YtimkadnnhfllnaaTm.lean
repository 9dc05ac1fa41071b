
/- Marks over a topic. No conditions but those written. -/
import Derived.Test.YtimkadnnhfllnaaTp
namespace Go.Proofs.Ytimkadnnhfllnaa
open Go.RowKit

theorem el_set_same {α : Type} [Inhabited α] {l : List α} {i : Nat} {a : α} (h : i < l.length) : el (l.set i a) i = a := by simp [el, h]
theorem el_set_other {α : Type} [Inhabited α] {l : List α} {i j : Nat} {a : α} (h : j ≠ i) : el (l.set i a) j = el l j := by simp [el, Ne.symm h]
theorem rowOwn_len {α β : Type} {o : Option Addr} {xs : List α} {ys : List β} (h : xs.length = ys.length) {b : Nat} : rowOwn o xs b ↔ rowOwn o ys b := by unfold rowOwn; rw [h]
theorem DFr.put {A : Type} [Inhabited A] {D : Deep A} (hD : D.Ok) {lo hi : Nat} {W W' : World} {ao : Option Addr} {c : Nat} {ts : List A} (h : DFr D lo hi W ao c ts) {k : Nat} (hk : k < ts.length) {a : A} (hK : D.K.Fresh lo hi W' ao c (ts.set k a)) (hF : D.Fr lo hi W' a) (ho : ∀ b, D.own a b ↔ D.own (el ts k) b) (hb : ∀ b, ¬ rowOwn ao ts b → ¬ D.own (el ts k) b → W'.heap[b]? = W.heap[b]?) : DFr D lo hi W' ao c (ts.set k a) := by
  refine ⟨hK, fun j hj => ?_, fun i j hij hj b h1 h2 => ?_⟩
  · have hj' : j < ts.length := by simpa using hj
    by_cases e : j = k
    · subst e; rw [el_set_same hk]; exact hF
    · rw [el_set_other e]
      refine hD.keep (h.2.1 j hj') fun b hob => hb b (h.head hD hj' hob) fun hob2 => ?_
      rcases Nat.lt_or_gt_of_ne e with hl | hl
      · exact h.2.2 j k hl hk b hob hob2
      · exact h.2.2 k j hl hj' b hob2 hob
  · have hj' : j < ts.length := by simpa using hj
    have e1 : D.own (el (ts.set k a) i) b → D.own (el ts i) b := by
      by_cases e : i = k
      · subst e; rw [el_set_same hk]; exact (ho b).1
      · rw [el_set_other e]; exact id
    have e2 : D.own (el (ts.set k a) j) b → D.own (el ts j) b := by
      by_cases e : j = k
      · subst e; rw [el_set_same hk]; exact (ho b).1
      · rw [el_set_other e]; exact id
    exact h.2.2 i j hij hj' b (e1 h1) (e2 h2)
theorem Between.set {lo hi : Nat} (W : World) {a : Addr} (h1 : lo ≤ a.block) (h2 : a.block < hi) (u : Value) : Between lo hi W (W.setCell a u) :=
  ⟨rfl, rfl, rfl, by simp [World.setCell], fun k _ hr => Below.heap_setCell W a u k (by omega)⟩
theorem not_row {α β : Type} {K : Kind α} {L : Kind β} {lo hi lo' hi' : Nat} {W : World} {o o' : Option Addr} {c c' : Nat} {xs : List α} {ys : List β} (h : K.Fresh lo hi W o c xs) (h' : L.Fresh lo' hi' W o' c' ys) (hne : K.ty ≠ L.ty) {b : Nat} (hb : rowOwn o xs b) : ¬ rowOwn o' ys b := by
  intro hb'
  obtain ⟨_, _, _, cur, h3⟩ := h.lt hb
  obtain ⟨_, _, _, cur', h4⟩ := h'.lt hb'
  rw [h3] at h4
  simp at h4
  exact hne h4.2
theorem ne_HI : hSub.ty ≠ kI.ty := by decide
/-- A Sub marked from k on. -/
def mkC (k : Int) (a : LSub) : LSub := (k, k + 1, (k + 1 + 1) % 3 == 0, k + 1 + 1 + 1, (a.2.2.2.2.1, a.2.2.2.2.2.1, markI (k + 1 + 1 + 1 + 1) a.2.2.2.2.2.2.length))
def nxC (k : Int) (a : LSub) : Int := k + 1 + 1 + 1 + 1 + a.2.2.2.2.2.2.length
def markC : Int → List LSub → List LSub
  | _, [] => []
  | k, a :: r => mkC k a :: markC (nxC k a) r
def endC : Int → List LSub → Int
  | k, [] => k
  | k, a :: r => endC (nxC k a) r
theorem markC_len : ∀ (k : Int) (l : List LSub), (markC k l).length = l.length
  | _, [] => rfl
  | k, a :: r => by simp [markC, markC_len (nxC k a) r]
theorem endC_app : ∀ (k : Int) (a b : List LSub), endC k (a ++ b) = endC (endC k a) b
  | _, [], _ => rfl
  | k, x :: r, b => by simp [endC, endC_app (nxC k x) r b]
theorem markC_app : ∀ (k : Int) (a b : List LSub), markC k (a ++ b) = markC k a ++ markC (endC k a) b
  | _, [], _ => rfl
  | k, x :: r, b => by simp [markC, endC, markC_app (nxC k x) r b]
theorem endC_succ {k : Int} {ts : List LSub} {i : Nat} (h : i < ts.length) : endC k (ts.take (i + 1)) = nxC (endC k (ts.take i)) (el ts i) := by rw [take_succ_el h, endC_app]; rfl
theorem endC_is : ∀ (k : Int) (l : List LSub), k ≤ endC k l ∧ endC k l ≤ k + 4 * l.length + totSub l
  | k, [] => by simp [endC, totSub]
  | k, a :: r => by
    have h := endC_is (nxC k a) r
    have e : totSub (a :: r) = sizeSub a + totSub r := by simp [totSub]
    rw [endC, e]
    unfold nxC sizeSub at *
    simp only [List.length_cons]
    omega
/-- Marked up to i. -/
def midC (k : Int) (ts : List LSub) (i : Nat) : List LSub := markC k (ts.take i) ++ ts.drop i
theorem midC_len (k : Int) (ts : List LSub) {i : Nat} (h : i ≤ ts.length) : (midC k ts i).length = ts.length := by simp [midC, markC_len]; omega
theorem midC_el (k : Int) {ts : List LSub} {i : Nat} (h : i < ts.length) : el (midC k ts i) i = el ts i := by
  have hl : (markC k (ts.take i)).length = i := by rw [markC_len]; simp; omega
  have := el_app_right (markC k (ts.take i)) (ts.drop i) 0
  rw [hl, Nat.add_zero, el_drop, Nat.add_zero] at this
  exact this
theorem midC_set (k : Int) {ts : List LSub} {i : Nat} (h : i < ts.length) : (midC k ts i).set i (mkC (endC k (ts.take i)) (el ts i)) = midC k ts (i + 1) := by
  have hl : (markC k (ts.take i)).length = i := by rw [markC_len]; simp; omega
  rw [midC, midC, take_succ_el h, markC_app, List.set_append_right _ _ (by omega), hl, Nat.sub_self, List.drop_eq_getElem_cons h, List.set_cons_zero, List.append_assoc]
  rfl
theorem midC_zero (k : Int) (ts : List LSub) : midC k ts 0 = ts := by simp [midC, markC]
theorem midC_all (k : Int) (ts : List LSub) : midC k ts ts.length = markC k ts := by simp [midC]
theorem hSub_set4 {us : List LSub} {i : Nat} (hi : i < us.length) (a b d : Int) (c : Bool) : ((((hSub.flat us).set (i * 5) (.int .i64 a)).set (i * 5 + 1) (.int .i64 b)).set (i * 5 + 2) (.bool c)).set (i * 5 + 3) (.int .i64 d) = hSub.flat (us.set i (a, b, c, d, (el us i).2.2.2.2)) := by
  have hlen : (hSub.flat us).length = us.length * 5 := hSub.flat_len us
  refine hSub.flat_of _ _ (by simp [hlen]; rfl) fun j hj q hq => ?_
  have hj' : j < us.length := by simpa using hj
  have hq' : q < 5 := hq
  have hsz : hSub.sz = 5 := rfl
  have hold := hSub.flat_at us j hj' q hq
  rw [hsz] at hold ⊢
  by_cases e : j = i
  · subst e
    rw [el_set_same hj']
    rcases (show q = 0 ∨ q = 1 ∨ q = 2 ∨ q = 3 ∨ q = 4 from by omega) with rfl | rfl | rfl | rfl | rfl
    · rw [set_far (by omega), set_far (by omega), set_far (by omega), Nat.add_zero, set_at (by omega)]; rfl
    · rw [set_far (by omega), set_far (by omega), set_at (by simp only [List.length_set]; omega)]; rfl
    · rw [set_far (by omega), set_at (by simp only [List.length_set]; omega)]; rfl
    · rw [set_at (by simp only [List.length_set]; omega)]; rfl
    · rw [set_far (by omega), set_far (by omega), set_far (by omega), set_far (by omega), hold]; rfl
  · rw [el_set_other e, set_far (by omega), set_far (by omega), set_far (by omega), set_far (by omega), hold]
/-- The head of element i is written. -/
theorem DFr.head4 {lo hi : Nat} {W : World} {g c : Nat} {us : List LSub} (h : DFr dSub lo hi W (some ⟨g, 0, none⟩) c us) {i : Nat} (hi' : i < us.length) (k0 k1 k3 : Int) (b : Bool) :
    DFr dSub lo hi ((((W.setCell ⟨g, i * 5, none⟩ (.int .i64 k0)).setCell ⟨g, i * 5 + 1, none⟩ (.int .i64 k1)).setCell ⟨g, i * 5 + 2, none⟩ (.bool b)).setCell ⟨g, i * 5 + 3, none⟩ (.int .i64 k3)) (some ⟨g, 0, none⟩) c (us.set i (k0, k1, b, k3, (el us i).2.2.2.2)) := by
  have h1 : hSub.Fresh lo hi W (some ⟨g, 0, none⟩) c us := h.1
  obtain ⟨g2, e2, hg1, hg2, hg3, ho⟩ := h1.at (show 0 < us.length by omega)
  simp at e2; subst e2
  have hblk : ∀ b', b' ≠ g → (((((W.setCell ⟨g, i * 5, none⟩ (.int .i64 k0)).setCell ⟨g, i * 5 + 1, none⟩ (.int .i64 k1)).setCell ⟨g, i * 5 + 2, none⟩ (.bool b)).setCell ⟨g, i * 5 + 3, none⟩ (.int .i64 k3)).heap[b']? = W.heap[b']?) := fun b' hb' => by
    rw [Below.heap_setCell _ _ _ _ (by simpa using hb'), Below.heap_setCell _ _ _ _ (by simpa using hb'), Below.heap_setCell _ _ _ _ (by simpa using hb'), Below.heap_setCell _ _ _ _ (by simpa using hb')]
  refine DFr.put dSub_ok h hi' ?_ ?_ (fun b' => Iff.rfl) fun b' h1 _ => hblk b' fun e => h1 ⟨by omega, by rw [e]⟩
  · show hSub.Fresh _ _ _ _ _ _
    have hs := ((((World.ownsRow.stored ho (i * 5) (.int .i64 k0)).1.stored (i * 5 + 1) (.int .i64 k1)).1.stored (i * 5 + 2) (.bool b)).1.stored (i * 5 + 3) (.int .i64 k3)).1
    rw [hSub_set4 hi' k0 k1 k3 b] at hs
    refine .inr ⟨g, rfl, hg2, ?_⟩
    simpa using hs
  · refine dSub_ok.keep (h.2.1 i hi') fun b' hob => hblk b' fun e => ?_
    subst e
    exact h.head dSub_ok hi' hob ⟨by omega, rfl⟩
/-- The row of element i is turned. -/
theorem DFr.row1 {lo hi : Nat} {W W' : World} {ao : Option Addr} {c : Nat} {us : List LSub} (h : DFr dSub lo hi W ao c us) {i : Nat} (hi' : i < us.length) {b' : List Int} (hl : b'.length = (el us i).2.2.2.2.2.2.length) (hF : kI.Fresh lo hi W' (el us i).2.2.2.2.1 (el us i).2.2.2.2.2.1 b') (hO : OnlyAt (eff (el us i).2.2.2.2.1 (el us i).2.2.2.2.2.2.length) W W') :
    DFr dSub lo hi W' ao c (us.set i ((el us i).1, (el us i).2.1, (el us i).2.2.1, (el us i).2.2.2.1, ((el us i).2.2.2.2.1, (el us i).2.2.2.2.2.1, b'))) := by
  have hf := h.2.1 i hi'
  have h1 : hSub.Fresh lo hi W ao c us := h.1
  have hr : kI.Fresh lo hi W (el us i).2.2.2.2.1 (el us i).2.2.2.2.2.1 (el us i).2.2.2.2.2.2 := hf
  refine DFr.put dSub_ok h hi' ?_ hF (fun b => ?_) fun b _ h2 => only_own hO h2
  · show hSub.Fresh _ _ _ _ _ _
    have e : hSub.flat (us.set i ((el us i).1, (el us i).2.1, (el us i).2.2.1, (el us i).2.2.2.1, ((el us i).2.2.2.2.1, (el us i).2.2.2.2.2.1, b'))) = hSub.flat us := by
      refine (hSub.flat_of _ _ (by rw [hSub.flat_len]; simp) fun j hj q hq => ?_).symm
      have hj' : j < us.length := by simpa using hj
      rw [hSub.flat_at us j hj' q hq]
      by_cases e : j = i
      · subst e; rw [el_set_same hj']; simp only [hSub, hl]
      · rw [el_set_other e]
    have hk : hSub.Fresh lo hi W' ao c us := h1.keepB fun b hb => only_own hO (not_row h1 hr ne_HI hb)
    rcases hk with hk | ⟨g, e1, hg, ho⟩
    · rw [hk] at hi'; simp at hi'
    · refine .inr ⟨g, e1, hg, ?_⟩
      rw [e]; simpa using ho
  · show (rowOwn _ b' b) ↔ _
    rw [rowOwn_len hl]; exact Iff.rfl
theorem hd_at {lo hi : Nat} {W : World} {g c : Nat} {us : List LSub} (h : DFr dSub lo hi W (some ⟨g, 0, none⟩) c us) {i : Nat} (hi' : i < us.length) :
    (W.cell? ⟨g, i * 5, none⟩ = some (.int .i64 (el us i).1) ∧ W.cell? ⟨g, i * 5 + 1, none⟩ = some (.int .i64 (el us i).2.1) ∧ W.cell? ⟨g, i * 5 + 2, none⟩ = some (.bool (el us i).2.2.1) ∧ W.cell? ⟨g, i * 5 + 3, none⟩ = some (.int .i64 (el us i).2.2.2.1) ∧ W.cell? ⟨g, i * 5 + 4, none⟩ = some (.slice (el us i).2.2.2.2.1 (el us i).2.2.2.2.2.2.length (el us i).2.2.2.2.2.1)) ∧ (∀ q, W.frozen? ⟨g, i * 5 + q, none⟩ = false) ∧ lo ≤ g ∧ g < hi ∧ g < W.heap.size := by
  have h1 : hSub.Fresh lo hi W (some ⟨g, 0, none⟩) c us := h.1
  obtain ⟨g2, e2, hg1, hg2, hg3, ho⟩ := h1.at (show 0 < us.length by omega)
  simp at e2; subst e2
  obtain ⟨b0, off, eb, _, hc⟩ := hSub_at h1.in hi'
  obtain ⟨rfl, rfl⟩ : b0 = g ∧ off = 0 := by simp at eb; exact ⟨eb.1.symm, eb.2.symm⟩
  have hc' := hc i hi'
  simp only [Nat.zero_add] at hc'
  exact ⟨hc', fun q => ho.frozenAt (i * 5 + q), hg1, hg2, hg3⟩
end Go.Proofs.Ytimkadnnhfllnaa
