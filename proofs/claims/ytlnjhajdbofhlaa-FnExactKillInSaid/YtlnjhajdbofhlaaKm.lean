
/- Marks over a hub. No conditions but those written. -/
import Derived.Test.YtlnjhajdbofhlaaKb
namespace Go.Proofs.Ytlnjhajdbofhlaa
open Go.RowKit

theorem el_set_same {α : Type} [Inhabited α] {l : List α} {i : Nat} {a : α} (h : i < l.length) : el (l.set i a) i = a := by simp [el, h]
theorem el_set_other {α : Type} [Inhabited α] {l : List α} {i j : Nat} {a : α} (h : j ≠ i) : el (l.set i a) j = el l j := by simp [el, Ne.symm h]
theorem rowOwn_len {α β : Type} {o : Option Addr} {xs : List α} {ys : List β} (h : xs.length = ys.length) {b : Nat} : rowOwn o xs b ↔ rowOwn o ys b := by unfold rowOwn; rw [h]
theorem DFr.put {A : Type} [Inhabited A] {D : Deep A} (hD : D.Ok) {lo hi : Nat} {W W' : World} {ao : Option Addr} {c : Nat} {ts : List A} (h : DFr D lo hi W ao c ts) {k : Nat} (hk : k < ts.length) {a : A} (hK : D.K.Fresh lo hi W' ao c (ts.set k a)) (hF : D.Fr lo hi W' a) (ho : ∀ b, D.own a b ↔ D.own (el ts k) b) (hb : ∀ b, ¬ rowOwn ao ts b → ¬ D.own (el ts k) b → W'.heap[b]? = W.heap[b]?) : DFr D lo hi W' ao c (ts.set k a) := by
  refine ⟨hK, fun j hj => ?_, fun i j hij hj b h1 h2 => ?_⟩
  · have hj' : j < ts.length := by simpa using hj
    by_cases e : j = k
    · subst e; rw [el_set_same hk]; exact hF
    · rw [el_set_other e]
      refine hD.keep (h.2.1 j hj') fun b hob => hb b (h.head hD hj' hob) fun hob2 => ?_
      rcases Nat.lt_or_gt_of_ne e with hl | hl
      · exact h.2.2 j k hl hk b hob hob2
      · exact h.2.2 k j hl hj' b hob2 hob
  · have hj' : j < ts.length := by simpa using hj
    have e1 : D.own (el (ts.set k a) i) b → D.own (el ts i) b := by
      by_cases e : i = k
      · subst e; rw [el_set_same hk]; exact (ho b).1
      · rw [el_set_other e]; exact id
    have e2 : D.own (el (ts.set k a) j) b → D.own (el ts j) b := by
      by_cases e : j = k
      · subst e; rw [el_set_same hk]; exact (ho b).1
      · rw [el_set_other e]; exact id
    exact h.2.2 i j hij hj' b (e1 h1) (e2 h2)
theorem Between.set {lo hi : Nat} (W : World) {a : Addr} (h1 : lo ≤ a.block) (h2 : a.block < hi) (u : Value) : Between lo hi W (W.setCell a u) :=
  ⟨rfl, rfl, rfl, by simp [World.setCell], fun k _ hr => Below.heap_setCell W a u k (by omega)⟩
/-- A channel marked from k on. -/
def mkC (k : Int) (a : LChan) : LChan := (k, (k + 1) % 3 == 0, (a.2.2.1.1, a.2.2.1.2.1, markI (k + 1 + 1) a.2.2.1.2.2.length), (a.2.2.2.1.1, a.2.2.2.1.2.1, markW (k + 1 + 1 + a.2.2.1.2.2.length) a.2.2.2.1.2.2.length), (a.2.2.2.2.1, a.2.2.2.2.2.1, markW (k + 1 + 1 + a.2.2.1.2.2.length + 3 * a.2.2.2.1.2.2.length) a.2.2.2.2.2.2.length))
def nxC (k : Int) (a : LChan) : Int := k + 1 + 1 + a.2.2.1.2.2.length + 3 * a.2.2.2.1.2.2.length + 3 * a.2.2.2.2.2.2.length
def markC : Int → List LChan → List LChan
  | _, [] => []
  | k, a :: r => mkC k a :: markC (nxC k a) r
def endC : Int → List LChan → Int
  | k, [] => k
  | k, a :: r => endC (nxC k a) r
theorem markC_len : ∀ (k : Int) (l : List LChan), (markC k l).length = l.length
  | _, [] => rfl
  | k, a :: r => by simp [markC, markC_len (nxC k a) r]
theorem endC_app : ∀ (k : Int) (a b : List LChan), endC k (a ++ b) = endC (endC k a) b
  | _, [], _ => rfl
  | k, x :: r, b => by simp [endC, endC_app (nxC k x) r b]
theorem markC_app : ∀ (k : Int) (a b : List LChan), markC k (a ++ b) = markC k a ++ markC (endC k a) b
  | _, [], _ => rfl
  | k, x :: r, b => by simp [markC, endC, markC_app (nxC k x) r b]
theorem endC_succ {k : Int} {ts : List LChan} {i : Nat} (h : i < ts.length) : endC k (ts.take (i + 1)) = nxC (endC k (ts.take i)) (el ts i) := by rw [take_succ_el h, endC_app]; rfl
theorem endC_is : ∀ (k : Int) (l : List LChan), k ≤ endC k l ∧ endC k l ≤ k + 2 * l.length + 3 * totChan l
  | k, [] => by simp [endC, totChan]
  | k, a :: r => by
    have h := endC_is (nxC k a) r
    have e : totChan (a :: r) = sizeChan a + totChan r := by simp [totChan]
    rw [endC, e]
    unfold nxC sizeChan at *
    simp only [List.length_cons]
    omega
/-- Marked up to i. -/
def midC (k : Int) (ts : List LChan) (i : Nat) : List LChan := markC k (ts.take i) ++ ts.drop i
theorem midC_len (k : Int) (ts : List LChan) {i : Nat} (h : i ≤ ts.length) : (midC k ts i).length = ts.length := by simp [midC, markC_len]; omega
theorem midC_el (k : Int) {ts : List LChan} {i : Nat} (h : i < ts.length) : el (midC k ts i) i = el ts i := by
  have hl : (markC k (ts.take i)).length = i := by rw [markC_len]; simp; omega
  have := el_app_right (markC k (ts.take i)) (ts.drop i) 0
  rw [hl, Nat.add_zero, el_drop, Nat.add_zero] at this
  exact this
theorem midC_set (k : Int) {ts : List LChan} {i : Nat} (h : i < ts.length) : (midC k ts i).set i (mkC (endC k (ts.take i)) (el ts i)) = midC k ts (i + 1) := by
  have hl : (markC k (ts.take i)).length = i := by rw [markC_len]; simp; omega
  rw [midC, midC, take_succ_el h, markC_app, List.set_append_right _ _ (by omega), hl, Nat.sub_self, List.drop_eq_getElem_cons h, List.set_cons_zero, List.append_assoc]
  rfl
theorem midC_zero (k : Int) (ts : List LChan) : midC k ts 0 = ts := by simp [midC, markC]
theorem midC_all (k : Int) (ts : List LChan) : midC k ts ts.length = markC k ts := by simp [midC]
theorem hChan_set2 {us : List LChan} {i : Nat} (hi : i < us.length) (k : Int) (b : Bool) : ((hChan.flat us).set (i * 5) (.int .i64 k)).set (i * 5 + 1) (.bool b) = hChan.flat (us.set i (k, b, (el us i).2.2)) := by
  have hlen : (hChan.flat us).length = us.length * 5 := hChan.flat_len us
  refine hChan.flat_of _ _ (by simp [hlen]; rfl) fun j hj q hq => ?_
  have hj' : j < us.length := by simpa using hj
  have hq' : q < 5 := hq
  have hsz : hChan.sz = 5 := rfl
  have hold := hChan.flat_at us j hj' q hq
  rw [hsz] at hold ⊢
  by_cases e : j = i
  · subst e
    rw [el_set_same hj']
    rcases (show q = 0 ∨ q = 1 ∨ q = 2 ∨ q = 3 ∨ q = 4 from by omega) with rfl | rfl | rfl | rfl | rfl
    · rw [set_far (by omega), Nat.add_zero, set_at (by omega)]; rfl
    · rw [set_at (by simp only [List.length_set]; omega)]; rfl
    · rw [set_far (by omega), set_far (by omega), hold]; rfl
    · rw [set_far (by omega), set_far (by omega), hold]; rfl
    · rw [set_far (by omega), set_far (by omega), hold]; rfl
  · rw [el_set_other e, set_far (by omega), set_far (by omega), hold]
theorem not_row {α β : Type} {K : Kind α} {L : Kind β} {lo hi lo' hi' : Nat} {W : World} {o o' : Option Addr} {c c' : Nat} {xs : List α} {ys : List β} (h : K.Fresh lo hi W o c xs) (h' : L.Fresh lo' hi' W o' c' ys) (hne : K.ty ≠ L.ty) {b : Nat} (hb : rowOwn o xs b) : ¬ rowOwn o' ys b := by
  intro hb'
  obtain ⟨_, _, _, cur, h3⟩ := h.lt hb
  obtain ⟨_, _, _, cur', h4⟩ := h'.lt hb'
  rw [h3] at h4
  simp at h4
  exact hne h4.2
theorem ne_HI : hChan.ty ≠ kI.ty := by decide
theorem ne_HW : hChan.ty ≠ kW.ty := by decide
theorem ne_IW : kI.ty ≠ kW.ty := by decide
/-- The head of element i is written. -/
theorem DFr.head2 {lo hi : Nat} {W : World} {g c : Nat} {us : List LChan} (h : DFr dChan lo hi W (some ⟨g, 0, none⟩) c us) {i : Nat} (hi' : i < us.length) (k : Int) (b : Bool) :
    DFr dChan lo hi ((W.setCell ⟨g, i * 5, none⟩ (.int .i64 k)).setCell ⟨g, i * 5 + 1, none⟩ (.bool b)) (some ⟨g, 0, none⟩) c (us.set i (k, b, (el us i).2.2)) := by
  have h1 : hChan.Fresh lo hi W (some ⟨g, 0, none⟩) c us := h.1
  obtain ⟨g2, e2, hg1, hg2, hg3, ho⟩ := h1.at (show 0 < us.length by omega)
  simp at e2; subst e2
  have hblk : ∀ b', b' ≠ g → (((W.setCell ⟨g, i * 5, none⟩ (.int .i64 k)).setCell ⟨g, i * 5 + 1, none⟩ (.bool b)).heap[b']? = W.heap[b']?) := fun b' hb' => by
    rw [Below.heap_setCell _ _ _ _ (by simpa using hb'), Below.heap_setCell _ _ _ _ (by simpa using hb')]
  refine DFr.put dChan_ok h hi' ?_ ?_ (fun b' => Iff.rfl) fun b' h1 _ => hblk b' fun e => h1 ⟨by omega, by rw [e]⟩
  · show hChan.Fresh _ _ _ _ _ _
    have hs := ((World.ownsRow.stored ho (i * 5) (.int .i64 k)).1.stored (i * 5 + 1) (.bool b)).1
    rw [hChan_set2 hi' k b] at hs
    refine .inr ⟨g, rfl, hg2, ?_⟩
    simpa using hs
  · refine dChan_ok.keep (h.2.1 i hi') fun b' hob => hblk b' fun e => ?_
    subst e
    exact h.head dChan_ok hi' hob ⟨by omega, rfl⟩
/-- Row 1 of element i is turned. -/
theorem DFr.row1 {lo hi : Nat} {W W' : World} {ao : Option Addr} {c : Nat} {us : List LChan} (h : DFr dChan lo hi W ao c us) {i : Nat} (hi' : i < us.length) {b' : List (Int)} (hl : b'.length = (el us i).2.2.1.2.2.length) (hF : kI.Fresh lo hi W' (el us i).2.2.1.1 (el us i).2.2.1.2.1 b') (hO : OnlyAt (eff (el us i).2.2.1.1 (el us i).2.2.1.2.2.length) W W') :
    DFr dChan lo hi W' ao c (us.set i ((el us i).1, (el us i).2.1, ((el us i).2.2.1.1, (el us i).2.2.1.2.1, b'), (el us i).2.2.2)) := by
  have hf := h.2.1 i hi'
  have h1 : hChan.Fresh lo hi W ao c us := h.1
  have hr : kI.Fresh lo hi W (el us i).2.2.1.1 (el us i).2.2.1.2.1 (el us i).2.2.1.2.2 := hf.1
  refine DFr.put dChan_ok h hi' ?_ ⟨hF, hf.2.1.keepB fun b hb => only_own hO (not_row hf.2.1 hr ne_IW.symm hb), hf.2.2.1.keepB fun b hb => only_own hO (not_row hf.2.2.1 hr ne_IW.symm hb), hf.2.2.2⟩ (fun b => ?_) fun b _ h2 => only_own hO fun hr => h2 (.inl hr)
  · show hChan.Fresh _ _ _ _ _ _
    have e : hChan.flat (us.set i ((el us i).1, (el us i).2.1, ((el us i).2.2.1.1, (el us i).2.2.1.2.1, b'), (el us i).2.2.2)) = hChan.flat us := by
      refine (hChan.flat_of _ _ (by rw [hChan.flat_len]; simp) fun j hj q hq => ?_).symm
      have hj' : j < us.length := by simpa using hj
      rw [hChan.flat_at us j hj' q hq]
      by_cases e : j = i
      · subst e; rw [el_set_same hj']; simp only [hChan, hl]
      · rw [el_set_other e]
    have hk : hChan.Fresh lo hi W' ao c us := h1.keepB fun b hb => only_own hO (not_row h1 hr ne_HI hb)
    rcases hk with hk | ⟨g, e1, hg, ho⟩
    · rw [hk] at hi'; simp at hi'
    · refine .inr ⟨g, e1, hg, ?_⟩
      rw [e]; simpa using ho
  · show (rowOwn _ b' b ∨ _) ↔ _
    rw [rowOwn_len hl]; exact Iff.rfl
/-- Row 2 of element i is turned. -/
theorem DFr.row2 {lo hi : Nat} {W W' : World} {ao : Option Addr} {c : Nat} {us : List LChan} (h : DFr dChan lo hi W ao c us) {i : Nat} (hi' : i < us.length) {b' : List (Int × Int × Int)} (hl : b'.length = (el us i).2.2.2.1.2.2.length) (hF : kW.Fresh lo hi W' (el us i).2.2.2.1.1 (el us i).2.2.2.1.2.1 b') (hO : OnlyAt (eff (el us i).2.2.2.1.1 (el us i).2.2.2.1.2.2.length) W W') :
    DFr dChan lo hi W' ao c (us.set i ((el us i).1, (el us i).2.1, (el us i).2.2.1, ((el us i).2.2.2.1.1, (el us i).2.2.2.1.2.1, b'), (el us i).2.2.2.2)) := by
  have hf := h.2.1 i hi'
  have h1 : hChan.Fresh lo hi W ao c us := h.1
  have hr : kW.Fresh lo hi W (el us i).2.2.2.1.1 (el us i).2.2.2.1.2.1 (el us i).2.2.2.1.2.2 := hf.2.1
  refine DFr.put dChan_ok h hi' ?_ ⟨hf.1.keepB fun b hb => only_own hO (not_row hf.1 hr ne_IW hb), hF, hf.2.2.1.off hf.2.2.2.symm hO, by rw [hl]; exact hf.2.2.2⟩ (fun b => ?_) fun b _ h2 => only_own hO fun hr => h2 (.inr (.inl hr))
  · show hChan.Fresh _ _ _ _ _ _
    have e : hChan.flat (us.set i ((el us i).1, (el us i).2.1, (el us i).2.2.1, ((el us i).2.2.2.1.1, (el us i).2.2.2.1.2.1, b'), (el us i).2.2.2.2)) = hChan.flat us := by
      refine (hChan.flat_of _ _ (by rw [hChan.flat_len]; simp) fun j hj q hq => ?_).symm
      have hj' : j < us.length := by simpa using hj
      rw [hChan.flat_at us j hj' q hq]
      by_cases e : j = i
      · subst e; rw [el_set_same hj']; simp only [hChan, hl]
      · rw [el_set_other e]
    have hk : hChan.Fresh lo hi W' ao c us := h1.keepB fun b hb => only_own hO (not_row h1 hr ne_HW hb)
    rcases hk with hk | ⟨g, e1, hg, ho⟩
    · rw [hk] at hi'; simp at hi'
    · refine .inr ⟨g, e1, hg, ?_⟩
      rw [e]; simpa using ho
  · show (_ ∨ rowOwn _ b' b ∨ _) ↔ _
    rw [rowOwn_len hl]; exact Iff.rfl
/-- Row 3 of element i is turned. -/
theorem DFr.row3 {lo hi : Nat} {W W' : World} {ao : Option Addr} {c : Nat} {us : List LChan} (h : DFr dChan lo hi W ao c us) {i : Nat} (hi' : i < us.length) {b' : List (Int × Int × Int)} (hl : b'.length = (el us i).2.2.2.2.2.2.length) (hF : kW.Fresh lo hi W' (el us i).2.2.2.2.1 (el us i).2.2.2.2.2.1 b') (hO : OnlyAt (eff (el us i).2.2.2.2.1 (el us i).2.2.2.2.2.2.length) W W') :
    DFr dChan lo hi W' ao c (us.set i ((el us i).1, (el us i).2.1, (el us i).2.2.1, (el us i).2.2.2.1, ((el us i).2.2.2.2.1, (el us i).2.2.2.2.2.1, b'))) := by
  have hf := h.2.1 i hi'
  have h1 : hChan.Fresh lo hi W ao c us := h.1
  have hr : kW.Fresh lo hi W (el us i).2.2.2.2.1 (el us i).2.2.2.2.2.1 (el us i).2.2.2.2.2.2 := hf.2.2.1
  refine DFr.put dChan_ok h hi' ?_ ⟨hf.1.keepB fun b hb => only_own hO (not_row hf.1 hr ne_IW hb), hf.2.1.off hf.2.2.2 hO, hF, by rw [hl]; exact hf.2.2.2⟩ (fun b => ?_) fun b _ h2 => only_own hO fun hr => h2 (.inr (.inr hr))
  · show hChan.Fresh _ _ _ _ _ _
    have e : hChan.flat (us.set i ((el us i).1, (el us i).2.1, (el us i).2.2.1, (el us i).2.2.2.1, ((el us i).2.2.2.2.1, (el us i).2.2.2.2.2.1, b'))) = hChan.flat us := by
      refine (hChan.flat_of _ _ (by rw [hChan.flat_len]; simp) fun j hj q hq => ?_).symm
      have hj' : j < us.length := by simpa using hj
      rw [hChan.flat_at us j hj' q hq]
      by_cases e : j = i
      · subst e; rw [el_set_same hj']; simp only [hChan, hl]
      · rw [el_set_other e]
    have hk : hChan.Fresh lo hi W' ao c us := h1.keepB fun b hb => only_own hO (not_row h1 hr ne_HW hb)
    rcases hk with hk | ⟨g, e1, hg, ho⟩
    · rw [hk] at hi'; simp at hi'
    · refine .inr ⟨g, e1, hg, ?_⟩
      rw [e]; simpa using ho
  · show (_ ∨ _ ∨ rowOwn _ b' b) ↔ _
    rw [rowOwn_len hl]; exact Iff.rfl
end Go.Proofs.Ytlnjhajdbofhlaa
