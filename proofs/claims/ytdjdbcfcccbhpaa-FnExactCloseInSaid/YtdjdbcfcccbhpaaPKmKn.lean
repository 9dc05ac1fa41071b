/- Marks over a hub. No conditions but those written. Marks over a hub: written, and held. No conditions but those written. -/
import Derived.Test.YtdjdbcfcccbhpaaPKbAo
namespace Go.Proofs.Ytdjdbcfcccbhpaa
section
open Go.RowKit

theorem el_set_same {α : Type} [Inhabited α] {l : List α} {i : Nat} {a : α} (h : i < l.length) : el (l.set i a) i = a := by simp [el, h]
theorem el_set_other {α : Type} [Inhabited α] {l : List α} {i j : Nat} {a : α} (h : j ≠ i) : el (l.set i a) j = el l j := by simp [el, Ne.symm h]
theorem rowOwn_len {α β : Type} {o : Option Addr} {xs : List α} {ys : List β} (h : xs.length = ys.length) {b : Nat} : rowOwn o xs b ↔ rowOwn o ys b := by unfold rowOwn; rw [h]
theorem DFr.put {A : Type} [Inhabited A] {D : Deep A} (hD : D.Ok) {lo hi : Nat} {W W' : World} {ao : Option Addr} {c : Nat} {ts : List A} (h : DFr D lo hi W ao c ts) {k : Nat} (hk : k < ts.length) {a : A} (hK : D.K.Fresh lo hi W' ao c (ts.set k a)) (hF : D.Fr lo hi W' a) (ho : ∀ b, D.own a b ↔ D.own (el ts k) b) (hb : ∀ b, ¬ rowOwn ao ts b → ¬ D.own (el ts k) b → W'.heap[b]? = W.heap[b]?) : DFr D lo hi W' ao c (ts.set k a) := by
  refine ⟨hK, fun j hj => ?_, fun i j hij hj b h1 h2 => ?_⟩
  · have hj' : j < ts.length := by simpa using hj
    by_cases e : j = k
    · subst e; rw [el_set_same hk]; exact hF
    · rw [el_set_other e]
      refine hD.keep (h.2.1 j hj') fun b hob => hb b (h.head hD hj' hob) fun hob2 => ?_
      rcases Nat.lt_or_gt_of_ne e with hl | hl
      · exact h.2.2 j k hl hk b hob hob2
      · exact h.2.2 k j hl hj' b hob2 hob
  · have hj' : j < ts.length := by simpa using hj
    have e1 : D.own (el (ts.set k a) i) b → D.own (el ts i) b := by
      by_cases e : i = k
      · subst e; rw [el_set_same hk]; exact (ho b).1
      · rw [el_set_other e]; exact id
    have e2 : D.own (el (ts.set k a) j) b → D.own (el ts j) b := by
      by_cases e : j = k
      · subst e; rw [el_set_same hk]; exact (ho b).1
      · rw [el_set_other e]; exact id
    exact h.2.2 i j hij hj' b (e1 h1) (e2 h2)
theorem Between.set {lo hi : Nat} (W : World) {a : Addr} (h1 : lo ≤ a.block) (h2 : a.block < hi) (u : Value) : Between lo hi W (W.setCell a u) :=
  ⟨rfl, rfl, rfl, by simp [World.setCell], fun k _ hr => Below.heap_setCell W a u k (by omega)⟩
/-- A channel marked from k on. -/
def mkC (k : Int) (a : LChan) : LChan := (k, (k + 1) % 3 == 0, (a.2.2.1.1, a.2.2.1.2.1, markI (k + 1 + 1) a.2.2.1.2.2.length), (a.2.2.2.1.1, a.2.2.2.1.2.1, markW (k + 1 + 1 + a.2.2.1.2.2.length) a.2.2.2.1.2.2.length), (a.2.2.2.2.1, a.2.2.2.2.2.1, markW (k + 1 + 1 + a.2.2.1.2.2.length + 3 * a.2.2.2.1.2.2.length) a.2.2.2.2.2.2.length))
def nxC (k : Int) (a : LChan) : Int := k + 1 + 1 + a.2.2.1.2.2.length + 3 * a.2.2.2.1.2.2.length + 3 * a.2.2.2.2.2.2.length
def markC : Int → List LChan → List LChan
  | _, [] => []
  | k, a :: r => mkC k a :: markC (nxC k a) r
def endC : Int → List LChan → Int
  | k, [] => k
  | k, a :: r => endC (nxC k a) r
theorem markC_len : ∀ (k : Int) (l : List LChan), (markC k l).length = l.length
  | _, [] => rfl
  | k, a :: r => by simp [markC, markC_len (nxC k a) r]
theorem endC_app : ∀ (k : Int) (a b : List LChan), endC k (a ++ b) = endC (endC k a) b
  | _, [], _ => rfl
  | k, x :: r, b => by simp [endC, endC_app (nxC k x) r b]
theorem markC_app : ∀ (k : Int) (a b : List LChan), markC k (a ++ b) = markC k a ++ markC (endC k a) b
  | _, [], _ => rfl
  | k, x :: r, b => by simp [markC, endC, markC_app (nxC k x) r b]
theorem endC_succ {k : Int} {ts : List LChan} {i : Nat} (h : i < ts.length) : endC k (ts.take (i + 1)) = nxC (endC k (ts.take i)) (el ts i) := by rw [take_succ_el h, endC_app]; rfl
theorem endC_is : ∀ (k : Int) (l : List LChan), k ≤ endC k l ∧ endC k l ≤ k + 2 * l.length + 3 * totChan l
  | k, [] => by simp [endC, totChan]
  | k, a :: r => by
    have h := endC_is (nxC k a) r
    have e : totChan (a :: r) = sizeChan a + totChan r := by simp [totChan]
    rw [endC, e]
    unfold nxC sizeChan at *
    simp only [List.length_cons]
    omega
/-- Marked up to i. -/
def midC (k : Int) (ts : List LChan) (i : Nat) : List LChan := markC k (ts.take i) ++ ts.drop i
theorem midC_len (k : Int) (ts : List LChan) {i : Nat} (h : i ≤ ts.length) : (midC k ts i).length = ts.length := by simp [midC, markC_len]; omega
theorem midC_el (k : Int) {ts : List LChan} {i : Nat} (h : i < ts.length) : el (midC k ts i) i = el ts i := by
  have hl : (markC k (ts.take i)).length = i := by rw [markC_len]; simp; omega
  have := el_app_right (markC k (ts.take i)) (ts.drop i) 0
  rw [hl, Nat.add_zero, el_drop, Nat.add_zero] at this
  exact this
theorem midC_set (k : Int) {ts : List LChan} {i : Nat} (h : i < ts.length) : (midC k ts i).set i (mkC (endC k (ts.take i)) (el ts i)) = midC k ts (i + 1) := by
  have hl : (markC k (ts.take i)).length = i := by rw [markC_len]; simp; omega
  rw [midC, midC, take_succ_el h, markC_app, List.set_append_right _ _ (by omega), hl, Nat.sub_self, List.drop_eq_getElem_cons h, List.set_cons_zero, List.append_assoc]
  rfl
theorem midC_zero (k : Int) (ts : List LChan) : midC k ts 0 = ts := by simp [midC, markC]
theorem midC_all (k : Int) (ts : List LChan) : midC k ts ts.length = markC k ts := by simp [midC]
theorem hChan_set2 {us : List LChan} {i : Nat} (hi : i < us.length) (k : Int) (b : Bool) : ((hChan.flat us).set (i * 5) (.int .i64 k)).set (i * 5 + 1) (.bool b) = hChan.flat (us.set i (k, b, (el us i).2.2)) := by
  have hlen : (hChan.flat us).length = us.length * 5 := hChan.flat_len us
  refine hChan.flat_of _ _ (by simp [hlen]; rfl) fun j hj q hq => ?_
  have hj' : j < us.length := by simpa using hj
  have hq' : q < 5 := hq
  have hsz : hChan.sz = 5 := rfl
  have hold := hChan.flat_at us j hj' q hq
  rw [hsz] at hold ⊢
  by_cases e : j = i
  · subst e
    rw [el_set_same hj']
    rcases (show q = 0 ∨ q = 1 ∨ q = 2 ∨ q = 3 ∨ q = 4 from by omega) with rfl | rfl | rfl | rfl | rfl
    · rw [set_far (by omega), Nat.add_zero, set_at (by omega)]; rfl
    · rw [set_at (by simp only [List.length_set]; omega)]; rfl
    · rw [set_far (by omega), set_far (by omega), hold]; rfl
    · rw [set_far (by omega), set_far (by omega), hold]; rfl
    · rw [set_far (by omega), set_far (by omega), hold]; rfl
  · rw [el_set_other e, set_far (by omega), set_far (by omega), hold]
theorem not_row {α β : Type} {K : Kind α} {L : Kind β} {lo hi lo' hi' : Nat} {W : World} {o o' : Option Addr} {c c' : Nat} {xs : List α} {ys : List β} (h : K.Fresh lo hi W o c xs) (h' : L.Fresh lo' hi' W o' c' ys) (hne : K.ty ≠ L.ty) {b : Nat} (hb : rowOwn o xs b) : ¬ rowOwn o' ys b := by
  intro hb'
  obtain ⟨_, _, _, cur, h3⟩ := h.lt hb
  obtain ⟨_, _, _, cur', h4⟩ := h'.lt hb'
  rw [h3] at h4
  simp at h4
  exact hne h4.2
theorem ne_HI : hChan.ty ≠ kI.ty := by decide
theorem ne_HW : hChan.ty ≠ kW.ty := by decide
theorem ne_IW : kI.ty ≠ kW.ty := by decide
/-- The head of element i is written. -/
theorem DFr.head2 {lo hi : Nat} {W : World} {g c : Nat} {us : List LChan} (h : DFr dChan lo hi W (some ⟨g, 0, none⟩) c us) {i : Nat} (hi' : i < us.length) (k : Int) (b : Bool) :
    DFr dChan lo hi ((W.setCell ⟨g, i * 5, none⟩ (.int .i64 k)).setCell ⟨g, i * 5 + 1, none⟩ (.bool b)) (some ⟨g, 0, none⟩) c (us.set i (k, b, (el us i).2.2)) := by
  have h1 : hChan.Fresh lo hi W (some ⟨g, 0, none⟩) c us := h.1
  obtain ⟨g2, e2, hg1, hg2, hg3, ho⟩ := h1.at (show 0 < us.length by omega)
  simp at e2; subst e2
  have hblk : ∀ b', b' ≠ g → (((W.setCell ⟨g, i * 5, none⟩ (.int .i64 k)).setCell ⟨g, i * 5 + 1, none⟩ (.bool b)).heap[b']? = W.heap[b']?) := fun b' hb' => by
    rw [Below.heap_setCell _ _ _ _ (by simpa using hb'), Below.heap_setCell _ _ _ _ (by simpa using hb')]
  refine DFr.put dChan_ok h hi' ?_ ?_ (fun b' => Iff.rfl) fun b' h1 _ => hblk b' fun e => h1 ⟨by omega, by rw [e]⟩
  · show hChan.Fresh _ _ _ _ _ _
    have hs := ((World.ownsRow.stored ho (i * 5) (.int .i64 k)).1.stored (i * 5 + 1) (.bool b)).1
    rw [hChan_set2 hi' k b] at hs
    refine .inr ⟨g, rfl, hg2, ?_⟩
    simpa using hs
  · refine dChan_ok.keep (h.2.1 i hi') fun b' hob => hblk b' fun e => ?_
    subst e
    exact h.head dChan_ok hi' hob ⟨by omega, rfl⟩
/-- Row 1 of element i is turned. -/
theorem DFr.row1 {lo hi : Nat} {W W' : World} {ao : Option Addr} {c : Nat} {us : List LChan} (h : DFr dChan lo hi W ao c us) {i : Nat} (hi' : i < us.length) {b' : List (Int)} (hl : b'.length = (el us i).2.2.1.2.2.length) (hF : kI.Fresh lo hi W' (el us i).2.2.1.1 (el us i).2.2.1.2.1 b') (hO : OnlyAt (eff (el us i).2.2.1.1 (el us i).2.2.1.2.2.length) W W') :
    DFr dChan lo hi W' ao c (us.set i ((el us i).1, (el us i).2.1, ((el us i).2.2.1.1, (el us i).2.2.1.2.1, b'), (el us i).2.2.2)) := by
  have hf := h.2.1 i hi'
  have h1 : hChan.Fresh lo hi W ao c us := h.1
  have hr : kI.Fresh lo hi W (el us i).2.2.1.1 (el us i).2.2.1.2.1 (el us i).2.2.1.2.2 := hf.1
  refine DFr.put dChan_ok h hi' ?_ ⟨hF, hf.2.1.keepB fun b hb => only_own hO (not_row hf.2.1 hr ne_IW.symm hb), hf.2.2.1.keepB fun b hb => only_own hO (not_row hf.2.2.1 hr ne_IW.symm hb), hf.2.2.2⟩ (fun b => ?_) fun b _ h2 => only_own hO fun hr => h2 (.inl hr)
  · show hChan.Fresh _ _ _ _ _ _
    have e : hChan.flat (us.set i ((el us i).1, (el us i).2.1, ((el us i).2.2.1.1, (el us i).2.2.1.2.1, b'), (el us i).2.2.2)) = hChan.flat us := by
      refine (hChan.flat_of _ _ (by rw [hChan.flat_len]; simp) fun j hj q hq => ?_).symm
      have hj' : j < us.length := by simpa using hj
      rw [hChan.flat_at us j hj' q hq]
      by_cases e : j = i
      · subst e; rw [el_set_same hj']; simp only [hChan, hl]
      · rw [el_set_other e]
    have hk : hChan.Fresh lo hi W' ao c us := h1.keepB fun b hb => only_own hO (not_row h1 hr ne_HI hb)
    rcases hk with hk | ⟨g, e1, hg, ho⟩
    · rw [hk] at hi'; simp at hi'
    · refine .inr ⟨g, e1, hg, ?_⟩
      rw [e]; simpa using ho
  · show (rowOwn _ b' b ∨ _) ↔ _
    rw [rowOwn_len hl]; exact Iff.rfl
/-- Row 2 of element i is turned. -/
theorem DFr.row2 {lo hi : Nat} {W W' : World} {ao : Option Addr} {c : Nat} {us : List LChan} (h : DFr dChan lo hi W ao c us) {i : Nat} (hi' : i < us.length) {b' : List (Int × Int × Int)} (hl : b'.length = (el us i).2.2.2.1.2.2.length) (hF : kW.Fresh lo hi W' (el us i).2.2.2.1.1 (el us i).2.2.2.1.2.1 b') (hO : OnlyAt (eff (el us i).2.2.2.1.1 (el us i).2.2.2.1.2.2.length) W W') :
    DFr dChan lo hi W' ao c (us.set i ((el us i).1, (el us i).2.1, (el us i).2.2.1, ((el us i).2.2.2.1.1, (el us i).2.2.2.1.2.1, b'), (el us i).2.2.2.2)) := by
  have hf := h.2.1 i hi'
  have h1 : hChan.Fresh lo hi W ao c us := h.1
  have hr : kW.Fresh lo hi W (el us i).2.2.2.1.1 (el us i).2.2.2.1.2.1 (el us i).2.2.2.1.2.2 := hf.2.1
  refine DFr.put dChan_ok h hi' ?_ ⟨hf.1.keepB fun b hb => only_own hO (not_row hf.1 hr ne_IW hb), hF, hf.2.2.1.off hf.2.2.2.symm hO, by rw [hl]; exact hf.2.2.2⟩ (fun b => ?_) fun b _ h2 => only_own hO fun hr => h2 (.inr (.inl hr))
  · show hChan.Fresh _ _ _ _ _ _
    have e : hChan.flat (us.set i ((el us i).1, (el us i).2.1, (el us i).2.2.1, ((el us i).2.2.2.1.1, (el us i).2.2.2.1.2.1, b'), (el us i).2.2.2.2)) = hChan.flat us := by
      refine (hChan.flat_of _ _ (by rw [hChan.flat_len]; simp) fun j hj q hq => ?_).symm
      have hj' : j < us.length := by simpa using hj
      rw [hChan.flat_at us j hj' q hq]
      by_cases e : j = i
      · subst e; rw [el_set_same hj']; simp only [hChan, hl]
      · rw [el_set_other e]
    have hk : hChan.Fresh lo hi W' ao c us := h1.keepB fun b hb => only_own hO (not_row h1 hr ne_HW hb)
    rcases hk with hk | ⟨g, e1, hg, ho⟩
    · rw [hk] at hi'; simp at hi'
    · refine .inr ⟨g, e1, hg, ?_⟩
      rw [e]; simpa using ho
  · show (_ ∨ rowOwn _ b' b ∨ _) ↔ _
    rw [rowOwn_len hl]; exact Iff.rfl
/-- Row 3 of element i is turned. -/
theorem DFr.row3 {lo hi : Nat} {W W' : World} {ao : Option Addr} {c : Nat} {us : List LChan} (h : DFr dChan lo hi W ao c us) {i : Nat} (hi' : i < us.length) {b' : List (Int × Int × Int)} (hl : b'.length = (el us i).2.2.2.2.2.2.length) (hF : kW.Fresh lo hi W' (el us i).2.2.2.2.1 (el us i).2.2.2.2.2.1 b') (hO : OnlyAt (eff (el us i).2.2.2.2.1 (el us i).2.2.2.2.2.2.length) W W') :
    DFr dChan lo hi W' ao c (us.set i ((el us i).1, (el us i).2.1, (el us i).2.2.1, (el us i).2.2.2.1, ((el us i).2.2.2.2.1, (el us i).2.2.2.2.2.1, b'))) := by
  have hf := h.2.1 i hi'
  have h1 : hChan.Fresh lo hi W ao c us := h.1
  have hr : kW.Fresh lo hi W (el us i).2.2.2.2.1 (el us i).2.2.2.2.2.1 (el us i).2.2.2.2.2.2 := hf.2.2.1
  refine DFr.put dChan_ok h hi' ?_ ⟨hf.1.keepB fun b hb => only_own hO (not_row hf.1 hr ne_IW hb), hf.2.1.off hf.2.2.2 hO, hF, by rw [hl]; exact hf.2.2.2⟩ (fun b => ?_) fun b _ h2 => only_own hO fun hr => h2 (.inr (.inr hr))
  · show hChan.Fresh _ _ _ _ _ _
    have e : hChan.flat (us.set i ((el us i).1, (el us i).2.1, (el us i).2.2.1, (el us i).2.2.2.1, ((el us i).2.2.2.2.1, (el us i).2.2.2.2.2.1, b'))) = hChan.flat us := by
      refine (hChan.flat_of _ _ (by rw [hChan.flat_len]; simp) fun j hj q hq => ?_).symm
      have hj' : j < us.length := by simpa using hj
      rw [hChan.flat_at us j hj' q hq]
      by_cases e : j = i
      · subst e; rw [el_set_same hj']; simp only [hChan, hl]
      · rw [el_set_other e]
    have hk : hChan.Fresh lo hi W' ao c us := h1.keepB fun b hb => only_own hO (not_row h1 hr ne_HW hb)
    rcases hk with hk | ⟨g, e1, hg, ho⟩
    · rw [hk] at hi'; simp at hi'
    · refine .inr ⟨g, e1, hg, ?_⟩
      rw [e]; simpa using ho
  · show (_ ∨ _ ∨ rowOwn _ b' b) ↔ _
    rw [rowOwn_len hl]; exact Iff.rfl
end
section
open Go.RowKit

theorem hd_at {lo hi : Nat} {W : World} {g c : Nat} {us : List LChan} (h : DFr dChan lo hi W (some ⟨g, 0, none⟩) c us) {i : Nat} (hi' : i < us.length) :
    W.cell? ⟨g, i * 5, none⟩ = some (.int .i64 (el us i).1) ∧ W.cell? ⟨g, i * 5 + 1, none⟩ = some (.bool ((el us i).2.1)) ∧ W.cell? ⟨g, i * 5 + 2, none⟩ = some (.slice (el us i).2.2.1.1 (el us i).2.2.1.2.2.length (el us i).2.2.1.2.1) ∧ W.cell? ⟨g, i * 5 + 3, none⟩ = some (.slice (el us i).2.2.2.1.1 (el us i).2.2.2.1.2.2.length (el us i).2.2.2.1.2.1) ∧ W.cell? ⟨g, i * 5 + 4, none⟩ = some (.slice (el us i).2.2.2.2.1 (el us i).2.2.2.2.2.2.length (el us i).2.2.2.2.2.1) ∧ W.frozen? ⟨g, i * 5, none⟩ = false ∧ W.frozen? ⟨g, i * 5 + 1, none⟩ = false ∧ lo ≤ g ∧ g < hi ∧ g < W.heap.size := by
  have h1 : hChan.Fresh lo hi W (some ⟨g, 0, none⟩) c us := h.1
  obtain ⟨g2, e2, hg1, hg2, hg3, ho⟩ := h1.at (show 0 < us.length by omega)
  simp at e2; subst e2
  obtain ⟨b0, off, eb, _, hc⟩ := hChan_at h1.in hi'
  obtain ⟨rfl, rfl⟩ : b0 = g ∧ off = 0 := by simp at eb; exact ⟨eb.1.symm, eb.2.symm⟩
  have hc' := hc i hi'
  simp only [Nat.zero_add] at hc'
  exact ⟨hc'.1, hc'.2.1, hc'.2.2.1, hc'.2.2.2.1, hc'.2.2.2.2, ho.frozenAt (i * 5), ho.frozenAt (i * 5 + 1), hg1, hg2, hg3⟩
set_option maxRecDepth 10000 in
set_option maxHeartbeats 8000000 in
theorem markChanS_any (lo hi : Nat) (ao : Option Addr) (c : Nat) (ts : List LChan) (k0 : Int) (w : World) (hl : ts.length ≤ 1048576) (ht : totChan ts ≤ 1048576) (hk0 : 0 ≤ k0) (hk1 : k0 ≤ 8000000) (hF : DFr dChan lo hi w ao c ts) :
    Calls Try.prog 30 #[.slice ao ts.length c, .int .i64 k0] w fun e w' => e = .returned (.int .i64 (endC k0 ts)) ∧ DFr dChan lo hi w' ao c (markC k0 ts) ∧ Between lo hi w w' := by
  rcases Nat.eq_zero_or_pos ts.length with h0 | h0
  · obtain rfl : ts = [] := List.length_eq_zero_iff.1 h0
    go_enter Try.func30, Try.ntmps30
    go_wp2
    go_loop [1, 5] (fun v i => v = .int .i64 k0 ∧ i = .int .i64 0) (fun _ _ => 0)
    case atStart => exact ⟨rfl, rfl⟩
    case round =>
      obtain ⟨rfl, rfl⟩ := hrel
      go_wp2
      go_ret
      exact ⟨rfl, DFr.nil _ _ _ _ _, Between.refl _ _ _⟩
  · have HF := hid hF
    have h1 : hChan.Fresh lo hi w ao c ts := hF.1
    obtain ⟨g, rfl, _⟩ := h1.at h0
    clear h1 hF
    have HT := hid ht
    clear ht
    go_enter Try.func30, Try.ntmps30
    go_wp2
    go_loopw [1, 5] (fun v i wr => ∃ (k : Nat) (kk : Int), k ≤ ts.length ∧ i = .int .i64 k ∧ v = .int .i64 kk ∧ Hid (kk = endC k0 (ts.take k)) ∧ Hid (DFr dChan lo hi wr (some ⟨g, 0, none⟩) c (midC k0 ts k)) ∧ Between lo hi w wr) (fun _ i _ => ts.length - (intOf i).toNat)
    case atStart => exact ⟨0, k0, Nat.zero_le _, rfl, rfl, rfl, by rw [Hid, midC_zero]; exact HF.out, Between.refl _ _ _⟩
    case round =>
      obtain ⟨k, kk, hk, rfl, rfl, HK, hD, hB⟩ := hrel
      by_cases hlt : k < ts.length
      · have HLT := hid hlt
        obtain ⟨us, hus⟩ : ∃ us, us = midC k0 ts k := ⟨_, rfl⟩
        have HU := hid hus
        have hul : us.length = ts.length := by rw [hus]; exact midC_len _ _ hk
        have hue : el us k = el ts k := by rw [hus]; exact midC_el _ hlt
        rw [← hus] at hD
        clear hus
        have hku : k < us.length := by omega
        have hbd : 0 ≤ kk ∧ kk ≤ 13242880 := by
          have h1 := endC_is k0 (ts.take k)
          have h2 := totChan_le ts k
          have h3 := HT.out
          rw [← HK.out] at h1
          simp only [List.length_take] at h1
          omega
        have hsz := totChan_el hlt
        have hsz2 : sizeChan (el ts k) ≤ 1048576 := by have := HT.out; omega
        clear hsz
        obtain ⟨⟨kap, cl, ⟨bo, bc, b⟩, ⟨so, sc, s⟩, ⟨ro, rc, r⟩⟩, ea⟩ : ∃ a, a = el ts k := ⟨_, rfl⟩
        rw [← ea] at hue hsz2
        have HEA := hid ea
        have HUE := hid hue
        clear ea
        have hsz3 : b.length + s.length + r.length ≤ 1048576 := by simp [sizeChan] at hsz2; omega
        clear hsz2
        obtain ⟨c0, c1, c2, c3, c4, f0, f1, hg1, hg2, hg3⟩ := hd_at hD.out hku
        rw [hue] at c0 c1 c2 c3 c4
        dsimp only at c0 c1 c2 c3 c4
        obtain ⟨W1, hW1⟩ : ∃ W1, W1 = (wr.setCell ⟨g, k * 5, none⟩ (.int .i64 kk)).setCell ⟨g, k * 5 + 1, none⟩ (.bool ((kk + 1) % 3 == 0)) := ⟨_, rfl⟩
        have D1 : Hid (DFr dChan lo hi W1 (some ⟨g, 0, none⟩) c (us.set k (kk, (kk + 1) % 3 == 0, (bo, bc, b), (so, sc, s), (ro, rc, r)))) := by
          have := DFr.head2 hD.out hku kk ((kk + 1) % 3 == 0)
          rw [hue] at this; rw [hW1]; exact this
        have hB1 : Between lo hi w W1 := by rw [hW1]; exact (hB.trans (Between.set _ hg1 hg2 _)).trans (Between.set _ hg1 hg2 _)
        have HW1 := hid hW1
        clear hW1 hue
        go_wp2_with fail
        rw [← HW1.out]
        have e1 : el (us.set k (kk, (kk + 1) % 3 == 0, (bo, bc, b), (so, sc, s), (ro, rc, r))) k = (kk, (kk + 1) % 3 == 0, (bo, bc, b), (so, sc, s), (ro, rc, r)) := el_set_same hku
        have l1 : k < (us.set k (kk, (kk + 1) % 3 == 0, (bo, bc, b), (so, sc, s), (ro, rc, r))).length := by simpa using hku
        have r1 : kI.Fresh lo hi W1 bo bc b := by have h := D1.out.2.1 k l1; rw [e1] at h; exact h.1
        refine (markIntS_any lo hi bo bc b (kk + 1 + 1) W1 (by omega) (by omega) (by omega) r1).mono ?_
        rintro e W2 ⟨rfl, hF1, hO1⟩
        have hB2 : Between lo hi w W2 := hB1.trans (r1.between hO1)
        have D2 : Hid (DFr dChan lo hi W2 (some ⟨g, 0, none⟩) c (us.set k (kk, (kk + 1) % 3 == 0, (bo, bc, (markI (kk + 1 + 1) b.length)), (so, sc, s), (ro, rc, r)))) := by
          have h := DFr.row1 D1.out l1 (b' := markI (kk + 1 + 1) b.length) (by rw [e1]; exact markI_len _ _) (by rw [e1]; exact hF1) (by rw [e1]; exact hO1)
          rw [List.set_set, e1] at h; exact h
        clear hF1 hO1 r1 e1 l1 D1 hB1
        have e2 : el (us.set k (kk, (kk + 1) % 3 == 0, (bo, bc, (markI (kk + 1 + 1) b.length)), (so, sc, s), (ro, rc, r))) k = (kk, (kk + 1) % 3 == 0, (bo, bc, (markI (kk + 1 + 1) b.length)), (so, sc, s), (ro, rc, r)) := el_set_same hku
        have l2 : k < (us.set k (kk, (kk + 1) % 3 == 0, (bo, bc, (markI (kk + 1 + 1) b.length)), (so, sc, s), (ro, rc, r))).length := by simpa using hku
        have r2 : kW.Fresh lo hi W2 so sc s := by have h := D2.out.2.1 k l2; rw [e2] at h; exact h.2.1
        obtain ⟨_, _, x2, x3, x4, _, _, _, _, z2⟩ := hd_at D2.out l2
        rw [e2] at x2 x3 x4
        dsimp only [markI_len, markW_len] at x2 x3 x4
        rw [markI_len] at x2
        go_wp2_with fail
        clear x2 x3 x4
        refine (markWaiterS_any lo hi so sc s (kk + 1 + 1 + b.length) W2 (by omega) (by omega) (by omega) r2).mono ?_
        rintro e W3 ⟨rfl, hF2, hO2⟩
        have hB3 : Between lo hi w W3 := hB2.trans (r2.between hO2)
        have D3 : Hid (DFr dChan lo hi W3 (some ⟨g, 0, none⟩) c (us.set k (kk, (kk + 1) % 3 == 0, (bo, bc, (markI (kk + 1 + 1) b.length)), (so, sc, (markW (kk + 1 + 1 + b.length) s.length)), (ro, rc, r)))) := by
          have h := DFr.row2 D2.out l2 (b' := markW (kk + 1 + 1 + b.length) s.length) (by rw [e2]; exact markW_len _ _) (by rw [e2]; exact hF2) (by rw [e2]; exact hO2)
          rw [List.set_set, e2] at h; exact h
        clear hF2 hO2 r2 e2 l2 D2 hB2
        have e3 : el (us.set k (kk, (kk + 1) % 3 == 0, (bo, bc, (markI (kk + 1 + 1) b.length)), (so, sc, (markW (kk + 1 + 1 + b.length) s.length)), (ro, rc, r))) k = (kk, (kk + 1) % 3 == 0, (bo, bc, (markI (kk + 1 + 1) b.length)), (so, sc, (markW (kk + 1 + 1 + b.length) s.length)), (ro, rc, r)) := el_set_same hku
        have l3 : k < (us.set k (kk, (kk + 1) % 3 == 0, (bo, bc, (markI (kk + 1 + 1) b.length)), (so, sc, (markW (kk + 1 + 1 + b.length) s.length)), (ro, rc, r))).length := by simpa using hku
        have r3 : kW.Fresh lo hi W3 ro rc r := by have h := D3.out.2.1 k l3; rw [e3] at h; exact h.2.2.1
        obtain ⟨_, _, x2, x3, x4, _, _, _, _, z3⟩ := hd_at D3.out l3
        rw [e3] at x2 x3 x4
        dsimp only [markI_len, markW_len] at x2 x3 x4
        rw [markI_len] at x2
        rw [markW_len] at x3
        go_wp2_with fail
        clear x2 x3 x4
        refine (markWaiterS_any lo hi ro rc r (kk + 1 + 1 + b.length + 3 * s.length) W3 (by omega) (by omega) (by omega) r3).mono ?_
        rintro e W4 ⟨rfl, hF3, hO3⟩
        have hB4 : Between lo hi w W4 := hB3.trans (r3.between hO3)
        have D4 : Hid (DFr dChan lo hi W4 (some ⟨g, 0, none⟩) c (us.set k (kk, (kk + 1) % 3 == 0, (bo, bc, (markI (kk + 1 + 1) b.length)), (so, sc, (markW (kk + 1 + 1 + b.length) s.length)), (ro, rc, (markW (kk + 1 + 1 + b.length + 3 * s.length) r.length))))) := by
          have h := DFr.row3 D3.out l3 (b' := markW (kk + 1 + 1 + b.length + 3 * s.length) r.length) (by rw [e3]; exact markW_len _ _) (by rw [e3]; exact hF3) (by rw [e3]; exact hO3)
          rw [List.set_set, e3] at h; exact h
        clear hF3 hO3 r3 e3 l3 D3 hB3
        go_wp2
        go_roundw
        case rel =>
          refine ⟨k + 1, nxC kk (kap, cl, (bo, bc, b), (so, sc, s), (ro, rc, r)), by omega, by go_num, rfl, ?_, ?_, hB4⟩
          · rw [Hid, endC_succ HLT.out, ← HK.out, ← HEA.out]
          · rw [Hid, ← midC_set k0 HLT.out, ← HK.out, ← HEA.out, ← HU.out]; exact D4.out
        case measure => simp [intOf]; omega
      · obtain rfl : k = ts.length := by omega
        rw [midC_all] at hD
        rw [List.take_length] at HK
        go_wp2
        go_ret
        exact ⟨ret_int HK.out, hD.out, hB⟩
set_option maxHeartbeats 2000000 in
theorem markHub_any (lo hi : Nat) (ao : Option Addr) (c : Nat) (ts : List LChan) (k0 : Int) (w : World) (hl : ts.length ≤ 1048576) (ht : totChan ts ≤ 1048576) (hk0 : 0 ≤ k0) (hk1 : k0 ≤ 8000000) (hF : DFr dChan lo hi w ao c ts) :
    Calls Try.prog 10 #[.agg #[.slice ao ts.length c], .int .i64 k0] w fun e w' => e = .returned (.int .i64 (endC k0 ts)) ∧ DFr dChan lo hi w' ao c (markC k0 ts) ∧ Between lo hi w w' := by
  have hB0 := below1 w (.cells #[.slice ao ts.length c] 28)
  have hF0 := hid (hF.later dChan_ok hB0)
  clear hF
  go_enter Try.func10, Try.ntmps10
  go_wp2_with fail
  refine (markChanS_any lo hi ao c ts k0 _ hl ht hk0 hk1 hF0.out).mono ?_
  rintro e w1 ⟨rfl, hF1, hb1⟩
  have H1 := hid (And.intro hF1 ((Between.of_below hB0).trans hb1))
  clear hF1 hb1 hF0 hB0
  go_wp2
  go_ret
  exact ⟨rfl, H1.out⟩
end
end Go.Proofs.Ytdjdbcfcccbhpaa
