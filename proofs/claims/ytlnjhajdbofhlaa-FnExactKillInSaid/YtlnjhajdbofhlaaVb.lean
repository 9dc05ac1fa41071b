
/- A row of a channel of a hub is put anew; the hub with those alone that are kept. No conditions but those written. -/
import Derived.Test.YtlnjhajdbofhlaaVa
import Derived.Test.YtlnjhajdbofhlaaMq
namespace Go.Proofs.Ytlnjhajdbofhlaa
open Go.RowKit Go.Maps

theorem DFr.put2 {A : Type} [Inhabited A] {D : Deep A} (hD : D.Ok) {lo hi hi' : Nat} {W W' : World} {ao : Option Addr} {c : Nat} {ts : List A} (h : DFr D lo hi W ao c ts) (hhi : hi ≤ hi') {k : Nat} (hk : k < ts.length) {a : A} (hK : D.K.Fresh lo hi' W' ao c (ts.set k a)) (hF : D.Fr lo hi' W' a) (ho : ∀ b, D.own a b → D.own (el ts k) b ∨ hi ≤ b) (hb : ∀ b, ¬ rowOwn ao ts b → b < hi → W'.heap[b]? = W.heap[b]?) : DFr D lo hi' W' ao c (ts.set k a) := by
  refine ⟨hK, fun j hj => ?_, fun i j hij hj b h1 h2 => ?_⟩
  · have hj' : j < ts.length := by simpa using hj
    by_cases e : j = k
    · subst e; rw [el_set_same hk]; exact hF
    · rw [el_set_other e]
      exact hD.wide (hD.keep (h.2.1 j hj') fun b hob => hb b (h.head hD hj' hob) (hD.lt (h.2.1 j hj') hob).2.1) (Nat.le_refl _) hhi
  · have hj' : j < ts.length := by simpa using hj
    have old : ∀ q, q < ts.length → D.own (el (ts.set k a) q) b → D.own (el ts q) b ∨ (hi ≤ b ∧ q = k) := fun q hq hq2 => by
      by_cases e : q = k
      · subst e; rw [el_set_same hk] at hq2
        rcases ho b hq2 with h | h
        · exact .inl h
        · exact .inr ⟨h, rfl⟩
      · rw [el_set_other e] at hq2; exact .inl hq2
    rcases old i (by omega) h1 with h3 | ⟨h3, e3⟩
    · rcases old j hj' h2 with h4 | ⟨h4, e4⟩
      · exact h.2.2 i j hij hj' b h3 h4
      · have := (hD.lt (h.2.1 i (by omega)) h3).2.1; omega
    · rcases old j hj' h2 with h4 | ⟨h4, e4⟩
      · have := (hD.lt (h.2.1 j hj') h4).2.1; omega
      · omega
theorem hd_frozen {lo hi : Nat} {W : World} {g c : Nat} {us : List LChan} (h : DFr dChan lo hi W (some ⟨g, 0, none⟩) c us) (h0 : 0 < us.length) (q : Nat) : W.frozen? ⟨g, q, none⟩ = false := by
  have h1 : hChan.Fresh lo hi W (some ⟨g, 0, none⟩) c us := h.1
  obtain ⟨g2, e2, _, _, _, ho⟩ := h1.at h0
  simp at e2; subst e2
  exact ho.frozenAt q
theorem hChan_newS {us : List LChan} {i : Nat} (hi : i < us.length) (o' : Option Addr) (c' : Nat) (b' : List (Int × Int × Int)) : (hChan.flat us).set (i * 5 + 3) (.slice o' b'.length c') = hChan.flat (us.set i ((el us i).1, (el us i).2.1, (el us i).2.2.1, (o', c', b'), (el us i).2.2.2.2)) := by
  have hlen : (hChan.flat us).length = us.length * 5 := hChan.flat_len us
  refine hChan.flat_of _ _ (by simp [hlen]; rfl) fun j hj q hq => ?_
  have hj' : j < us.length := by simpa using hj
  have hq' : q < 5 := hq
  have hsz : hChan.sz = 5 := rfl
  have hold := hChan.flat_at us j hj' q hq
  rw [hsz] at hold ⊢
  by_cases e : j = i
  · subst e
    rw [el_set_same hj']
    rcases (show q = 0 ∨ q = 1 ∨ q = 2 ∨ q = 3 ∨ q = 4 from by omega) with rfl | rfl | rfl | rfl | rfl
    · rw [set_far (by omega), hold]; rfl
    · rw [set_far (by omega), hold]; rfl
    · rw [set_far (by omega), hold]; rfl
    · rw [set_at (by omega)]; rfl
    · rw [set_far (by omega), hold]; rfl
  · rw [el_set_other e, set_far (by omega), hold]
theorem DFr.newS {lo hi hi' : Nat} {W : World} {g c : Nat} {us : List LChan} (h : DFr dChan lo hi W (some ⟨g, 0, none⟩) c us) {i : Nat} (hi0 : i < us.length) {o' : Option Addr} {c' : Nat} {b' : List (Int × Int × Int)} (hn : kW.Fresh hi hi' W o' c' b') (hhi : hi ≤ hi') :
    DFr dChan lo hi' (W.setCell ⟨g, i * 5 + 3, none⟩ (.slice o' b'.length c')) (some ⟨g, 0, none⟩) c (us.set i ((el us i).1, (el us i).2.1, (el us i).2.2.1, (o', c', b'), (el us i).2.2.2.2)) := by
  have h1 : hChan.Fresh lo hi W (some ⟨g, 0, none⟩) c us := h.1
  obtain ⟨g2, e2, hg1, hg2, hg3, ho⟩ := h1.at (show 0 < us.length by omega)
  simp at e2; subst e2
  have hblk : ∀ z, z ≠ g → (W.setCell ⟨g, i * 5 + 3, none⟩ (.slice o' b'.length c')).heap[z]? = W.heap[z]? := fun z hz => Below.heap_setCell _ _ _ _ (by simpa using hz)
  have hf : FrChan lo hi (W.setCell ⟨g, i * 5 + 3, none⟩ (.slice o' b'.length c')) _ _ _ _ _ _ _ _ _ := dChan_ok.keep (h.2.1 i hi0) fun z hob => hblk z fun e => by
    subst e; exact h.head dChan_ok hi0 hob ⟨by omega, rfl⟩
  have hnF := ((hn.setBelow (a := ⟨g, i * 5 + 3, none⟩) (by simpa using hg2) (.slice o' b'.length c')).wide (lo' := lo) (hi' := hi') (by omega) (Nat.le_refl _))
  have hnew : ∀ z, rowOwn o' b' z → hi ≤ z := fun z hz => (hn.lt hz).1
  refine DFr.put2 dChan_ok h hhi hi0 ?_ ⟨hf.1.wide (Nat.le_refl _) hhi, hnF, hf.2.2.1.wide (Nat.le_refl _) hhi, (Kind.Fresh.apart hf.2.2.1 hn (Nat.le_refl _)).symm⟩ (fun z hq => hq.elim (fun h => .inl (.inl h)) fun hq => hq.elim (fun h => .inr (hnew _ h)) fun h => .inl (.inr (.inr h))) fun z h1 _ => hblk z fun e => h1 ⟨by omega, by rw [e]⟩
  show hChan.Fresh _ _ _ _ _ _
  have hs := (World.ownsRow.stored ho (i * 5 + 3) (.slice o' b'.length c')).1
  rw [hChan_newS hi0 o' c' b'] at hs
  exact .inr ⟨g, rfl, by omega, by simpa using hs⟩
theorem hChan_newR {us : List LChan} {i : Nat} (hi : i < us.length) (o' : Option Addr) (c' : Nat) (b' : List (Int × Int × Int)) : (hChan.flat us).set (i * 5 + 4) (.slice o' b'.length c') = hChan.flat (us.set i ((el us i).1, (el us i).2.1, (el us i).2.2.1, (el us i).2.2.2.1, (o', c', b'))) := by
  have hlen : (hChan.flat us).length = us.length * 5 := hChan.flat_len us
  refine hChan.flat_of _ _ (by simp [hlen]; rfl) fun j hj q hq => ?_
  have hj' : j < us.length := by simpa using hj
  have hq' : q < 5 := hq
  have hsz : hChan.sz = 5 := rfl
  have hold := hChan.flat_at us j hj' q hq
  rw [hsz] at hold ⊢
  by_cases e : j = i
  · subst e
    rw [el_set_same hj']
    rcases (show q = 0 ∨ q = 1 ∨ q = 2 ∨ q = 3 ∨ q = 4 from by omega) with rfl | rfl | rfl | rfl | rfl
    · rw [set_far (by omega), hold]; rfl
    · rw [set_far (by omega), hold]; rfl
    · rw [set_far (by omega), hold]; rfl
    · rw [set_far (by omega), hold]; rfl
    · rw [set_at (by omega)]; rfl
  · rw [el_set_other e, set_far (by omega), hold]
theorem DFr.newR {lo hi hi' : Nat} {W : World} {g c : Nat} {us : List LChan} (h : DFr dChan lo hi W (some ⟨g, 0, none⟩) c us) {i : Nat} (hi0 : i < us.length) {o' : Option Addr} {c' : Nat} {b' : List (Int × Int × Int)} (hn : kW.Fresh hi hi' W o' c' b') (hhi : hi ≤ hi') :
    DFr dChan lo hi' (W.setCell ⟨g, i * 5 + 4, none⟩ (.slice o' b'.length c')) (some ⟨g, 0, none⟩) c (us.set i ((el us i).1, (el us i).2.1, (el us i).2.2.1, (el us i).2.2.2.1, (o', c', b'))) := by
  have h1 : hChan.Fresh lo hi W (some ⟨g, 0, none⟩) c us := h.1
  obtain ⟨g2, e2, hg1, hg2, hg3, ho⟩ := h1.at (show 0 < us.length by omega)
  simp at e2; subst e2
  have hblk : ∀ z, z ≠ g → (W.setCell ⟨g, i * 5 + 4, none⟩ (.slice o' b'.length c')).heap[z]? = W.heap[z]? := fun z hz => Below.heap_setCell _ _ _ _ (by simpa using hz)
  have hf : FrChan lo hi (W.setCell ⟨g, i * 5 + 4, none⟩ (.slice o' b'.length c')) _ _ _ _ _ _ _ _ _ := dChan_ok.keep (h.2.1 i hi0) fun z hob => hblk z fun e => by
    subst e; exact h.head dChan_ok hi0 hob ⟨by omega, rfl⟩
  have hnF := ((hn.setBelow (a := ⟨g, i * 5 + 4, none⟩) (by simpa using hg2) (.slice o' b'.length c')).wide (lo' := lo) (hi' := hi') (by omega) (Nat.le_refl _))
  have hnew : ∀ z, rowOwn o' b' z → hi ≤ z := fun z hz => (hn.lt hz).1
  refine DFr.put2 dChan_ok h hhi hi0 ?_ ⟨hf.1.wide (Nat.le_refl _) hhi, hf.2.1.wide (Nat.le_refl _) hhi, hnF, Kind.Fresh.apart hf.2.1 hn (Nat.le_refl _)⟩ (fun z hq => hq.elim (fun h => .inl (.inl h)) fun hq => hq.elim (fun h => .inl (.inr (.inl h))) fun h => .inr (hnew _ h)) fun z h1 _ => hblk z fun e => h1 ⟨by omega, by rw [e]⟩
  show hChan.Fresh _ _ _ _ _ _
  have hs := (World.ownsRow.stored ho (i * 5 + 4) (.slice o' b'.length c')).1
  rw [hChan_newR hi0 o' c' b'] at hs
  exact .inr ⟨g, rfl, by omega, by simpa using hs⟩
end Go.Proofs.Ytlnjhajdbofhlaa
