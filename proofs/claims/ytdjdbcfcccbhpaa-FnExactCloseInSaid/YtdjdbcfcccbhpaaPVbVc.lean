/- A row of a channel of a hub is put anew; the hub with those alone that are kept. No conditions but those written. The hub with those alone that are kept: the program. No conditions but those written. -/
import Derived.Test.YtdjdbcfcccbhpaaPVaMp
import Derived.Test.YtdjdbcfcccbhpaaPKeMq
namespace Go.Proofs.Ytdjdbcfcccbhpaa
section
open Go.RowKit Go.Maps

theorem DFr.put2 {A : Type} [Inhabited A] {D : Deep A} (hD : D.Ok) {lo hi hi' : Nat} {W W' : World} {ao : Option Addr} {c : Nat} {ts : List A} (h : DFr D lo hi W ao c ts) (hhi : hi ≤ hi') {k : Nat} (hk : k < ts.length) {a : A} (hK : D.K.Fresh lo hi' W' ao c (ts.set k a)) (hF : D.Fr lo hi' W' a) (ho : ∀ b, D.own a b → D.own (el ts k) b ∨ hi ≤ b) (hb : ∀ b, ¬ rowOwn ao ts b → b < hi → W'.heap[b]? = W.heap[b]?) : DFr D lo hi' W' ao c (ts.set k a) := by
  refine ⟨hK, fun j hj => ?_, fun i j hij hj b h1 h2 => ?_⟩
  · have hj' : j < ts.length := by simpa using hj
    by_cases e : j = k
    · subst e; rw [el_set_same hk]; exact hF
    · rw [el_set_other e]
      exact hD.wide (hD.keep (h.2.1 j hj') fun b hob => hb b (h.head hD hj' hob) (hD.lt (h.2.1 j hj') hob).2.1) (Nat.le_refl _) hhi
  · have hj' : j < ts.length := by simpa using hj
    have old : ∀ q, q < ts.length → D.own (el (ts.set k a) q) b → D.own (el ts q) b ∨ (hi ≤ b ∧ q = k) := fun q hq hq2 => by
      by_cases e : q = k
      · subst e; rw [el_set_same hk] at hq2
        rcases ho b hq2 with h | h
        · exact .inl h
        · exact .inr ⟨h, rfl⟩
      · rw [el_set_other e] at hq2; exact .inl hq2
    rcases old i (by omega) h1 with h3 | ⟨h3, e3⟩
    · rcases old j hj' h2 with h4 | ⟨h4, e4⟩
      · exact h.2.2 i j hij hj' b h3 h4
      · have := (hD.lt (h.2.1 i (by omega)) h3).2.1; omega
    · rcases old j hj' h2 with h4 | ⟨h4, e4⟩
      · have := (hD.lt (h.2.1 j hj') h4).2.1; omega
      · omega
theorem hd_frozen {lo hi : Nat} {W : World} {g c : Nat} {us : List LChan} (h : DFr dChan lo hi W (some ⟨g, 0, none⟩) c us) (h0 : 0 < us.length) (q : Nat) : W.frozen? ⟨g, q, none⟩ = false := by
  have h1 : hChan.Fresh lo hi W (some ⟨g, 0, none⟩) c us := h.1
  obtain ⟨g2, e2, _, _, _, ho⟩ := h1.at h0
  simp at e2; subst e2
  exact ho.frozenAt q
theorem hChan_newS {us : List LChan} {i : Nat} (hi : i < us.length) (o' : Option Addr) (c' : Nat) (b' : List (Int × Int × Int)) : (hChan.flat us).set (i * 5 + 3) (.slice o' b'.length c') = hChan.flat (us.set i ((el us i).1, (el us i).2.1, (el us i).2.2.1, (o', c', b'), (el us i).2.2.2.2)) := by
  have hlen : (hChan.flat us).length = us.length * 5 := hChan.flat_len us
  refine hChan.flat_of _ _ (by simp [hlen]; rfl) fun j hj q hq => ?_
  have hj' : j < us.length := by simpa using hj
  have hq' : q < 5 := hq
  have hsz : hChan.sz = 5 := rfl
  have hold := hChan.flat_at us j hj' q hq
  rw [hsz] at hold ⊢
  by_cases e : j = i
  · subst e
    rw [el_set_same hj']
    rcases (show q = 0 ∨ q = 1 ∨ q = 2 ∨ q = 3 ∨ q = 4 from by omega) with rfl | rfl | rfl | rfl | rfl
    · rw [set_far (by omega), hold]; rfl
    · rw [set_far (by omega), hold]; rfl
    · rw [set_far (by omega), hold]; rfl
    · rw [set_at (by omega)]; rfl
    · rw [set_far (by omega), hold]; rfl
  · rw [el_set_other e, set_far (by omega), hold]
theorem DFr.newS {lo hi hi' : Nat} {W : World} {g c : Nat} {us : List LChan} (h : DFr dChan lo hi W (some ⟨g, 0, none⟩) c us) {i : Nat} (hi0 : i < us.length) {o' : Option Addr} {c' : Nat} {b' : List (Int × Int × Int)} (hn : kW.Fresh hi hi' W o' c' b') (hhi : hi ≤ hi') :
    DFr dChan lo hi' (W.setCell ⟨g, i * 5 + 3, none⟩ (.slice o' b'.length c')) (some ⟨g, 0, none⟩) c (us.set i ((el us i).1, (el us i).2.1, (el us i).2.2.1, (o', c', b'), (el us i).2.2.2.2)) := by
  have h1 : hChan.Fresh lo hi W (some ⟨g, 0, none⟩) c us := h.1
  obtain ⟨g2, e2, hg1, hg2, hg3, ho⟩ := h1.at (show 0 < us.length by omega)
  simp at e2; subst e2
  have hblk : ∀ z, z ≠ g → (W.setCell ⟨g, i * 5 + 3, none⟩ (.slice o' b'.length c')).heap[z]? = W.heap[z]? := fun z hz => Below.heap_setCell _ _ _ _ (by simpa using hz)
  have hf : FrChan lo hi (W.setCell ⟨g, i * 5 + 3, none⟩ (.slice o' b'.length c')) _ _ _ _ _ _ _ _ _ := dChan_ok.keep (h.2.1 i hi0) fun z hob => hblk z fun e => by
    subst e; exact h.head dChan_ok hi0 hob ⟨by omega, rfl⟩
  have hnF := ((hn.setBelow (a := ⟨g, i * 5 + 3, none⟩) (by simpa using hg2) (.slice o' b'.length c')).wide (lo' := lo) (hi' := hi') (by omega) (Nat.le_refl _))
  have hnew : ∀ z, rowOwn o' b' z → hi ≤ z := fun z hz => (hn.lt hz).1
  refine DFr.put2 dChan_ok h hhi hi0 ?_ ⟨hf.1.wide (Nat.le_refl _) hhi, hnF, hf.2.2.1.wide (Nat.le_refl _) hhi, (Kind.Fresh.apart hf.2.2.1 hn (Nat.le_refl _)).symm⟩ (fun z hq => hq.elim (fun h => .inl (.inl h)) fun hq => hq.elim (fun h => .inr (hnew _ h)) fun h => .inl (.inr (.inr h))) fun z h1 _ => hblk z fun e => h1 ⟨by omega, by rw [e]⟩
  show hChan.Fresh _ _ _ _ _ _
  have hs := (World.ownsRow.stored ho (i * 5 + 3) (.slice o' b'.length c')).1
  rw [hChan_newS hi0 o' c' b'] at hs
  exact .inr ⟨g, rfl, by omega, by simpa using hs⟩
theorem hChan_newR {us : List LChan} {i : Nat} (hi : i < us.length) (o' : Option Addr) (c' : Nat) (b' : List (Int × Int × Int)) : (hChan.flat us).set (i * 5 + 4) (.slice o' b'.length c') = hChan.flat (us.set i ((el us i).1, (el us i).2.1, (el us i).2.2.1, (el us i).2.2.2.1, (o', c', b'))) := by
  have hlen : (hChan.flat us).length = us.length * 5 := hChan.flat_len us
  refine hChan.flat_of _ _ (by simp [hlen]; rfl) fun j hj q hq => ?_
  have hj' : j < us.length := by simpa using hj
  have hq' : q < 5 := hq
  have hsz : hChan.sz = 5 := rfl
  have hold := hChan.flat_at us j hj' q hq
  rw [hsz] at hold ⊢
  by_cases e : j = i
  · subst e
    rw [el_set_same hj']
    rcases (show q = 0 ∨ q = 1 ∨ q = 2 ∨ q = 3 ∨ q = 4 from by omega) with rfl | rfl | rfl | rfl | rfl
    · rw [set_far (by omega), hold]; rfl
    · rw [set_far (by omega), hold]; rfl
    · rw [set_far (by omega), hold]; rfl
    · rw [set_far (by omega), hold]; rfl
    · rw [set_at (by omega)]; rfl
  · rw [el_set_other e, set_far (by omega), hold]
theorem DFr.newR {lo hi hi' : Nat} {W : World} {g c : Nat} {us : List LChan} (h : DFr dChan lo hi W (some ⟨g, 0, none⟩) c us) {i : Nat} (hi0 : i < us.length) {o' : Option Addr} {c' : Nat} {b' : List (Int × Int × Int)} (hn : kW.Fresh hi hi' W o' c' b') (hhi : hi ≤ hi') :
    DFr dChan lo hi' (W.setCell ⟨g, i * 5 + 4, none⟩ (.slice o' b'.length c')) (some ⟨g, 0, none⟩) c (us.set i ((el us i).1, (el us i).2.1, (el us i).2.2.1, (el us i).2.2.2.1, (o', c', b'))) := by
  have h1 : hChan.Fresh lo hi W (some ⟨g, 0, none⟩) c us := h.1
  obtain ⟨g2, e2, hg1, hg2, hg3, ho⟩ := h1.at (show 0 < us.length by omega)
  simp at e2; subst e2
  have hblk : ∀ z, z ≠ g → (W.setCell ⟨g, i * 5 + 4, none⟩ (.slice o' b'.length c')).heap[z]? = W.heap[z]? := fun z hz => Below.heap_setCell _ _ _ _ (by simpa using hz)
  have hf : FrChan lo hi (W.setCell ⟨g, i * 5 + 4, none⟩ (.slice o' b'.length c')) _ _ _ _ _ _ _ _ _ := dChan_ok.keep (h.2.1 i hi0) fun z hob => hblk z fun e => by
    subst e; exact h.head dChan_ok hi0 hob ⟨by omega, rfl⟩
  have hnF := ((hn.setBelow (a := ⟨g, i * 5 + 4, none⟩) (by simpa using hg2) (.slice o' b'.length c')).wide (lo' := lo) (hi' := hi') (by omega) (Nat.le_refl _))
  have hnew : ∀ z, rowOwn o' b' z → hi ≤ z := fun z hz => (hn.lt hz).1
  refine DFr.put2 dChan_ok h hhi hi0 ?_ ⟨hf.1.wide (Nat.le_refl _) hhi, hf.2.1.wide (Nat.le_refl _) hhi, hnF, Kind.Fresh.apart hf.2.1 hn (Nat.le_refl _)⟩ (fun z hq => hq.elim (fun h => .inl (.inl h)) fun hq => hq.elim (fun h => .inl (.inr (.inl h))) fun h => .inr (hnew _ h)) fun z h1 _ => hblk z fun e => h1 ⟨by omega, by rw [e]⟩
  show hChan.Fresh _ _ _ _ _ _
  have hs := (World.ownsRow.stored ho (i * 5 + 4) (.slice o' b'.length c')).1
  rw [hChan_newR hi0 o' c' b'] at hs
  exact .inr ⟨g, rfl, by omega, by simpa using hs⟩
end
section
open Go.RowKit Go.Maps

/-- A channel with those alone that are kept. -/
def keepP (f : Int → Int) (c : PChan) : PChan := (c.1, c.2.1, c.2.2.1, keptW f c.2.2.2.1, keptW f c.2.2.2.2)
/-- The first k channels done. -/
def mixP (f : Int → Int) (ps : List PChan) (k : Nat) : List PChan := (ps.take k).map (keepP f) ++ ps.drop k
theorem mixP_zero (f : Int → Int) (ps : List PChan) : mixP f ps 0 = ps := by simp [mixP]
theorem mixP_all (f : Int → Int) (ps : List PChan) : mixP f ps ps.length = ps.map (keepP f) := by simp [mixP]
theorem mixP_len (f : Int → Int) (ps : List PChan) {k : Nat} (h : k ≤ ps.length) : (mixP f ps k).length = ps.length := by simp [mixP]; omega
theorem mixP_el (f : Int → Int) {ps : List PChan} {k : Nat} (h : k < ps.length) : el (mixP f ps k) k = el ps k := by
  have hl : ((ps.take k).map (keepP f)).length = k := by simp; omega
  have := el_app_right ((ps.take k).map (keepP f)) (ps.drop k) 0
  rw [hl, Nat.add_zero, el_drop, Nat.add_zero] at this
  exact this
theorem mixP_set (f : Int → Int) {ps : List PChan} {k : Nat} (h : k < ps.length) : (mixP f ps k).set k (keepP f (el ps k)) = mixP f ps (k + 1) := by
  have hl : ((ps.take k).map (keepP f)).length = k := by simp; omega
  rw [mixP, mixP, take_succ_el h, List.set_append_right _ _ (by omega), hl, Nat.sub_self, List.drop_eq_getElem_cons h, List.set_cons_zero, List.map_append, List.append_assoc]
  rfl
set_option maxRecDepth 100000 in
set_option maxHeartbeats 16000000 in
theorem withOnly_any (ao : Option Addr) (cap : Nat) (ts : List LChan) (g n : Nat) (f : Int → Int) (w : World) (hl : ts.length ≤ 1048576) (ht : totChan ts ≤ 1048576) (hz : DIn dChan w.heap.size w ao ts) (hM : MapF w g n f) (hok : ∀ x ∈ wts (ts.map valChan), TaskN x.1) :
    Calls Try.prog 27 #[.agg #[.slice ao ts.length cap], .map (some g)] w fun e w' => AnsHub w ((ts.map valChan).map (keepP f)) e w' := by
  have HZ := hid hz
  have HTT := hid ht
  have HM := hid hM
  have HOK := hid hok
  clear hz ht hM hok
  obtain ⟨V0, hV0⟩ : ∃ V0, V0 = (w.alloc (.cells #[.slice ao ts.length cap] 28)).alloc (.cells #[.slice none 0 0] 28) := ⟨_, rfl⟩
  have hB0 : Below w.heap.size w V0 := by rw [hV0]; exact below2 _ _ _
  have A0 : Hid (Bx V0 w.heap.size [.slice ao ts.length cap]) := by rw [hV0]; exact (Bx.new [.slice ao ts.length cap] _ rfl).alloc _
  have R0 : Hid (Bx V0 (w.heap.size + 1) [.slice none 0 0]) := by rw [hV0]; exact Bx.new [.slice none 0 0] _ (by simp)
  have hs0 : V0.heap.size = w.heap.size + 1 + 1 := by rw [hV0]; simp
  have HV0 := hid hV0
  clear hV0
  go_enter Try.func27, Try.ntmps27
  go_wp2_with fail
  rw [← HV0.out]
  refine (copyHub_any ao cap ts V0 hl HTT.out (HZ.out.later dChan_ok hB0)).mono ?_
  rintro e w1 ⟨⟨o, c, us0, rfl, hv0, hF0⟩, hb1⟩
  rw [hs0] at hF0
  have hB1 := hB0.trans (hb1.mono hB0.size)
  have A1 := hid (A0.out.later hb1)
  have R1 := hid (R0.out.later hb1)
  have hs1 : w.heap.size + 1 + 1 ≤ w1.heap.size := by rw [← hs0]; exact hb1.size
  have F1 := hid hF0
  have HV := hid hv0
  rw [List.length_map]
  obtain ⟨w2, hw2⟩ : ∃ w2, w2 = w1.alloc (.cells #[.slice o ts.length c] 28) := ⟨_, rfl⟩
  have hbn : Below w1.heap.size w1 w2 := by rw [hw2]; exact below1 _ _
  have hB2 := hB1.trans (hbn.mono hB1.size)
  have A2 := hid (A1.out.later hbn)
  have R2 := hid (R1.out.later hbn)
  have F2 := hid (DFr.wide dChan_ok (DFr.later dChan_ok F1.out hbn) (Nat.le_refl _) hbn.size)
  obtain ⟨pN, hpN⟩ : ∃ pN, pN = w1.heap.size := ⟨_, rfl⟩
  have N2 : Hid (Bx w2 pN [.slice o ts.length c]) := by rw [hw2, hpN]; exact Bx.new [.slice o ts.length c] _ rfl
  have hpn : w.heap.size + 1 + 1 ≤ pN := by rw [hpN]; exact hs1
  have M2 := hid (HM.out.keep (hB2.block g HM.out.lt))
  have hgB : g < w.heap.size := HM.out.lt
  have HOG : Hid (∀ q, 0 < ts.length → o = some ⟨q, 0, none⟩ → w.heap.size + 1 + 1 ≤ q ∧ q < pN) := fun q h0 eq => by
    obtain ⟨g2, e2, h1, h2, _⟩ := (show hChan.Fresh _ _ _ _ _ _ from F1.out.1).at (by have := congrArg List.length HV.out; simp at this; omega)
    rw [eq] at e2; simp at e2; subst e2; rw [hpN]; exact ⟨h1, h2⟩
  have HW2 := hid hw2
  have a0 := A1.out.c 0 rfl
  have az := A1.out.size
  clear hb1 hF0 hv0 A0 R0 HV0 hbn hw2 F1 hB0 A1 R1
  go_wp2
  rw [← HW2.out, ← hpN]
  clear a0 az HW2 hpN A2
  go_loopw [13] (fun i wr => ∃ (k : Nat) (us : List LChan), k ≤ ts.length ∧ i = .int .i64 (k : Int) ∧ us.length = ts.length ∧ Hid (us.map valChan = mixP f (ts.map valChan) k) ∧ Hid (DFr dChan (w.heap.size + 1 + 1) wr.heap.size wr o c us) ∧ Hid (Bx wr pN [.slice o ts.length c]) ∧ Hid (Bx wr (w.heap.size + 1) [.slice none 0 0]) ∧ Hid (MapF wr g n f) ∧ Below w.heap.size w wr) (fun i _ => ts.length - (intOf i).toNat)
  case atStart => exact ⟨0, us0, Nat.zero_le _, rfl, by have := congrArg List.length HV.out; simpa using this, by rw [Hid, mixP_zero]; exact HV.out, F2, N2, R2, M2, hB2⟩
  case round =>
    obtain ⟨k, us, hk, rfl, hul, hV, hD, hN, hR, hMp, hB⟩ := hrel
    by_cases hlt : k < ts.length
    · have HLT := hid hlt
      have HKU : Hid (k < us.length) := by rw [Hid, hul]; exact hlt
      obtain ⟨b0, off, rfl, hb, hc⟩ := hChan_at HZ.out.1 hlt
      have e1 := (hB.cell (p := ⟨b0, off + k * 5, none⟩) hb).trans (hc k hlt).1
      have e2 := (hB.cell (p := ⟨b0, off + k * 5 + 1, none⟩) hb).trans (hc k hlt).2.1
      have e3 := (hB.cell (p := ⟨b0, off + k * 5 + 2, none⟩) hb).trans (hc k hlt).2.2.1
      have e4 := (hB.cell (p := ⟨b0, off + k * 5 + 3, none⟩) hb).trans (hc k hlt).2.2.2.1
      have e5 := (hB.cell (p := ⟨b0, off + k * 5 + 4, none⟩) hb).trans (hc k hlt).2.2.2.2
      have hI := HZ.out.2 k hlt
      have hsz := totChan_el hlt
      have hmv : el (ts.map valChan) k = valChan (el ts k) := by simp [el, hlt]
      have hev : ∀ x ∈ (el ts k).2.2.2.1.2.2 ++ (el ts k).2.2.2.2.2.2, TaskN x.1 := fun x hx => HOK.out x (by
        simp only [wts, List.mem_flatMap]; exact ⟨valChan (el ts k), el_val hlt, hx⟩)
      obtain ⟨⟨kap, cl, ⟨bo, bc, b⟩, ⟨so, sc, s⟩, ⟨ro, rc, r⟩⟩, ex⟩ : ∃ v, v = el ts k := ⟨_, rfl⟩
      rw [← ex] at e1 e2 e3 e4 e5 hI hsz hmv hev
      have HI : Hid (InChan w.heap.size w bo b so s ro r) := hI
      have HTS : Hid (∀ x ∈ s, TaskN x.1) := fun x hx => hev x (List.mem_append_left _ hx)
      have HTR : Hid (∀ x ∈ r, TaskN x.1) := fun x hx => hev x (List.mem_append_right _ hx)
      have HMV : Hid (el (ts.map valChan) k = (kap, cl, b, s, r)) := hmv
      have hsz3 : b.length + s.length + r.length ≤ 1048576 := by have := HTT.out; simp [sizeChan] at hsz; omega
      have hva : valChan (el us k) = (kap, cl, b, s, r) := by
        have h1 : el (us.map valChan) k = valChan (el us k) := by simp [el, HKU.out]
        rw [← h1, hV.out, mixP_el f (by simpa using hlt), hmv]; rfl
      have HVA := hid hva
      clear ex hc hI hsz hmv hev hva
      dsimp only at e1 e2 e3 e4 e5
      obtain ⟨gg, eo, _⟩ := (show hChan.Fresh _ _ _ _ _ _ from hD.out.1).at (show 0 < us.length by omega)
      subst eo
      obtain ⟨VV, hVV⟩ : ∃ VV, VV = wr.alloc (.cells #[.int .i64 kap, .bool cl, .slice bo b.length bc, .slice so s.length sc, .slice ro r.length rc] 45) := ⟨_, rfl⟩
      have hbV : Below wr.heap.size wr VV := by rw [hVV]; exact below1 _ _
      have hBV := hB.trans (hbV.mono hB.size)
      have DV := hid (DFr.wide dChan_ok (DFr.later dChan_ok hD.out hbV) (Nat.le_refl _) hbV.size)
      have NV := hid (hN.out.later hbV)
      have RV := hid (hR.out.later hbV)
      have MV := hid (hMp.out.later hbV)
      obtain ⟨pC, hpC⟩ : ∃ pC, pC = wr.heap.size := ⟨_, rfl⟩
      have CV : Hid (Bx VV pC [.int .i64 kap, .bool cl, .slice bo b.length bc, .slice so s.length sc, .slice ro r.length rc]) := by rw [hVV, hpC]; exact Bx.new [.int .i64 kap, .bool cl, .slice bo b.length bc, .slice so s.length sc, .slice ro r.length rc] _ rfl
      have hpc : pN < pC := by rw [hpC]; exact hN.out.size
      have HVV := hid hVV
      have hgn := HOG.out gg (by omega) rfl
      have hkl : (k : Int) < (ts.length : Int) := by omega
      have n0 := NV.out.c 0 rfl
      have c3 := CV.out.c 3 rfl
      have c4 := CV.out.c 4 rfl
      clear hbV hVV hD hN hR hMp
      go_wp2
      rw [← HVV.out, ← hpC]
      clear e1 e2 e3 e4 e5 HVV hpC
      go_region_with (first
        | (go_at_call 44; refine (onlyThose_any so sc s g n f _ (by omega) (by exact HI.out.2.1.later hBV.drew) (by exact MV.out.keep rfl) HTS.out).mono ?_; rintro e w4 ⟨⟨os, cs, rfl, hFs⟩, hbxs⟩; have hbs : Below VV.heap.size VV w4 := (Below.refl VV.heap.size VV).drew.trans hbxs; have hBs : Below w.heap.size w w4 := hBV.trans (hbs.mono hBV.size); have hzs := hbs.size; have Ds := hid (DFr.later dChan_ok DV.out hbs); have Ns := hid (NV.out.later hbs); have Cs := hid (CV.out.later hbs); have Rs := hid (RV.out.later hbs); have Ms := hid (MV.out.later hbs); have Fs : Hid (kW.Fresh VV.heap.size w4.heap.size w4 os cs (keptW f s)) := hFs; have hxs := hd_at Ds.out HKU.out; have x3s := hxs.2.2.2.1; have x4s := hxs.2.2.2.2.1; have zs := hd_frozen Ds.out (by have := HKU.out; omega) (k * 5 + 3); have ns := Ns.out.c 0 rfl; have p3s := Cs.out.c 3 rfl; have p4s := Cs.out.c 4 rfl; clear hbxs hFs hbs hxs))
      all_goals
        obtain ⟨W5, hW5⟩ : ∃ W5, W5 = w4.setCell ⟨gg, k * 5 + 3, none⟩ (.slice os (keptW f s).length cs) := ⟨_, rfl⟩
        have D5 := hid (DFr.newS Ds.out HKU.out Fs.out hzs)
        rw [← hW5] at D5
        have hB5 : Below w.heap.size w W5 := by rw [hW5]; exact hBs.setCell (p := ⟨gg, k * 5 + 3, none⟩) (by dsimp only; omega) _
        have N5 : Hid (Bx W5 pN [.slice (some ⟨gg, 0, none⟩) ts.length c]) := by rw [hW5]; exact Ns.out.other (a := ⟨gg, k * 5 + 3, none⟩) (by dsimp only; omega) _
        have C5 : Hid (Bx W5 pC [.int .i64 kap, .bool cl, .slice bo b.length bc, .slice so s.length sc, .slice ro r.length rc]) := by rw [hW5]; exact Cs.out.other (a := ⟨gg, k * 5 + 3, none⟩) (by dsimp only; omega) _
        have R5 : Hid (Bx W5 (w.heap.size + 1) [.slice none 0 0]) := by rw [hW5]; exact Rs.out.other (a := ⟨gg, k * 5 + 3, none⟩) (by dsimp only; omega) _
        have M5 : Hid (MapF W5 g n f) := by rw [hW5]; exact Ms.out.keep (Below.heap_setCell _ _ _ _ (by dsimp only; omega))
        have hz5 : W5.heap.size = w4.heap.size := by rw [hW5]; simp [World.setCell]
        have HW5 := hid hW5
        have HKU5 : Hid (k < (us.set k ((el us k).1, (el us k).2.1, (el us k).2.2.1, (os, cs, keptW f s), (el us k).2.2.2.2)).length) := by rw [Hid, List.length_set]; exact HKU.out
        rw [← hz5] at D5
        clear hW5 DV NV CV RV MV n0 c3 c4 Ds Ns Cs Rs Ms Fs x3s x4s zs ns p3s p4s
        have n0 := N5.out.c 0 rfl
        have c3 := C5.out.c 3 rfl
        have c4 := C5.out.c 4 rfl
        go_wp2
        rw [← HW5.out]
        go_region_with (first
          | (go_at_call 44; refine (onlyThose_any ro rc r g n f _ (by omega) (by exact HI.out.2.2.later hB5.drew) (by exact M5.out.keep rfl) HTR.out).mono ?_; rintro e w6 ⟨⟨or, cr, rfl, hFr⟩, hbxr⟩; have hbr : Below W5.heap.size W5 w6 := (Below.refl W5.heap.size W5).drew.trans hbxr; have hBr : Below w.heap.size w w6 := hB5.trans (hbr.mono hB5.size); have hzr := hbr.size; have Dr := hid (DFr.later dChan_ok D5.out hbr); have Nr := hid (N5.out.later hbr); have Cr := hid (C5.out.later hbr); have Rr := hid (R5.out.later hbr); have Mr := hid (M5.out.later hbr); have Fr : Hid (kW.Fresh W5.heap.size w6.heap.size w6 or cr (keptW f r)) := hFr; have hxr := hd_at Dr.out HKU5.out; have x3r := hxr.2.2.2.1; have x4r := hxr.2.2.2.2.1; have zr := hd_frozen Dr.out (by have := HKU5.out; omega) (k * 5 + 4); have nr := Nr.out.c 0 rfl; have p3r := Cr.out.c 3 rfl; have p4r := Cr.out.c 4 rfl; clear hbxr hFr hbr hxr))
        all_goals
          obtain ⟨W7, hW7⟩ : ∃ W7, W7 = w6.setCell ⟨gg, k * 5 + 4, none⟩ (.slice or (keptW f r).length cr) := ⟨_, rfl⟩
          have D7 := hid (DFr.newR Dr.out HKU5.out Fr.out hzr)
          rw [← hW7] at D7
          have hB7 : Below w.heap.size w W7 := by rw [hW7]; exact hBr.setCell (p := ⟨gg, k * 5 + 4, none⟩) (by dsimp only; omega) _
          have N7 : Hid (Bx W7 pN [.slice (some ⟨gg, 0, none⟩) ts.length c]) := by rw [hW7]; exact Nr.out.other (a := ⟨gg, k * 5 + 4, none⟩) (by dsimp only; omega) _
          have R7 : Hid (Bx W7 (w.heap.size + 1) [.slice none 0 0]) := by rw [hW7]; exact Rr.out.other (a := ⟨gg, k * 5 + 4, none⟩) (by dsimp only; omega) _
          have M7 : Hid (MapF W7 g n f) := by rw [hW7]; exact Mr.out.keep (Below.heap_setCell _ _ _ _ (by dsimp only; omega))
          have hz7 : W7.heap.size = w6.heap.size := by rw [hW7]; simp [World.setCell]
          have HW7 := hid hW7
          have D8 : Hid (DFr dChan (w.heap.size + 1 + 1) W7.heap.size W7 (some ⟨gg, 0, none⟩) c (us.set k ((el us k).1, (el us k).2.1, (el us k).2.2.1, (os, cs, keptW f s), (or, cr, keptW f r)))) := by
            have h := D7.out
            rw [List.set_set, el_set_same HKU.out] at h
            rw [Hid, hz7]; exact h
          have HV8 : Hid ((us.set k ((el us k).1, (el us k).2.1, (el us k).2.2.1, (os, cs, keptW f s), (or, cr, keptW f r))).map valChan = mixP f (ts.map valChan) (k + 1)) := by
            rw [Hid, List.map_set, hV.out, ← mixP_set f (by simpa using HLT.out), HMV.out]
            have e : valChan ((el us k).1, (el us k).2.1, (el us k).2.2.1, (os, cs, keptW f s), (or, cr, keptW f r)) = keepP f (kap, cl, b, s, r) := by
              have h := HVA.out
              simp only [valChan, Prod.mk.injEq] at h
              simp only [valChan, keepP, h.1, h.2.1, h.2.2.1]
            rw [e]
          clear hW7 Dr Nr Cr Rr Mr Fr x3r x4r zr nr p3r p4r D5 N5 C5 R5 M5 n0 c3 c4 D7
          go_wp2
          rw [← HW7.out]
          go_roundw
          case rel => exact ⟨k + 1, _, by omega, by go_num, by simp; omega, HV8, D8, N7, R7, M7, hB7⟩
          case measure => simp [intOf]; omega
    · obtain rfl : k = ts.length := by omega
      have hV2 : us.map valChan = (ts.map valChan).map (keepP f) := by
        have h := hV.out
        rw [show ts.length = (ts.map valChan).length by simp, mixP_all] at h; exact h
      have HV2 := hid hV2
      have n0 := hN.out.c 0 rfl
      have nz := hN.out.size
      have r0 := hR.out.c 0 rfl
      have rf0 := hR.out.f 0 rfl
      have rz := hR.out.size
      clear hV2
      go_wp2
      refine bodyPost_ret (v := .agg #[.slice o ts.length c]) (by simp [results, Try.results27, go_sem, r0]) rfl ⟨⟨o, c, us, by simp, HV2.out, ?_⟩, ?_⟩
      · refine DFr.wide (lo := w.heap.size + 1 + 1) (hi := wr.heap.size) dChan_ok (DFr.keep dChan_ok hD.out fun q h1 _ _ => Below.heap_setCell wr _ _ q (by dsimp only; omega)) (by omega) (by simp [World.setCell])
      · exact hB.setCell (p := ⟨w.heap.size + 1, 0, none⟩) (by simp) _
end
end Go.Proofs.Ytdjdbcfcccbhpaa
