/- Contracts for a law whose answer is a hub. No conditions but those written. Those that are woken leave a hub, each told once: the specification. No conditions but those written. -/
import Derived.Test.YtdjdbcfcccbhpaaPYgKo
import Derived.Test.YtdjdbcfcccbhpaaPKiYk
import Derived.Test.YtdjdbcfcccbhpaaPYbVe
import Derived.Test.YtdjdbcfcccbhpaaPKbAo
namespace Go.Proofs.Ytdjdbcfcccbhpaa
section
open Go.RowKit Go.Maps

/-- How many there are behind channels, by what they say. -/
def totP (ps : List PChan) : Nat := (ps.map fun c => c.2.2.1.length + c.2.2.2.1.length + c.2.2.2.2.length).sum
theorem totChan_P (us : List LChan) : totChan us = totP (us.map valChan) := by
  unfold totChan totP; rw [List.map_map]; rfl
theorem totP_keep (f : Int → Int) (ps : List PChan) : totP (ps.map (keepP f)) ≤ totP ps := by
  induction ps with
  | nil => exact Nat.le_refl _
  | cons c r ih =>
    have h1 := keptW_le f c.2.2.2.1
    have h2 := keptW_le f c.2.2.2.2
    simp only [totP, List.map_cons, List.sum_cons, keepP] at ih ⊢
    omega
theorem killR_len (ps : List PChan) (t : Int) : (killR ps t).1.length ≤ ps.length := by
  unfold killR; split <;> simp
theorem killR_tot (ps : List PChan) (t : Int) : totP (killR ps t).1 ≤ totP ps := by
  unfold killR; split
  · exact totP_keep _ _
  · exact Nat.zero_le _
/-- A hub's channels in memory of their own, wherever they begin. -/
def FrH (lo hi : Nat) (W : World) (o : Option Addr) (n : Nat) (us : List LChan) : Prop := DFr dChan lo hi W o n us
theorem FrH.of {lo hi : Nat} {W : World} {o : Option Addr} {n : Nat} {us : List LChan} (h : DFr dChan lo hi W o n us) : FrH lo hi W o n us := h
theorem FrH.later {lo hi : Nat} {W W' : World} {o : Option Addr} {n : Nat} {us : List LChan} (h : FrH lo hi W o n us) (hb : Below W.heap.size W W') : FrH lo hi W' o n us := DFr.later dChan_ok h hb
theorem FrH.in {lo hi : Nat} {W : World} {o : Option Addr} {n : Nat} {us : List LChan} (h : FrH lo hi W o n us) : DIn dChan W.heap.size W o us := DFr.in dChan_ok h
theorem FrH.between' {lo hi lo' hi' : Nat} {W W' : World} {o : Option Addr} {n : Nat} {us : List LChan} (h : FrH lo hi W o n us) (hb : Between lo' hi' W W') (hd : hi ≤ lo' ∨ hi' ≤ lo) : FrH lo hi W' o n us := DFr.between' dChan_ok h hb hd
theorem eqHub_of (o o' : Option Addr) (c c' : Nat) (us us' : List LChan) (ps : List PChan) (w : World) (hv : us.map valChan = ps) (hv' : us'.map valChan = ps) (hl : ps.length ≤ 1048576) (ht : totP ps ≤ 1048576) (hz : DIn dChan w.heap.size w o us) (hz' : DIn dChan w.heap.size w o' us') :
    Calls Try.prog 8 #[.agg #[.slice o ps.length c], .agg #[.slice o' ps.length c']] w fun e w' => e = .returned (.bool true) ∧ Below w.heap.size w w' := by
  have h1 : us.length = ps.length := by rw [← hv]; simp
  have h2 : us'.length = ps.length := by rw [← hv']; simp
  exact eqHub_len h1 h2 (eqHub_same o o' c c' us us' w (by omega) (fits_of (by rw [totChan_P, hv]; exact ht)) (hv.trans hv'.symm) hz hz')
theorem markHub_ex (lo hi : Nat) (o : Option Addr) (c : Nat) (us : List LChan) (ps : List PChan) (k0 : Int) (w : World) (hv : us.map valChan = ps) (hl : ps.length ≤ 1048576) (ht : totP ps ≤ 1048576) (hk0 : 0 ≤ k0) (hk1 : k0 ≤ 8000000) (hF : FrH lo hi w o c us) :
    Calls Try.prog 10 #[.agg #[.slice o ps.length c], .int .i64 k0] w fun e w' => e = .returned (.int .i64 (endC k0 us)) ∧ FrH lo hi w' o c (markC k0 us) ∧ Between lo hi w w' := by
  have h1 : us.length = ps.length := by rw [← hv]; simp
  rw [← h1]
  exact markHub_any lo hi o c us k0 w (by omega) (by rw [totChan_P, hv]; exact ht) hk0 hk1 hF
theorem heldHub_ex (o : Option Addr) (c : Nat) (us : List LChan) (ps : List PChan) (k0 : Int) (w : World) (hv : us.map valChan = ps) (hl : ps.length ≤ 1048576) (ht : totP ps ≤ 1048576) (hk0 : 0 ≤ k0) (hk1 : k0 ≤ 8000000) (hF : DIn dChan w.heap.size w o (markC k0 us)) :
    Calls Try.prog 12 #[.agg #[.slice o ps.length c], .int .i64 k0] w fun e w' => e = .returned (.int .i64 (endC k0 us)) ∧ Below w.heap.size w w' := by
  have h1 : us.length = ps.length := by rw [← hv]; simp
  rw [← h1]
  exact heldHub_any o c us k0 w (by omega) (by rw [totChan_P, hv]; exact ht) hk0 hk1 hF
end
section
open Go.RowKit Go.Maps

/-- The rows of a hub's channels are those that were, or new. -/
def OwnP (n : Nat) (us0 us : List LChan) : Prop := ∀ j, j < us.length → ∀ b, dChan.own (el us j) b → dChan.own (el us0 j) b ∨ n ≤ b
theorem OwnP.set {n : Nat} {us0 us : List LChan} (h : OwnP n us0 us) {k : Nat} (hk : k < us.length) {x : LChan} (hx : ∀ b, dChan.own x b → dChan.own (el us k) b ∨ n ≤ b) : OwnP n us0 (us.set k x) := fun j hj b hb => by
  have hj' : j < us.length := by simpa using hj
  by_cases e : j = k
  · subst e; rw [el_set_same hj'] at hb
    rcases hx b hb with h1 | h1
    · exact h j hj' b h1
    · exact .inr h1
  · rw [el_set_other e] at hb; exact h j hj' b hb
set_option maxRecDepth 100000 in
set_option maxHeartbeats 16000000 in
theorem l4LeaveY_any (n0 : Nat) (o : Option Addr) (c : Nat) (us0 : List LChan) (ps : List PChan) (t : Int) (w : World) (hn0 : n0 ≤ w.heap.size) (hv : us0.map valChan = ps) (hl : us0.length ≤ 1048576) (ht : totChan us0 ≤ 1048576) (hF : DFr dChan n0 w.heap.size w o c us0) :
    Calls Try.prog 37 #[.agg #[.slice o us0.length c], .int .i64 t] w fun e w' => (∃ u, e = .returned u) ∧ (∃ us, us.length = us0.length ∧ us.map valChan = ps.map (keepP (offT t)) ∧ DFr dChan n0 w'.heap.size w' o c us ∧ OwnP w.heap.size us0 us) ∧ Below n0 w w' ∧ KeepBut o w w' := by
  have HF := hid hF
  have HTT := hid ht
  have HV := hid hv
  have hpl : ps.length = us0.length := by rw [← hv]; simp
  have hpt : Hid (∀ k, k < ps.length → (el ps k).2.2.1.length + (el ps k).2.2.2.1.length + (el ps k).2.2.2.2.length ≤ 1048576) := fun k hk => by
    have hk' : k < us0.length := by omega
    have h1 : el ps k = valChan (el us0 k) := by rw [← hv]; simp [el, hk']
    have := totChan_el hk'
    rw [h1]; simp only [sizeChan, valChan] at this ⊢; omega
  clear hF ht hv
  obtain ⟨V0, hV0⟩ : ∃ V0, V0 = w.alloc (.cells #[.slice o us0.length c] 28) := ⟨_, rfl⟩
  have hb0 : Below w.heap.size w V0 := by rw [hV0]; exact below1 _ _
  have hB0 : Below n0 w V0 := hb0.mono hn0
  have N0 : Hid (Bx V0 w.heap.size [.slice o us0.length c]) := by rw [hV0]; exact Bx.new [.slice o us0.length c] _ rfl
  have F0 := hid (DFr.wide dChan_ok (DFr.later dChan_ok HF.out hb0) (Nat.le_refl _) hb0.size)
  have HOG : Hid (∀ q, 0 < us0.length → o = some ⟨q, 0, none⟩ → n0 ≤ q ∧ q < w.heap.size) := fun q h0 eq => by
    obtain ⟨g2, e2, h1, h2, _⟩ := (show hChan.Fresh _ _ _ _ _ _ from HF.out.1).at h0
    rw [eq] at e2; simp at e2; subst e2; exact ⟨h1, h2⟩
  have HV0 := hid hV0
  have K0 : Hid (KeepBut o w V0) := (KeepBut.refl o w).below hb0
  clear hV0 hb0
  go_enter Try.func37, Try.ntmps37
  go_wp2
  rw [← HV0.out]
  go_loopw [8] (fun i wr => ∃ (k : Nat) (us : List LChan), k ≤ us0.length ∧ i = .int .i64 (k : Int) ∧ us.length = us0.length ∧ Hid (us.map valChan = mixP (offT t) ps k) ∧ Hid (DFr dChan n0 wr.heap.size wr o c us) ∧ Hid (Bx wr w.heap.size [.slice o us0.length c]) ∧ Below n0 w wr ∧ Hid (KeepBut o w wr) ∧ Hid (OwnP w.heap.size us0 us)) (fun i _ => us0.length - (intOf i).toNat)
  case atStart => exact ⟨0, us0, Nat.zero_le _, rfl, rfl, by rw [Hid, mixP_zero]; exact HV.out, F0, N0, hB0, K0, fun j _ b h => .inl h⟩
  case round =>
    obtain ⟨k, us, hk, rfl, hul, hV, hD, hN, hB, hK, hOP⟩ := hrel
    by_cases hlt : k < us0.length
    · have HLT := hid hlt
      have HKU : Hid (k < us.length) := by rw [Hid, hul]; exact hlt
      obtain ⟨gg, eo, _⟩ := (show hChan.Fresh _ _ _ _ _ _ from hD.out.1).at (show 0 < us.length by omega)
      subst eo
      have hgn := HOG.out gg (by omega) rfl
      have hns := hN.out.size
      have hps : el ps k = valChan (el us k) := by
        have h1 : el (us.map valChan) k = valChan (el us k) := by simp [el, HKU.out]
        rw [← h1, hV.out, mixP_el (offT t) (by omega)]
      have hsz := hpt.out k (by omega)
      have hx := hd_at hD.out HKU.out
      have hI := dChan_ok.fin (hD.out.2.1 k HKU.out)
      obtain ⟨⟨kap, cl, ⟨bo, bc, b⟩, ⟨so, sc, s⟩, ⟨ro, rc, r⟩⟩, ex⟩ : ∃ v, v = el us k := ⟨_, rfl⟩
      rw [hps] at hsz
      rw [← ex] at hx hps hI hsz
      have HEX : Hid (el us k = (kap, cl, (bo, bc, b), (so, sc, s), (ro, rc, r))) := ex.symm
      have HI : Hid (InChan wr.heap.size wr bo b so s ro r) := hI
      have HPS : Hid (el ps k = (kap, cl, b, s, r)) := hps
      simp only [valChan] at hsz
      obtain ⟨x0, x1, x2, x3, x4⟩ := hx
      dsimp only at x0 x1 x2 x3 x4
      have hkl : (k : Int) < (us0.length : Int) := by omega
      have n00 := hN.out.c 0 rfl
      have HSZ : Hid (s.length ≤ 1048576 ∧ r.length ≤ 1048576) := ⟨by omega, by omega⟩
      clear ex hI hps hsz
      have hs1 := HSZ.out.1
      have hs2 := HSZ.out.2
      go_wp2
      go_region_law (first
        | (go_simp; go_at_call 53; refine (l3Leave_any kap cl bo bc b so sc s ro rc r t _ (by omega) (by omega) (by exact HI.out.later (Below.refl wr.heap.size wr).drew)).mono ?_; rintro e w4 ⟨⟨o1, c1, o2, c2, rfl, hF1, hF2, hof⟩, hbx⟩; have hb4 : Below wr.heap.size wr w4 := (Below.refl wr.heap.size wr).drew.trans hbx; have hB4 : Below n0 w w4 := hB.trans (hb4.mono (by omega)); have hz4 := hb4.size; have K4 := hid (hK.out.below hb4); have D4 := hid (DFr.later dChan_ok hD.out hb4); have N4 := hid (hN.out.later hb4); have F1 : Hid (kW.Fresh wr.heap.size w4.heap.size w4 o1 c1 (keptW (offT t) s)) := hF1; have F2 : Hid (kW.Fresh wr.heap.size w4.heap.size w4 o2 c2 (keptW (offT t) r)) := hF2; have HOF := hid hof; have hx4 := hd_at D4.out HKU.out; have y0 := N4.out.c 0 rfl; obtain ⟨q0, q1, q2, q3, q4⟩ := hx4; have z0 := hd_frozen D4.out (by have := HKU.out; omega) (k * 5); have z1 := hd_frozen D4.out (by have := HKU.out; omega) (k * 5 + 1); have z2 := hd_frozen D4.out (by have := HKU.out; omega) (k * 5 + 2); have z3 := hd_frozen D4.out (by have := HKU.out; omega) (k * 5 + 3); have z4 := hd_frozen D4.out (by have := HKU.out; omega) (k * 5 + 4); clear hbx hF1 hF2 hof hb4))
      all_goals
        obtain ⟨W5, hW5⟩ : ∃ W5, W5 = (((((w4.setCell ⟨gg, k * 5, none⟩ (.int .i64 kap)).setCell ⟨gg, k * 5 + 1, none⟩ (.bool cl)).setCell ⟨gg, k * 5 + 2, none⟩ (.slice bo b.length bc)).setCell ⟨gg, k * 5 + 3, none⟩ (.slice o1 (keptW (offT t) s).length c1)).setCell ⟨gg, k * 5 + 4, none⟩ (.slice o2 (keptW (offT t) r).length c2)) := ⟨_, rfl⟩
        have D5 := hid (DFr.newSR D4.out HKU.out HEX.out F1.out F2.out HOF.out hz4)
        rw [← hW5] at D5
        have hB5 : Below n0 w W5 := by rw [hW5]; exact ((((hB4.setCell (p := ⟨gg, k * 5, none⟩) (by dsimp only; omega) _).setCell (p := ⟨gg, k * 5 + 1, none⟩) (by dsimp only; omega) _).setCell (p := ⟨gg, k * 5 + 2, none⟩) (by dsimp only; omega) _).setCell (p := ⟨gg, k * 5 + 3, none⟩) (by dsimp only; omega) _).setCell (p := ⟨gg, k * 5 + 4, none⟩) (by dsimp only; omega) _
        have N5 : Hid (Bx W5 w.heap.size [.slice (some ⟨gg, 0, none⟩) us0.length c]) := by rw [hW5]; exact ((((N4.out.other (a := ⟨gg, k * 5, none⟩) (by dsimp only; omega) _).other (a := ⟨gg, k * 5 + 1, none⟩) (by dsimp only; omega) _).other (a := ⟨gg, k * 5 + 2, none⟩) (by dsimp only; omega) _).other (a := ⟨gg, k * 5 + 3, none⟩) (by dsimp only; omega) _).other (a := ⟨gg, k * 5 + 4, none⟩) (by dsimp only; omega) _
        have hz5 : W5.heap.size = w4.heap.size := by rw [hW5]; simp [World.setCell]
        rw [← hz5] at D5
        have HV5 : Hid ((us.set k ((kap, cl, (bo, bc, b), (o1, c1, (keptW (offT t) s)), (o2, c2, (keptW (offT t) r))) : LChan)).map valChan = mixP (offT t) ps (k + 1)) := by
          rw [Hid, List.map_set, hV.out, ← mixP_set (offT t) (by omega), HPS.out]; rfl
        have K5 : Hid (KeepBut (some ⟨gg, 0, none⟩) w W5) := by rw [hW5]; exact ((((K4.out.set _ _).set _ _).set _ _).set _ _).set _ _
        have HO5 : Hid (OwnP w.heap.size us0 (us.set k ((kap, cl, (bo, bc, b), (o1, c1, (keptW (offT t) s)), (o2, c2, (keptW (offT t) r))) : LChan))) := hid (hOP.out.set HKU.out fun z hz => by
          have hsw := hB.size
          rcases hz with h | h | h
          · refine .inl (.inl ?_)
            rw [HEX.out]; exact h
          · exact .inr (by have := (F1.out.lt h).1; omega)
          · exact .inr (by have := (F2.out.lt h).1; omega))
        have HW5 := hid hW5
        clear hW5 K4 D4 N4 F1 F2 HOF y0 q0 q1 q2 q3 q4 z0 z1 z2 z3 z4 x0 x1 x2 x3 x4 n00
        go_wp2
        rw [← HW5.out]
        go_roundw
        case rel => exact ⟨k + 1, _, by omega, by go_num, by simp; omega, HV5, D5, N5, hB5, K5, HO5⟩
        case measure => simp [intOf]; omega
    · obtain rfl : k = us0.length := by omega
      have hV2 : us.map valChan = ps.map (keepP (offT t)) := by
        have h := hV.out
        rw [← hpl, mixP_all] at h; exact h
      have HV2 := hid hV2
      clear hV2
      go_wp2
      first | refine bodyPost_ret (results_none rfl _ _ _) rfl ?_ | refine bodyPost_end (results_none rfl _ _ _) rfl ?_
      exact ⟨⟨_, rfl⟩, ⟨us, hul, HV2.out, hD.out, hOP.out⟩, hB, hK.out⟩
/-- A value whose block is none of a hub's. -/
def FarH (v : Value) (us : List LChan) : Prop := ∀ b, v.ownBlock = some b → ∀ j, j < us.length → ¬ dChan.own (el us j) b
theorem FarH.step {n : Nat} {v : Value} {us0 us : List LChan} (h : FarH v us0) (hO : OwnP n us0 us) (hl : us.length = us0.length) (hv : ∀ b, v.ownBlock = some b → b < n) : FarH v us := fun b hb j hj h2 => by
  rcases hO j hj b h2 with h3 | h3
  · exact h b hb j (by omega) h3
  · have := hv b hb; omega
theorem FarH.grown {lo hi : Nat} {W : World} {v v' : Value} {o : Option Addr} {c : Nat} {us : List LChan} (h : FarH v us) (hD : DFr dChan lo hi W o c us) (hh : hi ≤ W.heap.size) (hn : ∀ b, v'.ownBlock = some b → v.ownBlock = some b ∨ W.heap.size ≤ b) : FarH v' us := fun b hb j hj h2 => by
  rcases hn b hb with h3 | h3
  · exact h b h3 j hj h2
  · have := (dChan_ok.lt (hD.2.1 j hj) h2).2.1; omega
theorem DFr.grownN {lo hi : Nat} {W W' : World} {v : Value} {o : Option Addr} {c : Nat} {us : List LChan} (h : DFr dChan lo hi W o c us) (hg : W.grownBy W' v.ownBlock) (hf : FarH v us) (ho : ∀ g, o = some ⟨g, 0, none⟩ → v.ownBlock ≠ some g) : DFr dChan lo hi W' o c us := by
  refine ⟨h.1.keepB fun b hb => hg.block b ?_ fun e => ho b hb.2 e.symm, fun j hj => dChan_ok.keep (h.2.1 j hj) fun b hb => hg.block b ?_ fun e => hf b e.symm j hj hb, h.2.2⟩
  · have := (h.1.lt hb).2.2.1; exact this
  · exact (dChan_ok.lt (h.2.1 j hj) hb).2.2.1
theorem own_lt2 {α : Type} {K : Kind α} {lo : Nat} {W : World} {v : Value} {xs : List α} (h : K.Own lo W v xs) {b : Nat} (hb : v.ownBlock = some b) : lo ≤ b ∧ b < W.heap.size ∧ ∃ cur, W.heap[b]? = some (.cells cur K.ty (0, 0)) := by
  rcases h.2 with ⟨e, _⟩ | ⟨g, cap, cur, e, h1, hh, _⟩
  · subst e; simp [Value.ownBlock] at hb
  · subst e; simp [Value.ownBlock] at hb; subst hb; exact ⟨h1, (Array.getElem?_eq_some_iff.1 hh).1, cur, hh⟩
theorem own_keepO {α : Type} {K : Kind α} {lo : Nat} {W W' : World} {v : Value} {xs : List α} (h : K.Own lo W v xs) (hk : ∀ b, v.ownBlock = some b → W'.heap[b]? = W.heap[b]?) : K.Own lo W' v xs := by
  obtain ⟨h1, h2⟩ := h
  refine ⟨h1, ?_⟩
  rcases h2 with h2 | ⟨g, cap, cur, hv, hg, hb, r⟩
  · exact .inl h2
  · exact .inr ⟨g, cap, cur, hv, hg, by rw [hk g (by subst hv; rfl)]; exact hb, r⟩
theorem own_grownT {α β : Type} {K : Kind α} {K' : Kind β} (ht : K.ty ≠ K'.ty) {lo lo' : Nat} {W W' : World} {v u : Value} {xs : List α} {ys : List β} (h : K.Own lo W v xs) (hu : K'.Own lo' W u ys) (hG : W.grownBy W' u.ownBlock) : K.Own lo W' v xs := own_keepO h fun b hb => by
  obtain ⟨_, h2, cur, h3⟩ := own_lt2 h hb
  refine hG.block b h2 fun e => ?_
  obtain ⟨_, _, cur', h4⟩ := own_lt2 hu e.symm
  rw [h3] at h4; simp at h4; exact ht h4.2
theorem own_but {α : Type} {K : Kind α} {lo : Nat} {W W' : World} {v : Value} {xs : List α} {o : Option Addr} (h : K.Own lo W v xs) (hk : KeepBut o W W') (ho : ∀ g, o = some ⟨g, 0, none⟩ → g < lo) : K.Own lo W' v xs := own_keepO h fun b hb => by
  obtain ⟨h1, h2, _⟩ := own_lt2 h hb
  exact hk.2 b h2 fun e => by have := ho b e; omega
theorem Bx.but {W W' : World} {p : Nat} {us : List Value} {o : Option Addr} (h : Bx W p us) (hk : KeepBut o W W') (ho : ∀ g, o = some ⟨g, 0, none⟩ → g < p) : Bx W' p us := h.keep hk.1 (hk.2 p h.1 fun e => by have := ho p e; omega)
theorem woken_but {lo hi : Nat} {W W' : World} {to : Option Addr} {tc : Nat} {l : List (Int × Int × Int × Bool)} {o : Option Addr} {lo' hi' c : Nat} {us : List LChan} (h : kK.Fresh lo hi W to tc l) (hk : KeepBut o W W') (hD : DFr dChan lo' hi' W o c us) (h0 : 0 < us.length) : kK.Fresh lo hi W' to tc l := h.keepB fun b hb => by
  obtain ⟨_, _, h3, cur, h4⟩ := h.lt hb
  refine hk.2 b h3 fun e => ?_
  obtain ⟨_, _, _, cur', h5⟩ := hD.1.lt (b := b) ⟨h0, e⟩
  rw [h4] at h5; simp at h5; exact absurd h5.2 (by decide)
theorem keep_one (ps : List PChan) : ps.map (keepP fun _ => 1) = ps := by
  have h : ∀ l : List (Int × Int × Int), keptW (fun _ => 1) l = l := fun l => by simp [keptW]
  have : (keepP fun _ => 1) = id := by
    funext c
    show (c.1, c.2.1, c.2.2.1, keptW _ c.2.2.2.1, keptW _ c.2.2.2.2) = c
    rw [h, h]
  rw [this, List.map_id]
theorem keep_off (F : Int → Int) (t : Int) (ps : List PChan) : (ps.map (keepP F)).map (keepP (offT t)) = ps.map (keepP fun j => if j = t then 0 else F j) := by
  rw [List.map_map]
  refine List.map_congr_left fun c _ => ?_
  have key : ∀ l : List (Int × Int × Int), keptW (offT t) (keptW F l) = keptW (fun j => if j = t then 0 else F j) l := fun l => by
    unfold keptW
    rw [List.filter_filter]
    refine List.filter_congr fun x _ => ?_
    by_cases e : x.1 = t
    · simp [e, offT]
    · simp [e, offT]
  show keepP (offT t) (keepP F c) = _
  unfold keepP
  rw [key, key]
/-- Who is told waits no more. -/
theorem tell_seen (l : List (Int × Int × Int × Bool)) : ∀ k, k ≤ l.length → ∀ z, 0 < (tellW (fun _ => 1) (l.take k)).2 z ↔ hasB ((tellW (fun _ => 1) (l.take k)).1.map fun x => x.1) z = false
  | 0, _, z => by simp [tellW, hasB]
  | k + 1, hk, z => by
    have ih := tell_seen l k (by omega)
    rw [tellW_succ _ (by omega)]
    unfold tellS
    by_cases e : 0 < (tellW (fun _ => 1) (l.take k)).2 (el l k).1
    · rw [if_pos e]
      dsimp only
      by_cases ez : z = (el l k).1
      · subst ez; simp [hasB]
      · have := ih z
        simp only [hasB, List.map_append, List.mem_append, List.map_cons, List.map_nil, List.mem_singleton, ez, or_false, if_false] at this ⊢
        exact this
    · rw [if_neg e]; exact ih z
end
end Go.Proofs.Ytdjdbcfcccbhpaa
