/- A task leaves all channels of a hub: what is left as it was. No conditions but those written. A hub copied by the specification. No conditions but those written. -/
import Derived.Test.YtdjdbcfcccbhpaaPVdVf
import Derived.Test.YtdjdbcfcccbhpaaPVaMp
import Derived.Deep.RegionLaw
namespace Go.Proofs.Ytdjdbcfcccbhpaa
section
open Go.RowKit Go.Maps

/-- All that was there but the block at which o begins is as it was. -/
def KeepBut (o : Option Addr) (w w' : World) : Prop := w.heap.size ≤ w'.heap.size ∧ ∀ z, z < w.heap.size → o ≠ some ⟨z, 0, none⟩ → w'.heap[z]? = w.heap[z]?
theorem KeepBut.refl (o : Option Addr) (w : World) : KeepBut o w w := ⟨Nat.le_refl _, fun _ _ _ => rfl⟩
theorem KeepBut.trans {o : Option Addr} {a b c : World} (h : KeepBut o a b) (k : KeepBut o b c) : KeepBut o a c := ⟨Nat.le_trans h.1 k.1, fun z h1 h2 => (k.2 z (Nat.lt_of_lt_of_le h1 h.1) h2).trans (h.2 z h1 h2)⟩
theorem KeepBut.below {o : Option Addr} {w W W' : World} (h : KeepBut o w W) (hb : Below W.heap.size W W') : KeepBut o w W' := h.trans ⟨hb.size, fun z h1 _ => hb.block z h1⟩
theorem KeepBut.set {g : Nat} {w W : World} (h : KeepBut (some ⟨g, 0, none⟩) w W) (q : Nat) (u : Value) : KeepBut (some ⟨g, 0, none⟩) w (W.setCell ⟨g, q, none⟩ u) := h.trans ⟨by simp [World.setCell], fun z _ h2 => Below.heap_setCell _ _ _ _ (by dsimp only; intro e; exact h2 (by rw [e]))⟩
set_option maxRecDepth 100000 in
set_option maxHeartbeats 16000000 in
theorem l4LeaveX_any (n0 : Nat) (o : Option Addr) (c : Nat) (us0 : List LChan) (ps : List PChan) (t : Int) (w : World) (hn0 : n0 ≤ w.heap.size) (hv : us0.map valChan = ps) (hl : us0.length ≤ 1048576) (ht : totChan us0 ≤ 1048576) (hF : DFr dChan n0 w.heap.size w o c us0) :
    Calls Try.prog 37 #[.agg #[.slice o us0.length c], .int .i64 t] w fun e w' => (∃ u, e = .returned u) ∧ (∃ us, us.length = us0.length ∧ us.map valChan = ps.map (keepP (offT t)) ∧ DFr dChan n0 w'.heap.size w' o c us) ∧ Below n0 w w' ∧ KeepBut o w w' := by
  have HF := hid hF
  have HTT := hid ht
  have HV := hid hv
  have hpl : ps.length = us0.length := by rw [← hv]; simp
  have hpt : Hid (∀ k, k < ps.length → (el ps k).2.2.1.length + (el ps k).2.2.2.1.length + (el ps k).2.2.2.2.length ≤ 1048576) := fun k hk => by
    have hk' : k < us0.length := by omega
    have h1 : el ps k = valChan (el us0 k) := by rw [← hv]; simp [el, hk']
    have := totChan_el hk'
    rw [h1]; simp only [sizeChan, valChan] at this ⊢; omega
  clear hF ht hv
  obtain ⟨V0, hV0⟩ : ∃ V0, V0 = w.alloc (.cells #[.slice o us0.length c] 28) := ⟨_, rfl⟩
  have hb0 : Below w.heap.size w V0 := by rw [hV0]; exact below1 _ _
  have hB0 : Below n0 w V0 := hb0.mono hn0
  have N0 : Hid (Bx V0 w.heap.size [.slice o us0.length c]) := by rw [hV0]; exact Bx.new [.slice o us0.length c] _ rfl
  have F0 := hid (DFr.wide dChan_ok (DFr.later dChan_ok HF.out hb0) (Nat.le_refl _) hb0.size)
  have HOG : Hid (∀ q, 0 < us0.length → o = some ⟨q, 0, none⟩ → n0 ≤ q ∧ q < w.heap.size) := fun q h0 eq => by
    obtain ⟨g2, e2, h1, h2, _⟩ := (show hChan.Fresh _ _ _ _ _ _ from HF.out.1).at h0
    rw [eq] at e2; simp at e2; subst e2; exact ⟨h1, h2⟩
  have HV0 := hid hV0
  have K0 : Hid (KeepBut o w V0) := (KeepBut.refl o w).below hb0
  clear hV0 hb0
  go_enter Try.func37, Try.ntmps37
  go_wp2
  rw [← HV0.out]
  go_loopw [8] (fun i wr => ∃ (k : Nat) (us : List LChan), k ≤ us0.length ∧ i = .int .i64 (k : Int) ∧ us.length = us0.length ∧ Hid (us.map valChan = mixP (offT t) ps k) ∧ Hid (DFr dChan n0 wr.heap.size wr o c us) ∧ Hid (Bx wr w.heap.size [.slice o us0.length c]) ∧ Below n0 w wr ∧ Hid (KeepBut o w wr)) (fun i _ => us0.length - (intOf i).toNat)
  case atStart => exact ⟨0, us0, Nat.zero_le _, rfl, rfl, by rw [Hid, mixP_zero]; exact HV.out, F0, N0, hB0, K0⟩
  case round =>
    obtain ⟨k, us, hk, rfl, hul, hV, hD, hN, hB, hK⟩ := hrel
    by_cases hlt : k < us0.length
    · have HLT := hid hlt
      have HKU : Hid (k < us.length) := by rw [Hid, hul]; exact hlt
      obtain ⟨gg, eo, _⟩ := (show hChan.Fresh _ _ _ _ _ _ from hD.out.1).at (show 0 < us.length by omega)
      subst eo
      have hgn := HOG.out gg (by omega) rfl
      have hns := hN.out.size
      have hps : el ps k = valChan (el us k) := by
        have h1 : el (us.map valChan) k = valChan (el us k) := by simp [el, HKU.out]
        rw [← h1, hV.out, mixP_el (offT t) (by omega)]
      have hsz := hpt.out k (by omega)
      have hx := hd_at hD.out HKU.out
      have hI := dChan_ok.fin (hD.out.2.1 k HKU.out)
      obtain ⟨⟨kap, cl, ⟨bo, bc, b⟩, ⟨so, sc, s⟩, ⟨ro, rc, r⟩⟩, ex⟩ : ∃ v, v = el us k := ⟨_, rfl⟩
      rw [hps] at hsz
      rw [← ex] at hx hps hI hsz
      have HEX : Hid (el us k = (kap, cl, (bo, bc, b), (so, sc, s), (ro, rc, r))) := ex.symm
      have HI : Hid (InChan wr.heap.size wr bo b so s ro r) := hI
      have HPS : Hid (el ps k = (kap, cl, b, s, r)) := hps
      simp only [valChan] at hsz
      obtain ⟨x0, x1, x2, x3, x4⟩ := hx
      dsimp only at x0 x1 x2 x3 x4
      have hkl : (k : Int) < (us0.length : Int) := by omega
      have n00 := hN.out.c 0 rfl
      have HSZ : Hid (s.length ≤ 1048576 ∧ r.length ≤ 1048576) := ⟨by omega, by omega⟩
      clear ex hI hps hsz
      have hs1 := HSZ.out.1
      have hs2 := HSZ.out.2
      go_wp2
      go_region_law (first
        | (go_simp; go_at_call 53; refine (l3Leave_any kap cl bo bc b so sc s ro rc r t _ (by omega) (by omega) (by exact HI.out.later (Below.refl wr.heap.size wr).drew)).mono ?_; rintro e w4 ⟨⟨o1, c1, o2, c2, rfl, hF1, hF2, hof⟩, hbx⟩; have hb4 : Below wr.heap.size wr w4 := (Below.refl wr.heap.size wr).drew.trans hbx; have hB4 : Below n0 w w4 := hB.trans (hb4.mono (by omega)); have hz4 := hb4.size; have K4 := hid (hK.out.below hb4); have D4 := hid (DFr.later dChan_ok hD.out hb4); have N4 := hid (hN.out.later hb4); have F1 : Hid (kW.Fresh wr.heap.size w4.heap.size w4 o1 c1 (keptW (offT t) s)) := hF1; have F2 : Hid (kW.Fresh wr.heap.size w4.heap.size w4 o2 c2 (keptW (offT t) r)) := hF2; have HOF := hid hof; have hx4 := hd_at D4.out HKU.out; have y0 := N4.out.c 0 rfl; obtain ⟨q0, q1, q2, q3, q4⟩ := hx4; have z0 := hd_frozen D4.out (by have := HKU.out; omega) (k * 5); have z1 := hd_frozen D4.out (by have := HKU.out; omega) (k * 5 + 1); have z2 := hd_frozen D4.out (by have := HKU.out; omega) (k * 5 + 2); have z3 := hd_frozen D4.out (by have := HKU.out; omega) (k * 5 + 3); have z4 := hd_frozen D4.out (by have := HKU.out; omega) (k * 5 + 4); clear hbx hF1 hF2 hof hb4))
      all_goals
        obtain ⟨W5, hW5⟩ : ∃ W5, W5 = (((((w4.setCell ⟨gg, k * 5, none⟩ (.int .i64 kap)).setCell ⟨gg, k * 5 + 1, none⟩ (.bool cl)).setCell ⟨gg, k * 5 + 2, none⟩ (.slice bo b.length bc)).setCell ⟨gg, k * 5 + 3, none⟩ (.slice o1 (keptW (offT t) s).length c1)).setCell ⟨gg, k * 5 + 4, none⟩ (.slice o2 (keptW (offT t) r).length c2)) := ⟨_, rfl⟩
        have D5 := hid (DFr.newSR D4.out HKU.out HEX.out F1.out F2.out HOF.out hz4)
        rw [← hW5] at D5
        have hB5 : Below n0 w W5 := by rw [hW5]; exact ((((hB4.setCell (p := ⟨gg, k * 5, none⟩) (by dsimp only; omega) _).setCell (p := ⟨gg, k * 5 + 1, none⟩) (by dsimp only; omega) _).setCell (p := ⟨gg, k * 5 + 2, none⟩) (by dsimp only; omega) _).setCell (p := ⟨gg, k * 5 + 3, none⟩) (by dsimp only; omega) _).setCell (p := ⟨gg, k * 5 + 4, none⟩) (by dsimp only; omega) _
        have N5 : Hid (Bx W5 w.heap.size [.slice (some ⟨gg, 0, none⟩) us0.length c]) := by rw [hW5]; exact ((((N4.out.other (a := ⟨gg, k * 5, none⟩) (by dsimp only; omega) _).other (a := ⟨gg, k * 5 + 1, none⟩) (by dsimp only; omega) _).other (a := ⟨gg, k * 5 + 2, none⟩) (by dsimp only; omega) _).other (a := ⟨gg, k * 5 + 3, none⟩) (by dsimp only; omega) _).other (a := ⟨gg, k * 5 + 4, none⟩) (by dsimp only; omega) _
        have hz5 : W5.heap.size = w4.heap.size := by rw [hW5]; simp [World.setCell]
        rw [← hz5] at D5
        have HV5 : Hid ((us.set k ((kap, cl, (bo, bc, b), (o1, c1, (keptW (offT t) s)), (o2, c2, (keptW (offT t) r))) : LChan)).map valChan = mixP (offT t) ps (k + 1)) := by
          rw [Hid, List.map_set, hV.out, ← mixP_set (offT t) (by omega), HPS.out]; rfl
        have K5 : Hid (KeepBut (some ⟨gg, 0, none⟩) w W5) := by rw [hW5]; exact ((((K4.out.set _ _).set _ _).set _ _).set _ _).set _ _
        have HW5 := hid hW5
        clear hW5 K4 D4 N4 F1 F2 HOF y0 q0 q1 q2 q3 q4 z0 z1 z2 z3 z4 x0 x1 x2 x3 x4 n00
        go_wp2
        rw [← HW5.out]
        go_roundw
        case rel => exact ⟨k + 1, _, by omega, by go_num, by simp; omega, HV5, D5, N5, hB5, K5⟩
        case measure => simp [intOf]; omega
    · obtain rfl : k = us0.length := by omega
      have hV2 : us.map valChan = ps.map (keepP (offT t)) := by
        have h := hV.out
        rw [← hpl, mixP_all] at h; exact h
      have HV2 := hid hV2
      clear hV2
      go_wp2
      first | refine bodyPost_ret (results_none rfl _ _ _) rfl ?_ | refine bodyPost_end (results_none rfl _ _ _) rfl ?_
      exact ⟨⟨_, rfl⟩, ⟨us, hul, HV2.out, hD.out⟩, hB, hK.out⟩
end
section
open Go.RowKit

theorem bx5 {W : World} {p : Nat} {a b c d e : Value} (h : Bx W p [a, b, c, d, e]) : W.cell? ⟨p, 0, none⟩ = some a ∧ W.cell? ⟨p, 1, none⟩ = some b ∧ W.cell? ⟨p, 2, none⟩ = some c ∧ W.cell? ⟨p, 3, none⟩ = some d ∧ W.cell? ⟨p, 4, none⟩ = some e := ⟨h.c 0 rfl, h.c 1 rfl, h.c 2 rfl, h.c 3 rfl, h.c 4 rfl⟩
set_option maxRecDepth 10000 in
set_option maxHeartbeats 16000000 in
theorem l4Own_any (ao : Option Addr) (cap : Nat) (ts : List LChan) (w : World) (hl : ts.length ≤ 1048576) (ht : totChan ts ≤ 1048576) (hz : DIn dChan w.heap.size w ao ts) :
    Calls Try.prog 17 #[.agg #[.slice ao ts.length cap]] w fun e w' => AnsHub w (ts.map valChan) e w' := by
  have HZ := hid hz
  have HTT := hid ht
  clear hz ht
  obtain ⟨V0, hV0⟩ : ∃ V0, V0 = ((w.alloc (.cells #[.slice ao ts.length cap] 28)).alloc (.cells #[.slice none 0 0] 28)).alloc (.cells #[.slice none 0 0] 28) := ⟨_, rfl⟩
  have hB0 : Below w.heap.size w V0 := by rw [hV0]; exact Below.allocS (below2 _ _ _) _
  have A0 : Hid (Bx V0 w.heap.size [.slice ao ts.length cap]) := by rw [hV0]; exact ((Bx.new [.slice ao ts.length cap] _ rfl).alloc _).alloc _
  have R0 : Hid (Bx V0 (w.heap.size + 1) [.slice none 0 0]) := by rw [hV0]; exact (Bx.new [.slice none 0 0] _ (by simp)).alloc _
  have X0 : Hid (Bx V0 (w.heap.size + 1 + 1) [.slice none 0 0]) := by rw [hV0]; exact Bx.new [.slice none 0 0] _ (by simp)
  have hs0 : (w.heap.size + 1 + 1 + 1) ≤ V0.heap.size := by rw [hV0]; simp
  have HV0 := hid hV0
  clear hV0
  go_enter Try.func17, Try.ntmps17
  go_wp2
  rw [← HV0.out]
  go_loopw [10] (fun i wr => ∃ (k : Nat) (us : List LChan) (v : Value), k ≤ ts.length ∧ i = .int .i64 (k : Int) ∧ us.length = k ∧ Hid (us.map valChan = (ts.take k).map valChan) ∧ Hid (hChan.Own (w.heap.size + 1 + 1 + 1) wr v us) ∧ Hid (LaidD dChan (w.heap.size + 1 + 1 + 1) wr us k) ∧ Hid (Bx wr (w.heap.size + 1) [.slice none 0 0]) ∧ Hid (Bx wr (w.heap.size + 1 + 1) [v]) ∧ Below w.heap.size w wr ∧ (w.heap.size + 1 + 1 + 1) ≤ wr.heap.size) (fun i _ => ts.length - (intOf i).toNat)
  case atStart => exact ⟨0, [], .slice none 0 0, Nat.zero_le _, rfl, rfl, by simp [Hid], Kind.Own.nil _ _ _, LaidD.zero _ _, R0, X0, hB0, hs0⟩
  case round =>
    obtain ⟨k, us, v, hk, rfl, hul, hV, hO, hD, hR, hX, hB, hs⟩ := hrel
    by_cases hlt : k < ts.length
    · obtain ⟨b0, off, rfl, hb, hc⟩ := hChan_at HZ.out.1 hlt
      have e1 := (hB.cell (p := ⟨b0, off + k * 5, none⟩) hb).trans (hc k hlt).1
      have e2 := (hB.cell (p := ⟨b0, off + k * 5 + 1, none⟩) hb).trans (hc k hlt).2.1
      have e3 := (hB.cell (p := ⟨b0, off + k * 5 + 2, none⟩) hb).trans (hc k hlt).2.2.1
      have e4 := (hB.cell (p := ⟨b0, off + k * 5 + 3, none⟩) hb).trans (hc k hlt).2.2.2.1
      have e5 := (hB.cell (p := ⟨b0, off + k * 5 + 4, none⟩) hb).trans (hc k hlt).2.2.2.2
      have hI := HZ.out.2 k hlt
      have hsz := totChan_el hlt
      have HTK := hid (take_succ_el hlt)
      obtain ⟨⟨kap, cl, ⟨bo, bc, b⟩, ⟨so, sc, s⟩, ⟨ro, rc, r⟩⟩, ex⟩ : ∃ v, v = el ts k := ⟨_, rfl⟩
      rw [← ex] at e1 e2 e3 e4 e5 hI hsz HTK
      have HI : Hid (InChan w.heap.size w bo b so s ro r) := hI
      have hsz3 : b.length + s.length + r.length ≤ 1048576 := by have := HTT.out; simp [sizeChan] at hsz; omega
      clear ex hc hI hsz
      dsimp only at e1 e2 e3 e4 e5
      obtain ⟨VV, hVV⟩ : ∃ VV, VV = wr.alloc (.cells #[.int .i64 kap, .bool cl, .slice bo b.length bc, .slice so s.length sc, .slice ro r.length rc] 45) := ⟨_, rfl⟩
      have hbV : Below wr.heap.size wr VV := by rw [hVV]; exact below1 _ _
      have hBV := hB.trans (hbV.mono hB.size)
      have OV := hid (hO.out.below hbV)
      have DV := hid (hD.out.later dChan_ok hbV)
      have RV := hid (hR.out.later hbV)
      have XV := hid (hX.out.later hbV)
      obtain ⟨pC, hpC⟩ : ∃ pC, pC = wr.heap.size := ⟨_, rfl⟩
      have CV : Hid (Bx VV pC [.int .i64 kap, .bool cl, .slice bo b.length bc, .slice so s.length sc, .slice ro r.length rc]) := by rw [hVV, hpC]; exact Bx.new [.int .i64 kap, .bool cl, .slice bo b.length bc, .slice so s.length sc, .slice ro r.length rc] _ rfl
      have hsV : (w.heap.size + 1 + 1 + 1) ≤ VV.heap.size := Nat.le_trans hs hbV.size
      have HVV := hid hVV
      have xv := XV.out.c 0 rfl
      obtain ⟨c0, c1, c2, c3, c4⟩ := bx5 CV.out
      have hpc3 : (w.heap.size + 1 + 1 + 1) ≤ pC := by rw [hpC]; exact hs
      have hcv : Hid (∀ q, v.ownBlock = some q → q ≠ pC) := fun q e => by
        rcases hO.out.2 with ⟨e2, _⟩ | ⟨g, cc, cur2, e2, _, hh, _⟩
        · subst e2; simp [Value.ownBlock] at e
        · subst e2; simp [Value.ownBlock] at e; subst e
          have := (Array.getElem?_eq_some_iff.1 hh).1; omega
      clear hbV hVV hO hD hR hX
      go_wp2
      rw [← HVV.out, ← hpC]
      clear e1 e2 e3 e4 e5 HVV hpC
      go_region_law (first
          | (refine Kind.appS hChan_ok (w4.alloc (.cells #[.int .i64 kap, .bool cl, .slice (some ⟨gb, 0, none⟩) b.length bc', .slice (some ⟨gs, 0, none⟩) s.length sc', .slice (some ⟨gr, 0, none⟩) r.length rc'] 45)) (by rfl) (.tmp 15) (.tmp 18) (by rfl) (w.heap.size + 1 + 1 + 1) v us (by rfl) HA.out (by simp; omega) (some ⟨w4.heap.size, 0, none⟩) [((kap, cl, (some ⟨gb, 0, none⟩, bc', b), (some ⟨gs, 0, none⟩, sc', s), (some ⟨gr, 0, none⟩, rc', r)) : LChan)] 1 1 (by rfl) rfl (by simp) _ HN.out (by simp; omega) ?_; intro v' w' hO' hB' hG' hn'; obtain ⟨us2, hx2⟩ : ∃ u, u = us ++ [((kap, cl, (some ⟨gb, 0, none⟩, bc', b), (some ⟨gs, 0, none⟩, sc', s), (some ⟨gr, 0, none⟩, rc', r)) : LChan)] := ⟨_, rfl⟩; rw [← hx2] at hO'; have HX2 := hid hx2; clear hx2; obtain ⟨vo, vc, rfl, _, _⟩ := hO'.fresh; have hB5 : Below w.heap.size w w' := hBa.trans (hB'.mono (by omega)); have hs5 : (w.heap.size + 1 + 1 + 1) ≤ w'.heap.size := (by have := hB'.size; simp at this; omega); have D5 := hid (DA.out.grown dChan_ok HA.out hG'); have R5 := hid (RA.out.below hB' (by omega)); have X5 := hid (XA.out.below hB' (by omega)); have O5 := hid hO'; have xf := X5.out.f 0 rfl; have xc := X5.out.c 0 rfl; have hcG : Hid (w'.heap[pC]? = (w4.alloc (.cells #[.int .i64 kap, .bool cl, .slice (some ⟨gb, 0, none⟩) b.length bc', .slice (some ⟨gs, 0, none⟩) s.length sc', .slice (some ⟨gr, 0, none⟩) r.length rc'] 45)).heap[pC]?) := hG'.block pC CA.out.1 (fun e => hcv.out pC (by first | exact e | exact e.symm) rfl); have C5 := hid (CA.out.keep hG'.size hcG.out); clear hO' hB' hG' hn')
          | (go_simp; go_at_call 36; refine (ownChan_any kap cl bo bc b so sc s ro rc r _ (by omega) (by omega) (by omega) ((HI.out.below hBV.drew).up hBV.size)).mono ?_; rintro e w4 ⟨⟨gb, bc', gs, sc', gr, rc', rfl, hF4⟩, hbx⟩; have hb4 : Below VV.heap.size VV w4 := (Below.refl VV.heap.size VV).drew.trans hbx; have hB4 := hBV.trans (hb4.mono hBV.size); have O4 := hid (OV.out.below hb4); have R4 := hid (RV.out.later hb4); have X4 := hid (XV.out.later hb4); have D4 := hid (LaidD.add dChan_ok (a := ((kap, cl, (some ⟨gb, 0, none⟩, bc', b), (some ⟨gs, 0, none⟩, sc', s), (some ⟨gr, 0, none⟩, rc', r)) : LChan)) DV.out hb4 hsV hF4.fr); have hs4 : (w.heap.size + 1 + 1 + 1) ≤ w4.heap.size := Nat.le_trans hsV hb4.size; have HA := hid (O4.out.below (below1 w4 (.cells #[.int .i64 kap, .bool cl, .slice (some ⟨gb, 0, none⟩) b.length bc', .slice (some ⟨gs, 0, none⟩) s.length sc', .slice (some ⟨gr, 0, none⟩) r.length rc'] 45))); have HN : Hid (hChan.In (w4.heap.size + 1) (w4.alloc (.cells #[.int .i64 kap, .bool cl, .slice (some ⟨gb, 0, none⟩) b.length bc', .slice (some ⟨gs, 0, none⟩) s.length sc', .slice (some ⟨gr, 0, none⟩) r.length rc'] 45)) (some ⟨w4.heap.size, 0, none⟩) [((kap, cl, (some ⟨gb, 0, none⟩, bc', b), (some ⟨gs, 0, none⟩, sc', s), (some ⟨gr, 0, none⟩, rc', r)) : LChan)]) := hChan_one (by omega) (Bx.new _ _ rfl); have hBa := Below.allocS hB4 (.cells #[.int .i64 kap, .bool cl, .slice (some ⟨gb, 0, none⟩) b.length bc', .slice (some ⟨gs, 0, none⟩) s.length sc', .slice (some ⟨gr, 0, none⟩) r.length rc'] 45); have DA := hid (D4.out.later dChan_ok (below1 w4 (.cells #[.int .i64 kap, .bool cl, .slice (some ⟨gb, 0, none⟩) b.length bc', .slice (some ⟨gs, 0, none⟩) s.length sc', .slice (some ⟨gr, 0, none⟩) r.length rc'] 45))); have RA := hid (R4.out.alloc (.cells #[.int .i64 kap, .bool cl, .slice (some ⟨gb, 0, none⟩) b.length bc', .slice (some ⟨gs, 0, none⟩) s.length sc', .slice (some ⟨gr, 0, none⟩) r.length rc'] 45)); have XA := hid (X4.out.alloc (.cells #[.int .i64 kap, .bool cl, .slice (some ⟨gb, 0, none⟩) b.length bc', .slice (some ⟨gs, 0, none⟩) s.length sc', .slice (some ⟨gr, 0, none⟩) r.length rc'] 45)); have x4 := X4.out.c 0 rfl; have xa := XA.out.c 0 rfl; have C4 := hid (CV.out.later hb4); have CA := hid (C4.out.alloc (.cells #[.int .i64 kap, .bool cl, .slice (some ⟨gb, 0, none⟩) b.length bc', .slice (some ⟨gs, 0, none⟩) s.length sc', .slice (some ⟨gr, 0, none⟩) r.length rc'] 45)); clear hbx hF4 hb4))
      all_goals
        obtain ⟨W7, hW7⟩ : ∃ W7, W7 = w'.setCell ⟨w.heap.size + 1 + 1, 0, none⟩ (.slice vo us2.length vc) := ⟨_, rfl⟩
        have hB7 : Below w.heap.size w W7 := by rw [hW7]; exact hB5.setCell (p := ⟨w.heap.size + 1 + 1, 0, none⟩) (by dsimp only; omega) _
        have R7 : Hid (Bx W7 (w.heap.size + 1) [.slice none 0 0]) := by rw [hW7]; exact R5.out.other (a := ⟨w.heap.size + 1 + 1, 0, none⟩) (by dsimp only; omega) _
        have X7 : Hid (Bx W7 (w.heap.size + 1 + 1) [.slice vo us2.length vc]) := by rw [hW7]; exact X5.out.set 0 _
        have D7 := hid (D5.out.set dChan_ok (a := ⟨w.heap.size + 1 + 1, 0, none⟩) (by dsimp only; omega) (.slice vo us2.length vc))
        have O7 := hid (O5.out.setBelow (a := ⟨w.heap.size + 1 + 1, 0, none⟩) (by dsimp only; omega) (.slice vo us2.length vc))
        rw [← hW7, ← HX2.out] at D7
        rw [← hW7] at O7
        have hs7 : (w.heap.size + 1 + 1 + 1) ≤ W7.heap.size := by rw [hW7]; simpa [World.setCell] using hs5
        have HV2 : Hid (us2.map valChan = (ts.take (k + 1)).map valChan) := by rw [Hid, HX2.out, List.map_append, hV.out, HTK.out, List.map_append]; rfl
        have HW7 := hid hW7
        clear hW7 D5 O5 R5 X5 DA RA XA HA HN OV DV RV XV CV xv c0 c1 c2 c3 c4 C4 CA C5 hcG hcv x4 xa xf xc O4 R4 X4 D4
        go_wp2
        rw [← HW7.out]
        go_roundw
        case rel => exact ⟨k + 1, us2, _, by omega, by go_num, by rw [HX2.out]; simp; omega, HV2, O7, D7, R7, X7, hB7, hs7⟩
        case measure => simp [intOf]; omega
    · obtain rfl : k = ts.length := by omega
      rw [List.take_length] at hV
      obtain ⟨qo, qc, rfl, _, hF⟩ := hO.out.fresh
      have HF := hid (hD.out.fr dChan_ok (Nat.le_refl _) hF)
      have x0 := hX.out.c 0 rfl
      have r0 := hR.out.c 0 rfl
      have rf0 := hR.out.f 0 rfl
      have rz := hR.out.size
      clear hF hO hD
      go_wp2
      refine bodyPost_ret (v := .agg #[.slice qo ts.length qc]) (by simp [results, Try.results17, go_sem, r0]) rfl ⟨⟨qo, qc, us, by simp, hV.out, ?_⟩, ?_⟩
      · refine DFr.wide (lo := (w.heap.size + 1 + 1 + 1)) (hi := wr.heap.size) dChan_ok (DFr.keep dChan_ok HF.out fun q h1 _ _ => Below.heap_setCell wr _ _ q (by dsimp only; omega)) (by omega) (by simp [World.setCell])
      · exact hB.setCell (p := ⟨w.heap.size + 1, 0, none⟩) (by simp) _
end
end Go.Proofs.Ytdjdbcfcccbhpaa
