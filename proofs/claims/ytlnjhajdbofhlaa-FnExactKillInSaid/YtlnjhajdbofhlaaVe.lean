
/- A hub copied by the specification. No conditions but those written. -/
import Derived.Test.YtlnjhajdbofhlaaVa
import Derived.Deep.RegionLaw
namespace Go.Proofs.Ytlnjhajdbofhlaa
open Go.RowKit

theorem bx5 {W : World} {p : Nat} {a b c d e : Value} (h : Bx W p [a, b, c, d, e]) : W.cell? ⟨p, 0, none⟩ = some a ∧ W.cell? ⟨p, 1, none⟩ = some b ∧ W.cell? ⟨p, 2, none⟩ = some c ∧ W.cell? ⟨p, 3, none⟩ = some d ∧ W.cell? ⟨p, 4, none⟩ = some e := ⟨h.c 0 rfl, h.c 1 rfl, h.c 2 rfl, h.c 3 rfl, h.c 4 rfl⟩
set_option maxRecDepth 10000 in
set_option maxHeartbeats 16000000 in
theorem l4Own_any (ao : Option Addr) (cap : Nat) (ts : List LChan) (w : World) (hl : ts.length ≤ 1048576) (ht : totChan ts ≤ 1048576) (hz : DIn dChan w.heap.size w ao ts) :
    Calls Try.prog 95 #[.agg #[.slice ao ts.length cap]] w fun e w' => AnsHub w (ts.map valChan) e w' := by
  have HZ := hid hz
  have HTT := hid ht
  clear hz ht
  obtain ⟨V0, hV0⟩ : ∃ V0, V0 = ((w.alloc (.cells #[.slice ao ts.length cap] 56)).alloc (.cells #[.slice none 0 0] 56)).alloc (.cells #[.slice none 0 0] 56) := ⟨_, rfl⟩
  have hB0 : Below w.heap.size w V0 := by rw [hV0]; exact Below.allocS (below2 _ _ _) _
  have A0 : Hid (Bx V0 w.heap.size [.slice ao ts.length cap]) := by rw [hV0]; exact ((Bx.new [.slice ao ts.length cap] _ rfl).alloc _).alloc _
  have R0 : Hid (Bx V0 (w.heap.size + 1) [.slice none 0 0]) := by rw [hV0]; exact (Bx.new [.slice none 0 0] _ (by simp)).alloc _
  have X0 : Hid (Bx V0 (w.heap.size + 1 + 1) [.slice none 0 0]) := by rw [hV0]; exact Bx.new [.slice none 0 0] _ (by simp)
  have hs0 : (w.heap.size + 1 + 1 + 1) ≤ V0.heap.size := by rw [hV0]; simp
  have HV0 := hid hV0
  clear hV0
  go_enter Try.func95, Try.ntmps95
  go_wp2
  rw [← HV0.out]
  go_loopw [10] (fun i wr => ∃ (k : Nat) (us : List LChan) (v : Value), k ≤ ts.length ∧ i = .int .i64 (k : Int) ∧ us.length = k ∧ Hid (us.map valChan = (ts.take k).map valChan) ∧ Hid (hChan.Own (w.heap.size + 1 + 1 + 1) wr v us) ∧ Hid (LaidD dChan (w.heap.size + 1 + 1 + 1) wr us k) ∧ Hid (Bx wr (w.heap.size + 1) [.slice none 0 0]) ∧ Hid (Bx wr (w.heap.size + 1 + 1) [v]) ∧ Below w.heap.size w wr ∧ (w.heap.size + 1 + 1 + 1) ≤ wr.heap.size) (fun i _ => ts.length - (intOf i).toNat)
  case atStart => exact ⟨0, [], .slice none 0 0, Nat.zero_le _, rfl, rfl, by simp [Hid], Kind.Own.nil _ _ _, LaidD.zero _ _, R0, X0, hB0, hs0⟩
  case round =>
    obtain ⟨k, us, v, hk, rfl, hul, hV, hO, hD, hR, hX, hB, hs⟩ := hrel
    by_cases hlt : k < ts.length
    · obtain ⟨b0, off, rfl, hb, hc⟩ := hChan_at HZ.out.1 hlt
      have e1 := (hB.cell (p := ⟨b0, off + k * 5, none⟩) hb).trans (hc k hlt).1
      have e2 := (hB.cell (p := ⟨b0, off + k * 5 + 1, none⟩) hb).trans (hc k hlt).2.1
      have e3 := (hB.cell (p := ⟨b0, off + k * 5 + 2, none⟩) hb).trans (hc k hlt).2.2.1
      have e4 := (hB.cell (p := ⟨b0, off + k * 5 + 3, none⟩) hb).trans (hc k hlt).2.2.2.1
      have e5 := (hB.cell (p := ⟨b0, off + k * 5 + 4, none⟩) hb).trans (hc k hlt).2.2.2.2
      have hI := HZ.out.2 k hlt
      have hsz := totChan_el hlt
      have HTK := hid (take_succ_el hlt)
      obtain ⟨⟨kap, cl, ⟨bo, bc, b⟩, ⟨so, sc, s⟩, ⟨ro, rc, r⟩⟩, ex⟩ : ∃ v, v = el ts k := ⟨_, rfl⟩
      rw [← ex] at e1 e2 e3 e4 e5 hI hsz HTK
      have HI : Hid (InChan w.heap.size w bo b so s ro r) := hI
      have hsz3 : b.length + s.length + r.length ≤ 1048576 := by have := HTT.out; simp [sizeChan] at hsz; omega
      clear ex hc hI hsz
      dsimp only at e1 e2 e3 e4 e5
      obtain ⟨VV, hVV⟩ : ∃ VV, VV = wr.alloc (.cells #[.int .i64 kap, .bool cl, .slice bo b.length bc, .slice so s.length sc, .slice ro r.length rc] 26) := ⟨_, rfl⟩
      have hbV : Below wr.heap.size wr VV := by rw [hVV]; exact below1 _ _
      have hBV := hB.trans (hbV.mono hB.size)
      have OV := hid (hO.out.below hbV)
      have DV := hid (hD.out.later dChan_ok hbV)
      have RV := hid (hR.out.later hbV)
      have XV := hid (hX.out.later hbV)
      obtain ⟨pC, hpC⟩ : ∃ pC, pC = wr.heap.size := ⟨_, rfl⟩
      have CV : Hid (Bx VV pC [.int .i64 kap, .bool cl, .slice bo b.length bc, .slice so s.length sc, .slice ro r.length rc]) := by rw [hVV, hpC]; exact Bx.new [.int .i64 kap, .bool cl, .slice bo b.length bc, .slice so s.length sc, .slice ro r.length rc] _ rfl
      have hsV : (w.heap.size + 1 + 1 + 1) ≤ VV.heap.size := Nat.le_trans hs hbV.size
      have HVV := hid hVV
      have xv := XV.out.c 0 rfl
      obtain ⟨c0, c1, c2, c3, c4⟩ := bx5 CV.out
      have hpc3 : (w.heap.size + 1 + 1 + 1) ≤ pC := by rw [hpC]; exact hs
      have hcv : Hid (∀ q, v.ownBlock = some q → q ≠ pC) := fun q e => by
        rcases hO.out.2 with ⟨e2, _⟩ | ⟨g, cc, cur2, e2, _, hh, _⟩
        · subst e2; simp [Value.ownBlock] at e
        · subst e2; simp [Value.ownBlock] at e; subst e
          have := (Array.getElem?_eq_some_iff.1 hh).1; omega
      clear hbV hVV hO hD hR hX
      go_wp2
      rw [← HVV.out, ← hpC]
      clear e1 e2 e3 e4 e5 HVV hpC
      go_region_law (first
          | (refine Kind.appS hChan_ok (w4.alloc (.cells #[.int .i64 kap, .bool cl, .slice (some ⟨gb, 0, none⟩) b.length bc', .slice (some ⟨gs, 0, none⟩) s.length sc', .slice (some ⟨gr, 0, none⟩) r.length rc'] 26)) (by rfl) (.tmp 15) (.tmp 18) (by rfl) (w.heap.size + 1 + 1 + 1) v us (by rfl) HA.out (by simp; omega) (some ⟨w4.heap.size, 0, none⟩) [((kap, cl, (some ⟨gb, 0, none⟩, bc', b), (some ⟨gs, 0, none⟩, sc', s), (some ⟨gr, 0, none⟩, rc', r)) : LChan)] 1 1 (by rfl) rfl (by simp) _ HN.out (by simp; omega) ?_; intro v' w' hO' hB' hG' hn'; obtain ⟨us2, hx2⟩ : ∃ u, u = us ++ [((kap, cl, (some ⟨gb, 0, none⟩, bc', b), (some ⟨gs, 0, none⟩, sc', s), (some ⟨gr, 0, none⟩, rc', r)) : LChan)] := ⟨_, rfl⟩; rw [← hx2] at hO'; have HX2 := hid hx2; clear hx2; obtain ⟨vo, vc, rfl, _, _⟩ := hO'.fresh; have hB5 : Below w.heap.size w w' := hBa.trans (hB'.mono (by omega)); have hs5 : (w.heap.size + 1 + 1 + 1) ≤ w'.heap.size := (by have := hB'.size; simp at this; omega); have D5 := hid (DA.out.grown dChan_ok HA.out hG'); have R5 := hid (RA.out.below hB' (by omega)); have X5 := hid (XA.out.below hB' (by omega)); have O5 := hid hO'; have xf := X5.out.f 0 rfl; have xc := X5.out.c 0 rfl; have hcG : Hid (w'.heap[pC]? = (w4.alloc (.cells #[.int .i64 kap, .bool cl, .slice (some ⟨gb, 0, none⟩) b.length bc', .slice (some ⟨gs, 0, none⟩) s.length sc', .slice (some ⟨gr, 0, none⟩) r.length rc'] 26)).heap[pC]?) := hG'.block pC CA.out.1 (fun e => hcv.out pC (by first | exact e | exact e.symm) rfl); have C5 := hid (CA.out.keep hG'.size hcG.out); clear hO' hB' hG' hn')
          | (go_simp; go_at_call 65; refine (ownChan_any kap cl bo bc b so sc s ro rc r _ (by omega) (by omega) (by omega) ((HI.out.below hBV.drew).up hBV.size)).mono ?_; rintro e w4 ⟨⟨gb, bc', gs, sc', gr, rc', rfl, hF4⟩, hbx⟩; have hb4 : Below VV.heap.size VV w4 := (Below.refl VV.heap.size VV).drew.trans hbx; have hB4 := hBV.trans (hb4.mono hBV.size); have O4 := hid (OV.out.below hb4); have R4 := hid (RV.out.later hb4); have X4 := hid (XV.out.later hb4); have D4 := hid (LaidD.add dChan_ok (a := ((kap, cl, (some ⟨gb, 0, none⟩, bc', b), (some ⟨gs, 0, none⟩, sc', s), (some ⟨gr, 0, none⟩, rc', r)) : LChan)) DV.out hb4 hsV hF4.fr); have hs4 : (w.heap.size + 1 + 1 + 1) ≤ w4.heap.size := Nat.le_trans hsV hb4.size; have HA := hid (O4.out.below (below1 w4 (.cells #[.int .i64 kap, .bool cl, .slice (some ⟨gb, 0, none⟩) b.length bc', .slice (some ⟨gs, 0, none⟩) s.length sc', .slice (some ⟨gr, 0, none⟩) r.length rc'] 26))); have HN : Hid (hChan.In (w4.heap.size + 1) (w4.alloc (.cells #[.int .i64 kap, .bool cl, .slice (some ⟨gb, 0, none⟩) b.length bc', .slice (some ⟨gs, 0, none⟩) s.length sc', .slice (some ⟨gr, 0, none⟩) r.length rc'] 26)) (some ⟨w4.heap.size, 0, none⟩) [((kap, cl, (some ⟨gb, 0, none⟩, bc', b), (some ⟨gs, 0, none⟩, sc', s), (some ⟨gr, 0, none⟩, rc', r)) : LChan)]) := hChan_one (by omega) (Bx.new _ _ rfl); have hBa := Below.allocS hB4 (.cells #[.int .i64 kap, .bool cl, .slice (some ⟨gb, 0, none⟩) b.length bc', .slice (some ⟨gs, 0, none⟩) s.length sc', .slice (some ⟨gr, 0, none⟩) r.length rc'] 26); have DA := hid (D4.out.later dChan_ok (below1 w4 (.cells #[.int .i64 kap, .bool cl, .slice (some ⟨gb, 0, none⟩) b.length bc', .slice (some ⟨gs, 0, none⟩) s.length sc', .slice (some ⟨gr, 0, none⟩) r.length rc'] 26))); have RA := hid (R4.out.alloc (.cells #[.int .i64 kap, .bool cl, .slice (some ⟨gb, 0, none⟩) b.length bc', .slice (some ⟨gs, 0, none⟩) s.length sc', .slice (some ⟨gr, 0, none⟩) r.length rc'] 26)); have XA := hid (X4.out.alloc (.cells #[.int .i64 kap, .bool cl, .slice (some ⟨gb, 0, none⟩) b.length bc', .slice (some ⟨gs, 0, none⟩) s.length sc', .slice (some ⟨gr, 0, none⟩) r.length rc'] 26)); have x4 := X4.out.c 0 rfl; have xa := XA.out.c 0 rfl; have C4 := hid (CV.out.later hb4); have CA := hid (C4.out.alloc (.cells #[.int .i64 kap, .bool cl, .slice (some ⟨gb, 0, none⟩) b.length bc', .slice (some ⟨gs, 0, none⟩) s.length sc', .slice (some ⟨gr, 0, none⟩) r.length rc'] 26)); clear hbx hF4 hb4))
      all_goals
        obtain ⟨W7, hW7⟩ : ∃ W7, W7 = w'.setCell ⟨w.heap.size + 1 + 1, 0, none⟩ (.slice vo us2.length vc) := ⟨_, rfl⟩
        have hB7 : Below w.heap.size w W7 := by rw [hW7]; exact hB5.setCell (p := ⟨w.heap.size + 1 + 1, 0, none⟩) (by dsimp only; omega) _
        have R7 : Hid (Bx W7 (w.heap.size + 1) [.slice none 0 0]) := by rw [hW7]; exact R5.out.other (a := ⟨w.heap.size + 1 + 1, 0, none⟩) (by dsimp only; omega) _
        have X7 : Hid (Bx W7 (w.heap.size + 1 + 1) [.slice vo us2.length vc]) := by rw [hW7]; exact X5.out.set 0 _
        have D7 := hid (D5.out.set dChan_ok (a := ⟨w.heap.size + 1 + 1, 0, none⟩) (by dsimp only; omega) (.slice vo us2.length vc))
        have O7 := hid (O5.out.setBelow (a := ⟨w.heap.size + 1 + 1, 0, none⟩) (by dsimp only; omega) (.slice vo us2.length vc))
        rw [← hW7, ← HX2.out] at D7
        rw [← hW7] at O7
        have hs7 : (w.heap.size + 1 + 1 + 1) ≤ W7.heap.size := by rw [hW7]; simpa [World.setCell] using hs5
        have HV2 : Hid (us2.map valChan = (ts.take (k + 1)).map valChan) := by rw [Hid, HX2.out, List.map_append, hV.out, HTK.out, List.map_append]; rfl
        have HW7 := hid hW7
        clear hW7 D5 O5 R5 X5 DA RA XA HA HN OV DV RV XV CV xv c0 c1 c2 c3 c4 C4 CA C5 hcG hcv x4 xa xf xc O4 R4 X4 D4
        go_wp2
        rw [← HW7.out]
        go_roundw
        case rel => exact ⟨k + 1, us2, _, by omega, by go_num, by rw [HX2.out]; simp; omega, HV2, O7, D7, R7, X7, hB7, hs7⟩
        case measure => simp [intOf]; omega
    · obtain rfl : k = ts.length := by omega
      rw [List.take_length] at hV
      obtain ⟨qo, qc, rfl, _, hF⟩ := hO.out.fresh
      have HF := hid (hD.out.fr dChan_ok (Nat.le_refl _) hF)
      have x0 := hX.out.c 0 rfl
      have r0 := hR.out.c 0 rfl
      have rf0 := hR.out.f 0 rfl
      have rz := hR.out.size
      clear hF hO hD
      go_wp2
      refine bodyPost_ret (v := .agg #[.slice qo ts.length qc]) (by simp [results, Try.results95, go_sem, r0]) rfl ⟨⟨qo, qc, us, by simp, hV.out, ?_⟩, ?_⟩
      · refine DFr.wide (lo := (w.heap.size + 1 + 1 + 1)) (hi := wr.heap.size) dChan_ok (DFr.keep dChan_ok HF.out fun q h1 _ _ => Below.heap_setCell wr _ _ q (by dsimp only; omega)) (by omega) (by simp [World.setCell])
      · exact hB.setCell (p := ⟨w.heap.size + 1, 0, none⟩) (by simp) _
end Go.Proofs.Ytlnjhajdbofhlaa
