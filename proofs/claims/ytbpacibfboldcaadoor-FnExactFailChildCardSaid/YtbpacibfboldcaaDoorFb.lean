
/- A fault is borne, or not: the program. No conditions but those written. -/
import Derived.Test.YtbpacibfboldcaaDoorFa
import Derived.Test.YtbpacibfboldcaaDoorAo
import Derived.Deep.DeepCutAuto
import Derived.Deep.RegionLaw
namespace Go.Proofs.YtbpacibfboldcaaDoor
open Go.RowKit

theorem own_lowI {lo lo' : Nat} {W : World} {v : Value} {xs : List Int} (h : kI.Own lo W v xs) (hl : lo' ≤ lo) : kI.Own lo' W v xs := by
  rcases h.2 with ⟨e, h0⟩ | ⟨g, cap, cur, e, hb, r⟩
  · exact ⟨h.1, .inl ⟨e, h0⟩⟩
  · exact ⟨h.1, .inr ⟨g, cap, cur, e, Nat.le_trans hl hb, r⟩⟩
theorem ticksAbove_n {ao : Option Addr} {cap n : Nat} {zs : List Int} {lim : Int} {w : World} (hn : n = zs.length) (hl : zs.length ≤ 1048576) (hz : kI.In w.heap.size w ao zs) :
    Calls Tryd.prog 80 #[.slice ao n cap, .int .i64 lim] w fun e w' => AnsV w (above zs lim) e w' := by subst hn; exact ticksAbove_any ao cap zs lim w hl hz
set_option maxRecDepth 10000 in
set_option maxHeartbeats 8000000 in
theorem bear_any (lo hi p : Nat) (ra : List (Option Addr × Nat)) (s : St) (k : Nat) (tick : Int) (w : World) (hL : LiveW 62 lo hi w p ra s) (hlo : lo ≤ w.heap.size) (hlh : lo ≤ hi) (hk : k < s.1.length) (hf : (fltP (el s.1 k)).length ≤ 1000) (ht0 : 0 ≤ tick) (ht1 : tick ≤ 1000000) (hw0 : 1 ≤ (el s.1 k).2.2.1) (hw1 : (el s.1 k).2.2.1 ≤ 1000) :
    Calls Tryd.prog 72 #[.pointer (some ⟨p, 0, none⟩), .int .i64 k, .int .i64 tick] w fun e w' => AnsBear lo hi w p ra s k tick e w' := by
  have HL := hid hL
  obtain ⟨g, kc, av, ls, hp, hD, hO, hv, hr, hlp, hhi⟩ := hL
  have hlen := len_ls hv
  have c0 : w.cell? ⟨p, 0, none⟩ = some (.slice (some ⟨g, 0, none⟩) s.1.length kc) := by rw [Go.Joins.cell_of_block hp]; rfl
  have hps : p < w.heap.size := (Array.getElem?_eq_some_iff.1 hp).1
  have hev := el_map_val hv (k := k) (by omega)
  obtain ⟨⟨kd, mr, wi, up, ch, ⟨ro, rc, r⟩, ⟨fo, fc, f⟩, ov⟩, ex⟩ : ∃ v, v = el ls k := ⟨_, rfl⟩
  obtain ⟨⟨i0, i1, i2, i3, i4, i5, i6, i7⟩, hfz, hg1, _, hg3⟩ := hK_at hD.1 (k := k) (by omega) ex.symm
  rw [← ex] at hev
  have hevk : el s.1 k = (kd, mr, wi, up, ch, r, f, ov) := hev
  rw [hevk] at hf hw0 hw1
  simp only [fltP] at hf
  dsimp only at hw0 hw1
  have HEV := hid hevk
  have hfa := hD.2.1 k (by omega)
  rw [← ex] at hfa
  have HFA : Hid (kI.In w.heap.size w fo f) := Kind.Fresh.in hfa.2
  have HEX := hid ex
  obtain ⟨V0, hV0⟩ : ∃ V0, V0 = w.alloc (.cells #[.int .i64 kd, .int .i64 mr, .int .i64 wi, .int .i64 up, .int .i64 ch, .slice ro r.length rc, .slice fo f.length fc, .bool ov] 27) := ⟨_, rfl⟩
  have hb0 : Below w.heap.size w V0 := by rw [hV0]; exact below1 _ _
  have X0 : Bx V0 w.heap.size [.int .i64 kd, .int .i64 mr, .int .i64 wi, .int .i64 up, .int .i64 ch, .slice ro r.length rc, .slice fo f.length fc, .bool ov] := by rw [hV0]; exact Bx.new [.int .i64 kd, .int .i64 mr, .int .i64 wi, .int .i64 up, .int .i64 ch, .slice ro r.length rc, .slice fo f.length fc, .bool ov] _ rfl
  have hs0 : w.heap.size < V0.heap.size := X0.1
  have HV0 := hid hV0
  have a1 := X0.c 1 rfl
  have a2 := X0.c 2 rfl
  have a6 := X0.c 6 rfl
  have hb0a : Below w.heap.size w (V0.alloc (.cells #[.int .i64 tick] 3)) := Below.allocS hb0 _
  have X0a := X0.alloc (.cells #[.int .i64 tick] 3)
  have b2 := X0a.c 2 rfl
  have b6 := X0a.c 6 rfl
  have N0 : kI.In (V0.alloc (.cells #[.int .i64 tick] 3)).heap.size (V0.alloc (.cells #[.int .i64 tick] 3)) (some ⟨V0.heap.size, 0, none⟩) [tick] := int_one (by simp) (by simp)
  have hwr : IntKind.i64.wrap (tick - wi) = tick - wi := by rw [IntKind.wrap_i64]; omega
  have hll : (above (f.map (capT tick)) (tick - wi)).length + 1 ≤ 4194304 := by have := above_le (f.map (capT tick)) (tick - wi); simp at this; omega
  clear hp hD hO hv hr ex hev hevk hfa hV0 hfz
  obtain ⟨FF, hFF⟩ : ∃ FF, FF = recentI f tick wi := ⟨_, rfl⟩
  have hFl : FF.length ≤ 1001 := by have := recentI_le f tick wi; rw [hFF]; omega
  have HFF := hid hFF
  clear hFF
  go_enter Tryd.func72, Tryd.ntmps72
  go_wp2_with fail
  rw [← HV0.out]
  go_cut [7] (fun s7 wx => ∃ qo qc, s7 = .slice qo FF.length qc ∧ Hid (kI.Own (w.heap.size + 1) wx s7 FF) ∧ Hid (Below w.heap.size w wx) ∧ Hid (Bx wx w.heap.size [.int .i64 kd, .int .i64 mr, .int .i64 wi, .int .i64 up, .int .i64 ch, .slice ro r.length rc, .slice fo f.length fc, .bool ov]))
  case first =>
    go_region_law (first
      | (refine Kind.appS kI_ok (w2.alloc (.cells #[.int .i64 tick] 3)) (by rfl) (.tmp 23) (.tmp 25) (by rfl) (w.heap.size + 1) v2 (above (f.map (capT tick)) (tick - wi)) (by rfl) (O2.out.below (below1 _ _)) (by first | omega | (simp; omega)) (some ⟨w2.heap.size, 0, none⟩) [tick] 1 1 (by rfl) rfl (by simp) _ (int_one (n := w2.heap.size + 1) (by omega) (by simp)) hll ?_; intro v' w' hO' hB' hG' hn'; obtain ⟨qo, qc, rfl, _, _⟩ := hO'.fresh; have hB5 : Below w.heap.size w w' := (Below.allocS B2.out _).trans (hB'.mono (by omega)); have HO : Hid (kI.Own (w.heap.size + 1) w' (.slice qo FF.length qc) FF) := (by rw [HFF.out]; exact hO'); have HB := hid hB5; have HX := hid (Bx.below (X2.alloc _) hB' (by omega)); have hxx := HX.out.c 1 rfl; rw [show (above (f.map (capT tick)) (tick - wi) ++ [tick]).length = FF.length by rw [HFF.out]; rfl]; clear hO' hB' hG' hn')
      | (refine Kind.appS kI_ok w2 (by rfl) (.tmp 23) (.tmp 25) (by rfl) (w.heap.size + 1) v2 (above (f.map (capT tick)) (tick - wi)) (by rfl) O2.out (by first | omega | (simp; omega)) (some ⟨V0.heap.size, 0, none⟩) [tick] 1 1 (by rfl) rfl (by simp) _ N2 hll ?_; intro v' w' hO' hB' hG' hn'; obtain ⟨qo, qc, rfl, _, _⟩ := hO'.fresh; have hB5 : Below w.heap.size w w' := B2.out.trans (hB'.mono (by omega)); have HO : Hid (kI.Own (w.heap.size + 1) w' (.slice qo FF.length qc) FF) := (by rw [HFF.out]; exact hO'); have HB := hid hB5; have HX := hid (Bx.below X2 hB' (by omega)); have hxx := HX.out.c 1 rfl; rw [show (above (f.map (capT tick)) (tick - wi) ++ [tick]).length = FF.length by rw [HFF.out]; rfl]; clear hO' hB' hG' hn')
      | (refine Kind.appS kI_ok w2 (by rfl) (.tmp 23) (.tmp 25) (by rfl) (w.heap.size + 1) v2 (above (f.map (capT tick)) (tick - wi)) (by rfl) O2.out (by first | omega | (simp; omega)) (some ⟨w1.heap.size, 0, none⟩) [tick] 1 1 (by rfl) rfl (by simp) _ N2 hll ?_; intro v' w' hO' hB' hG' hn'; obtain ⟨qo, qc, rfl, _, _⟩ := hO'.fresh; have hB5 : Below w.heap.size w w' := B2.out.trans (hB'.mono (by omega)); have HO : Hid (kI.Own (w.heap.size + 1) w' (.slice qo FF.length qc) FF) := (by rw [HFF.out]; exact hO'); have HB := hid hB5; have HX := hid (Bx.below X2 hB' (by omega)); have hxx := HX.out.c 1 rfl; rw [show (above (f.map (capT tick)) (tick - wi) ++ [tick]).length = FF.length by rw [HFF.out]; rfl]; clear hO' hB' hG' hn')
      | (go_simp; go_at_call 80; refine (ticksAbove_n (zs := f.map (capT tick)) (lim := tick - wi) HM1.out hfl1 (by exact N1i)).mono ?_; rintro e w2 ⟨⟨v2, rfl, hO2⟩, hb2⟩; have O2 := hid (own_lowI hO2 (show w.heap.size + 1 ≤ _ from X1.1)); have B2 := hid ((B1.out).trans (hb2.mono (B1.out).size)); have X2 := X1.later hb2; have hs2 : w.heap.size < w2.heap.size := X2.1; have y1 := X2.c 1 rfl; have y2 := X2.c 2 rfl; have N2 := N1.later hb2; have hNN := N1; clear hO2 hb2)
      | (go_simp; go_at_call 80; refine (ticksAbove_n (zs := f.map (capT tick)) (lim := tick - wi) (w := w1.alloc (.cells #[.int .i64 tick] 3)) HM1.out hfl1 (by exact F1.later (below1 _ _))).mono ?_; rintro e w2 ⟨⟨v2, rfl, hO2⟩, hb2⟩; have hb2' := (below1 w1 (.cells #[.int .i64 tick] 3)).trans (hb2.mono (by simp)); have O2 := hid (own_lowI hO2 (show w.heap.size + 1 ≤ _ from Nat.le_trans X1.1 (by simp))); have B2 := hid (B1.out.trans (hb2'.mono B1.out.size)); have X2 := X1.later hb2'; have hs2 : w.heap.size < w2.heap.size := X2.1; have y1 := X2.c 1 rfl; have y2 := X2.c 2 rfl; have N2 : kI.In w2.heap.size w2 (some ⟨w1.heap.size, 0, none⟩) [tick] := Kind.In.later (int_one (by simp) (by simp)) hb2; clear hO2 hb2 hb2')
      | (go_simp; go_at_call 80; refine (ticksAbove_n (zs := f.map (capT tick)) (lim := tick - wi) (w := w1) HM1.out hfl1 (by exact F1)).mono ?_; rintro e w2 ⟨⟨v2, rfl, hO2⟩, hb2⟩; have O2 := hid (own_lowI hO2 (show w.heap.size + 1 ≤ _ from X1.1)); have B2 := hid ((B1.out).trans (hb2.mono (B1.out).size)); have X2 := X1.later hb2; have hs2 : w.heap.size < w2.heap.size := X2.1; have y1 := X2.c 1 rfl; have y2 := X2.c 2 rfl; clear hO2 hb2)
      | (go_simp; go_at_call 81; refine (upTo_any fo fc f tick V0.drew (by omega) (by exact HFA.out.later hb0.drew)).mono ?_; rintro e w1 ⟨⟨v1, rfl, hO1⟩, hbx⟩; have hb1 : Below w.heap.size w w1 := hb0.drew.trans (hbx.mono hb0.size); have B1 := hid hb1; have X1 := X0.drew.later hbx; obtain ⟨q1, qc1, rfl, _, hF1⟩ := hO1.fresh; have F1 := hF1.in; have x1 := X1.c 1 rfl; have x2 := X1.c 2 rfl; have X1a := X1.alloc (.cells #[.int .i64 tick] 3); have z2 := X1a.c 2 rfl; have hfl1 : (f.map (capT tick)).length ≤ 1048576 := (by simp; omega); have HM1 : Hid (f.length = (f.map (capT tick)).length) := (by simp [Hid]); clear hO1 hbx hF1)
      | (go_simp; go_at_call 81; refine (upTo_any fo fc f tick (V0.alloc (.cells #[.int .i64 tick] 3)).drew (by omega) (by exact HFA.out.later hb0a.drew)).mono ?_; rintro e w1 ⟨⟨v1, rfl, hO1⟩, hbx⟩; have hb1 : Below w.heap.size w w1 := hb0a.drew.trans (hbx.mono hb0a.size); have B1 := hid hb1; have X1 := X0a.drew.later hbx; obtain ⟨q1, qc1, rfl, _, hF1⟩ := hO1.fresh; have F1 := hF1.in; have x1 := X1.c 1 rfl; have x2 := X1.c 2 rfl; have X1a := X1.alloc (.cells #[.int .i64 tick] 3); have z2 := X1a.c 2 rfl; have hfl1 : (f.map (capT tick)).length ≤ 1048576 := (by simp; omega); have HM1 : Hid (f.length = (f.map (capT tick)).length) := (by simp [Hid]); have N1i := F1; have N1 := (show kI.In (V0.alloc (.cells #[.int .i64 tick] 3)).drew.heap.size (V0.alloc (.cells #[.int .i64 tick] 3)).drew (some ⟨V0.heap.size, 0, none⟩) [tick] from N0).later hbx; clear hO1 hbx hF1))
    all_goals
      go_wp2_with fail
      go_meet
      exact ⟨_, _, rfl, HO.out, HB.out, HX.out⟩
  case rest =>
    clear a1 a2 a6 b2 b6 N0 X0a hb0a X0 hb0 hs0 HV0 hwr hll
    obtain ⟨qo, qc, rfl, HO, HB, HX⟩ := hcut
    have x1 := HX.out.c 1 rfl
    have hbB := HB.out
    have L1 := hid (HL.out.later hbB)
    have hBl := hbB.mono hlo
    have hsz := hbB.size
    by_cases hgt : (FF.length : Int) > mr
    · have HA : Hid (AnsBear lo hi w p ra s k tick (.panicked [{ v := gaveV k, recovered := false }]) wc) := by
        rw [Hid, AnsBear, HEV.out]
        rw [if_pos (by have := HFF.out; simp only [fltP]; rw [← this]; exact hgt)]
        exact ⟨rfl, L1.out, hBl, IntsKept.later hbB⟩
      go_wp2
      exact ⟨rfl, HA.out⟩
    · obtain ⟨g2, kc2, av2, ls2, hp2, hD2, hO2, hv2, hr2, hlp2, hhi2⟩ := L1.out
      have hlen2 := len_ls hv2
      have e0 : wc.cell? ⟨p, 0, none⟩ = some (.slice (some ⟨g2, 0, none⟩) s.1.length kc2) := by rw [Go.Joins.cell_of_block hp2]; rfl
      have hev2 := el_map_val hv2 (k := k) (by omega)
      rw [HEV.out] at hev2
      obtain ⟨⟨kd2, mr2, wi2, up2, ch2, ⟨ro2, rc2, r2⟩, ⟨fo2, fc2, f2⟩, ov2⟩, ex2⟩ : ∃ v, v = el ls2 k := ⟨_, rfl⟩
      obtain ⟨⟨_, _, _, _, _, _, j6, _⟩, hfz2, hg21, _, hg23⟩ := hK_at hD2.1 (k := k) (by omega) ex2.symm
      have z6 := hfz2 6
      obtain ⟨_, _, _, _, hFq⟩ := HO.out.fresh
      have hFw : kI.Fresh hi wc.heap.size wc qo qc FF := by
        rcases HO.out.fresh with ⟨qo', qc', e1, _, hF'⟩
        simp at e1
        obtain ⟨rfl, rfl⟩ := e1
        exact hF'.wide (by omega) (Nat.le_refl _)
      have hPF := LiveW.putFaults ownT_w hp2 hD2 hO2 hv2 hr2 hlp2 hlh (k := k) (by omega) ex2.symm hFw hhi2
      obtain ⟨hP1, hP2, hP3⟩ := hPF
      have HP1 := hid hP1
      have hBn := hBl.setCell (p := ⟨g2, k * 8 + 6, none⟩) hP3 (.slice qo FF.length qc)
      have HA : Hid (AnsBear lo hi w p ra s k tick (.returned (.tuple #[])) (wc.setCell ⟨g2, k * 8 + 6, none⟩ (.slice qo FF.length qc))) := by
        rw [Hid, AnsBear, HEV.out]
        rw [if_neg (by have := HFF.out; simp only [fltP]; rw [← this]; exact hgt)]
        refine ⟨rfl, ?_, hBn, (IntsKept.later hbB).trans hP2⟩
        have := HP1.out
        rw [HFF.out] at this
        simpa [World.setCell, fltP, HFF.out] using this
      clear hp2 hD2 hO2 hv2 hr2 ex2 hev2 hfz2 hFq hFw hP1
      go_wp2
      first | refine bodyPost_ret (results_none rfl _ _ _) rfl ?_ | refine bodyPost_end (results_none rfl _ _ _) rfl ?_
      exact HA.out
end Go.Proofs.YtbpacibfboldcaaDoor
