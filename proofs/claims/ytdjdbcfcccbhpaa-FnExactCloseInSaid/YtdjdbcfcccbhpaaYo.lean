
/- Those that are woken leave a hub, each told once: the specification's walk. No conditions but those written. -/
import Derived.Test.YtdjdbcfcccbhpaaPLkhYl
namespace Go.Proofs.Ytdjdbcfcccbhpaa
open Go.RowKit Go.Maps

set_option maxRecDepth 100000 in
set_option maxHeartbeats 16000000 in
theorem l4Woken_any (n0 : Nat) (o : Option Addr) (c : Nat) (us0 : List LChan) (ps : List PChan) (lo : Option Addr) (lc : Nat) (l : List (Int × Int × Int × Bool)) (w : World) (hn0 : n0 ≤ w.heap.size) (h0 : 0 < us0.length) (hv : us0.map valChan = ps) (hl : us0.length ≤ 1048576) (ht : totP ps ≤ 1048576) (hll : l.length ≤ 1048576) (hF : DFr dChan n0 w.heap.size w o c us0) (hz : kK.Fresh n0 w.heap.size w lo lc l) :
    Calls Try.prog 19 #[.agg #[.slice o us0.length c], .slice lo l.length lc] w fun e w' => (∃ oo oc us, e = .returned (.slice oo (tellW (fun _ => 1) l).1.length oc) ∧ kK.Fresh w.heap.size w'.heap.size w' oo oc (tellW (fun _ => 1) l).1 ∧ us.length = us0.length ∧ us.map valChan = ps.map (keepP (tellW (fun _ => 1) l).2) ∧ DFr dChan n0 w'.heap.size w' o c us) ∧ Below n0 w w' := by
  obtain ⟨g, eo, hg1, hg2, hg3, _⟩ := (show hChan.Fresh _ _ _ _ _ _ from hF.1).at h0
  subst eo
  obtain ⟨V0, hV0⟩ : ∃ V0, V0 = w.alloc (.cells #[.slice (some ⟨g, 0, none⟩) us0.length c] 28) := ⟨_, rfl⟩
  have hb0 : Below w.heap.size w V0 := by rw [hV0]; exact below1 _ _
  have hB0 : Below n0 w V0 := hb0.mono hn0
  have N0 : Hid (Bx V0 w.heap.size [.slice (some ⟨g, 0, none⟩) us0.length c]) := by rw [hV0]; exact Bx.new [.slice (some ⟨g, 0, none⟩) us0.length c] _ rfl
  have F0 := hid (DFr.wide dChan_ok (DFr.later dChan_ok hF hb0) (Nat.le_refl _) hb0.size)
  have Z0 := hid (hz.later hb0)
  have HG : Hid (∀ q, (some ⟨g, 0, none⟩ : Option Addr) = some ⟨q, 0, none⟩ → q < w.heap.size) := fun q e => by simp at e; omega
  have hs0 : w.heap.size + 1 ≤ V0.heap.size := by rw [hV0]; simp
  have HV0 := hid hV0
  have HTT := hid ht
  have HT0 : Hid (us0.map valChan = ps.map (keepP (tellW (fun _ => 1) (l.take 0)).2)) := by rw [Hid, List.take_zero, tellW_nil, keep_one]; exact hv
  clear hV0 hb0 hF hz ht hv
  go_enter Try.func19, Try.ntmps19
  go_wp2
  rw [← HV0.out]
  go_loopw [5, 6, 11] (fun u s i wr => ∃ (k : Nat) (us : List LChan) (vT vS : Value), vT = u ∧ vS = s ∧ i = .int .i64 (k : Int) ∧ k ≤ l.length ∧ us.length = us0.length ∧ Hid (us.map valChan = ps.map (keepP (tellW (fun _ => 1) (l.take k)).2)) ∧ Hid (DFr dChan n0 wr.heap.size wr (some ⟨g, 0, none⟩) c us) ∧ Hid (kK.Own (w.heap.size + 1) wr vT (tellW (fun _ => 1) (l.take k)).1) ∧ Hid (kI.Own (w.heap.size + 1) wr vS ((tellW (fun _ => 1) (l.take k)).1.map fun x => x.1)) ∧ Hid (FarH vT us) ∧ Hid (FarH vS us) ∧ Hid (kK.Fresh n0 w.heap.size wr lo lc l) ∧ Hid (Bx wr w.heap.size [.slice (some ⟨g, 0, none⟩) us0.length c]) ∧ Below n0 w wr ∧ w.heap.size + 1 ≤ wr.heap.size) (fun _ _ i _ => l.length - (intOf i).toNat)
  case atStart => exact ⟨0, us0, _, _, rfl, rfl, rfl, Nat.zero_le _, rfl, HT0, F0, by rw [Hid, List.take_zero]; exact Kind.Own.nil _ _ _, by rw [Hid, List.take_zero]; exact Kind.Own.nil _ _ _, fun b hb => by simp [Value.ownBlock] at hb, fun b hb => by simp [Value.ownBlock] at hb, Z0, N0, hB0, hs0⟩
  case round =>
    clear HT0 F0 Z0 N0 hB0 hs0 HV0
    obtain ⟨k, us, vT, vS, rfl, rfl, rfl, hk, hul, hV, hD, hT, hS, hFT, hFS, hZ, hN, hB, hs⟩ := hrel
    have hcp : us.length ≤ 1048576 := by omega
    have HUL := hid hul
    have hpos : 0 < us.length := by omega
    clear hul
    by_cases hlt : k < l.length
    · have hki : (k : Int) < (l.length : Int) := by omega
      obtain ⟨bb, off, rfl, hbb, hc⟩ := kK_at hZ.out.in hlt
      have d1 := (hc k hlt).1
      have d2 := (hc k hlt).2.1
      have d3 := (hc k hlt).2.2.1
      have d4 := (hc k hlt).2.2.2
      have hsu := tellW_succ (fun _ => 1) hlt
      have hseen := tell_seen l k (by omega) (el l k).1
      have hle := tellW_le (fun _ => 1) l k
      obtain ⟨⟨y1, y2, y3, y4⟩, ey⟩ : ∃ v, v = el l k := ⟨_, rfl⟩
      rw [← ey] at d1 d2 d3 d4 hsu hseen
      obtain ⟨⟨T, F⟩, hTF⟩ : ∃ q, q = tellW (fun _ => 1) (l.take k) := ⟨_, rfl⟩
      rw [← hTF] at hT hS hV hsu hseen hle
      clear ey hc hTF
      dsimp only at d1 d2 d3 d4 hle hT hS hV hseen
      have HSB : Hid (∀ b, vS.ownBlock = some b → w.heap.size + 1 ≤ b ∧ b < wr.heap.size) := fun b hb => by obtain ⟨h1, h2, _⟩ := own_lt2 hS.out hb; exact ⟨h1, h2⟩
      have HTB : Hid (∀ b, vT.ownBlock = some b → w.heap.size + 1 ≤ b ∧ b < wr.heap.size) := fun b hb => by obtain ⟨h1, h2, _⟩ := own_lt2 hT.out hb; exact ⟨h1, h2⟩
      obtain ⟨SL, hSL⟩ : ∃ SL, SL = T.map fun x => x.1 := ⟨_, rfl⟩
      have hsl : SL.length ≤ k := by rw [hSL]; simp; exact hle
      rw [← hSL] at hS hseen
      have HSL := hid hSL
      clear hSL
      -- the box of the one that is woken
      obtain ⟨V1, hV1⟩ : ∃ V1, V1 = wr.alloc (.cells #[.int .i64 y1, .int .i64 y2, .int .i64 y3, .bool y4] 58) := ⟨_, rfl⟩
      have hb1 : Below wr.heap.size wr V1 := by rw [hV1]; exact below1 _ _
      have Y1 : Hid (Bx V1 wr.heap.size [.int .i64 y1, .int .i64 y2, .int .i64 y3, .bool y4]) := by rw [hV1]; exact Bx.new [.int .i64 y1, .int .i64 y2, .int .i64 y3, .bool y4] _ rfl
      obtain ⟨yp, hyp⟩ : ∃ yp, yp = wr.heap.size := ⟨_, rfl⟩
      rw [← hyp] at Y1 HSB HTB
      have hyw : w.heap.size + 1 ≤ yp := by omega
      have hB1 := hB.trans (hb1.mono (show n0 ≤ wr.heap.size by omega))
      have hD1 := hid (DFr.later dChan_ok hD.out hb1)
      have hT1 := hid (hT.out.below hb1)
      have hS1 := hid (hS.out.below hb1)
      have hZ1 := hid (hZ.out.later hb1)
      have hN1 := hid (hN.out.later hb1)
      have hs1 : yp + 1 ≤ V1.heap.size ∧ wr.heap.size ≤ V1.heap.size ∧ w.heap.size + 1 ≤ V1.heap.size := by rw [hV1, hyp]; simp; omega
      have HV1 := hid hV1
      obtain ⟨so, sc, rfl, hsn, hSI⟩ := hS1.out.in
      have HSI := hid hSI
      clear hb1 hV1 hD hT hS hZ hN hSI hsn
      go_wp2_with fail
      rw [← hyp, ← HV1.out]
      clear hyp
      refine (l1Has_is _ so sc SL y1 V1 (hasB SL y1) (by omega) HSI.out rfl).mono ?_
      rintro e wx ⟨rfl, hwx⟩
      rw [hwx]; clear hwx wx HSI HV1
      cases hh : hasB SL y1 with
      | true =>
        have hn : ¬ 0 < F y1 := by rw [hseen, hh]; simp
        have e1 : tellW (fun _ => 1) (l.take (k + 1)) = (T, F) := by rw [hsu, tellS, if_neg hn]
        have HE1 := hid e1
        clear hsu hseen hh e1 hn
        have D2 := hid (DFr.wide (hi' := V1.heap.size) dChan_ok hD1.out (Nat.le_refl _) hs1.2.1)
        clear hD1 d1 d2 d3 d4 Y1
        go_wp2
        go_roundw
        case rel => exact ⟨k + 1, us, _, _, rfl, rfl, by go_num, by omega, HUL.out, by rw [Hid, HE1.out]; exact hV.out, D2, by rw [Hid, HE1.out]; exact hT1.out, by rw [Hid, HE1.out, ← HSL.out]; exact hS1.out, hFT, hFS, hZ1, hN1, hB1, by omega⟩
        case measure => simp [intOf]; omega
      | false =>
        have hn : 0 < F y1 := hseen.2 hh
        have e1 : tellW (fun _ => 1) (l.take (k + 1)) = (T ++ [(y1, y2, y3, y4)], fun j => if j = y1 then 0 else F j) := by rw [hsu, tellS, if_pos hn]
        have HE1 := hid e1
        clear hsu hseen hh e1 hn d1 d2 d3 d4
        have y0 := Y1.out.c 0 rfl
        have yz := Y1.out.size
        have YA := hid (Y1.out.alloc (.cells #[.int .i64 y1] 3))
        have DA := hid (DFr.later dChan_ok hD1.out (below1 V1 (.cells #[.int .i64 y1] 3)))
        have TA := hid (hT1.out.below (below1 V1 (.cells #[.int .i64 y1] 3)))
        have SA := hid (hS1.out.below (below1 V1 (.cells #[.int .i64 y1] 3)))
        have ZA := hid (hZ1.out.later (below1 V1 (.cells #[.int .i64 y1] 3)))
        have NA := hid (hN1.out.alloc (.cells #[.int .i64 y1] 3))
        have HN : Hid (kI.In (V1.heap.size + 1) (V1.alloc (.cells #[.int .i64 y1] 3)) (some ⟨V1.heap.size, 0, none⟩) [y1]) := int_one (by omega) ((Bx.new (w := V1) [.int .i64 y1] 3 rfl).c 0 rfl)
        have hBA : Below n0 w (V1.alloc (.cells #[.int .i64 y1] 3)) := hB1.trans ((below1 V1 (.cells #[.int .i64 y1] 3)).mono (by omega))
        have hlS : SL.length + 1 ≤ 4194304 := by omega
        have HD0 : Hid (∀ q, (some ⟨g, 0, none⟩ : Option Addr) = some ⟨q, 0, none⟩ → (Value.slice so SL.length sc).ownBlock ≠ some q) := fun q e h => by simp at e; have := (HSB.out q h).1; omega
        have HYS : Hid (∀ b, (Value.slice so SL.length sc).ownBlock = some b → b ≠ yp) := fun b hb => by have := (HSB.out b hb).2; omega
        clear hD1 hT1 hS1 hZ1 hN1 Y1
        go_wp2_with (at_builtin; refine Kind.appN kI_ok (V1.alloc (.cells #[.int .i64 y1] 3)) rfl (.tmp 19) (.tmp 22) rfl (w.heap.size + 1) (.slice so SL.length sc) SL rfl SA.out (by simp; omega) (some ⟨V1.heap.size, 0, none⟩) [y1] 1 1 rfl rfl (by simp) _ HN.out hlS ?_; intro v' w3 hO' hB' hG' hN'; have hz3 : V1.heap.size + 1 ≤ w3.heap.size := (by have := hG'.size; simpa using this); have D3 := hid (DFr.wide (hi' := w3.heap.size) dChan_ok (DFr.grownN DA.out hG' hFS.out HD0.out) (Nat.le_refl _) (by omega)); have T3 := hid (own_grownT (by decide) TA.out SA.out hG'); have Y3 := hid (YA.out.keep hG'.size (hG'.block yp YA.out.1 fun e => HYS.out yp e.symm rfl)); have N3 := hid (NA.out.below hB' (by omega)); have Z3 := hid (ZA.out.keep fun q _ h2 _ => hB'.block q (by omega)); have FS3 := hid (FarH.grown hFS.out DA.out (by simp; omega) hN'); have S3 := hid hO'; have hB3 : Below n0 w w3 := hBA.trans (hB'.mono (by omega)); clear hO' hB' hG' hN' DA TA SA ZA NA YA HN hBA HD0 HYS y0 yz; have y0 := Y3.out.c 0 rfl; have yz := Y3.out.size; have n0' := N3.out.c 0 rfl; have nz := N3.out.size)
        have hcon := l4LeaveY_any n0 (some ⟨g, 0, none⟩) c us (ps.map (keepP F)) y1 w3 (by omega) hV.out (by omega) (by rw [totChan_P, hV.out]; exact Nat.le_trans (totP_keep _ _) HTT.out) D3.out
        rw [HUL.out] at hcon
        refine hcon.mono ?_
        rintro e w4 ⟨⟨u4, rfl⟩, ⟨us4, hul4, hv4, hD4, hO4⟩, hb4, hk4⟩
        have HU4 := hid hul4
        have hsz4 := hk4.1
        have T4 := hid (own_but T3.out hk4 fun q e => by have := HG.out q e; omega)
        have S4 := hid (own_but S3.out hk4 fun q e => by have := HG.out q e; omega)
        have N4 := hid (Bx.but N3.out hk4 HG.out)
        have Y4 := hid (Bx.but Y3.out hk4 fun q e => by have := HG.out q e; omega)
        have Z4 := hid (woken_but Z3.out hk4 D3.out (by omega))
        have FT4 := hid (FarH.step hFT.out hO4 (hul4.trans HUL.out.symm) fun b hb => (own_lt2 T3.out hb).2.1)
        have FS4 := hid (FarH.step FS3.out hO4 (hul4.trans HUL.out.symm) fun b hb => (own_lt2 S3.out hb).2.1)
        have hB4 := hB3.trans hb4
        have HV4 : Hid (us4.map valChan = ps.map (keepP fun j => if j = y1 then 0 else F j)) := by rw [Hid, hv4, keep_off]
        have D4 := hid hD4
        have HTB4 : Hid (∀ q, (some ⟨g, 0, none⟩ : Option Addr) = some ⟨q, 0, none⟩ → vT.ownBlock ≠ some q) := fun q e h => by simp at e; have := (HTB.out q h).1; omega
        clear y0 yz n0' nz hcon hv4 hD4 hO4 hb4 hk4 hul4 T3 S3 N3 Y3 Z3 D3 hFT hFS FS3 hB3
        have YA := hid (Y4.out.alloc (.cells #[.int .i64 y1, .int .i64 y2, .int .i64 y3, .bool y4] 58))
        have DA := hid (DFr.later dChan_ok D4.out (below1 w4 (.cells #[.int .i64 y1, .int .i64 y2, .int .i64 y3, .bool y4] 58)))
        have TA := hid (T4.out.below (below1 w4 (.cells #[.int .i64 y1, .int .i64 y2, .int .i64 y3, .bool y4] 58)))
        have SA := hid (S4.out.below (below1 w4 (.cells #[.int .i64 y1, .int .i64 y2, .int .i64 y3, .bool y4] 58)))
        have ZA := hid (Z4.out.later (below1 w4 (.cells #[.int .i64 y1, .int .i64 y2, .int .i64 y3, .bool y4] 58)))
        have NA := hid (N4.out.alloc (.cells #[.int .i64 y1, .int .i64 y2, .int .i64 y3, .bool y4] 58))
        have NX := Bx.new (w := w4) [.int .i64 y1, .int .i64 y2, .int .i64 y3, .bool y4] 58 rfl
        have HN : Hid (kK.In (w4.heap.size + 1) (w4.alloc (.cells #[.int .i64 y1, .int .i64 y2, .int .i64 y3, .bool y4] 58)) (some ⟨w4.heap.size, 0, none⟩) [(y1, y2, y3, y4)]) := kK_one (by omega) (NX.c 0 rfl) (NX.c 1 rfl) (NX.c 2 rfl) (NX.c 3 rfl)
        have hBA : Below n0 w (w4.alloc (.cells #[.int .i64 y1, .int .i64 y2, .int .i64 y3, .bool y4] 58)) := hB4.trans ((below1 w4 (.cells #[.int .i64 y1, .int .i64 y2, .int .i64 y3, .bool y4] 58)).mono (by omega))
        have hlT : T.length + 1 ≤ 4194304 := by omega
        have y0 := Y4.out.c 0 rfl
        have y1' := Y4.out.c 1 rfl
        have y2' := Y4.out.c 2 rfl
        have y3' := Y4.out.c 3 rfl
        have yz := Y4.out.size
        clear NX D4 T4 S4 Z4 N4
        go_wp2_with (at_builtin; refine Kind.appN kK_ok (w4.alloc (.cells #[.int .i64 y1, .int .i64 y2, .int .i64 y3, .bool y4] 58)) rfl (.tmp 28) (.tmp 30) rfl (w.heap.size + 1) vT T rfl TA.out (by simp; omega) (some ⟨w4.heap.size, 0, none⟩) [(y1, y2, y3, y4)] 1 1 rfl rfl (by simp) _ HN.out hlT ?_; intro v5 w5 hO' hB' hG' hN'; have hz5 : w4.heap.size + 1 ≤ w5.heap.size := (by have := hG'.size; simpa using this); have D5 := hid (DFr.wide (hi' := w5.heap.size) dChan_ok (DFr.grownN DA.out hG' FT4.out HTB4.out) (Nat.le_refl _) (by omega)); have S5 := hid (own_grownT (by decide) SA.out TA.out hG'); have N5 := hid (NA.out.below hB' (by omega)); have Z5 := hid (ZA.out.keep fun q _ h2 _ => hB'.block q (by omega)); have FT5 := hid (FarH.grown FT4.out DA.out (by simp) hN'); have T5 := hid hO'; have hB5 : Below n0 w w5 := hBA.trans (hB'.mono (by omega)); clear hO' hB' hG' hN' DA TA SA ZA NA YA HN hBA)
        go_roundw
        case rel => exact ⟨k + 1, us4, v5, v', rfl, rfl, by go_num, by omega, HU4.out, by rw [Hid, HE1.out]; exact HV4.out, D5, by rw [Hid, HE1.out]; exact T5.out, by rw [Hid, HE1.out, List.map_append, ← HSL.out]; exact S5.out, FT5, FS4, Z5, N5, hB5, by omega⟩
        case measure => simp [intOf]; omega
    · obtain rfl : k = l.length := by omega
      rw [List.take_length] at hV hT hS
      obtain ⟨qo, qc, rfl, _, hFr⟩ := hT.out.fresh
      have HF := hid (hFr.wide (lo' := w.heap.size) (hi' := wr.heap.size) (by omega) (Nat.le_refl _))
      clear hFr hT hS
      go_wp2
      go_ret
      exact ⟨⟨qo, qc, us, rfl, HF.out, HUL.out, hV.out, hD.out⟩, hB⟩
end Go.Proofs.Ytdjdbcfcccbhpaa
