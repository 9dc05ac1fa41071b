
/- Publish: the specification. No conditions but those written. -/
import Derived.Test.YtimkadnnhfllnaaYd
import Derived.Test.YtimkadnnhfllnaaTe
import Derived.Test.YtimkadnnhfllnaaTu
import Derived.Test.YtimkadnnhfllnaaTi
import Derived.BigQuiet
import Derived.Deep.Cut
namespace Go.Proofs.Ytimkadnnhfllnaa
open Go.RowKit

set_option maxRecDepth 10000 in
set_option maxHeartbeats 16000000 in
theorem specPubl_any (sd : Int) (ao : Option Addr) (cap : Nat) (ts : List LSub) (v : Int) (w : World) (hl : ts.length ≤ 1048576) (hf : Fits ts) (hz : DIn dSub w.heap.size w ao ts) :
    Calls Try.prog 6 #[.agg #[.int .i64 sd, .slice ao ts.length cap], .int .i64 v] w fun e w' => AnsU w (pubR sd (ts.map valSub) v) e w' := by
  have HZ := hid hz
  have HF := hid hf
  clear hz hf
  obtain ⟨V, hV⟩ : ∃ V, V = (w.alloc (.cells #[.int .i64 sd, .slice ao ts.length cap] 25)).alloc (.cells #[.int .i64 0, .slice none 0 0] 25) := ⟨_, rfl⟩
  have hB0 : Below w.heap.size w V := by rw [hV]; exact below2 _ _ _
  have A0 : Hid (Bx V w.heap.size [.int .i64 sd, .slice ao ts.length cap]) := by rw [hV]; exact (Bx.new [.int .i64 sd, .slice ao ts.length cap] _ rfl).alloc _
  have R0 : Hid (Bx V (w.heap.size + 1) [.int .i64 0, .slice none 0 0]) := by rw [hV]; exact Bx.new [.int .i64 0, .slice none 0 0] _ (by simp)
  have HS : Hid (V.heap.size = w.heap.size + 1 + 1) := by rw [hV]; simp [Hid]
  have HV := hid hV
  have hlm : (ts.map valSub).length = ts.length := by simp
  have HLM := hid hlm
  clear hV hlm
  cases hg : topicB sd (ts.map valSub)
  · have HG := hid hg
    have HR : Hid (pubR sd (ts.map valSub) v = (0, [], [], 1)) := by rw [Hid, pubR, hg]; rfl
    clear hg
    go_enter Try.func6, Try.ntmps6
    go_wp2_with fail
    rw [← HV.out]
    refine (specGood_is sd ao cap ts V false hl HF.out (HZ.out.later dSub_ok hB0) HG.out).mono ?_
    rintro e w1 ⟨rfl, hb1⟩
    have hB1 := hB0.trans (hb1.mono hB0.size)
    have hV1 := hb1.size
    have A1 := hid (A0.out.later hb1)
    have R1 := hid (R0.out.later hb1)
    have a0 := A1.out.c 0 rfl
    have a1 := A1.out.c 1 rfl
    have r0 := R1.out.c 0 rfl
    have rf0 := R1.out.f 0 rfl
    have r1 := R1.out.c 1 rfl
    have rf1 := R1.out.f 1 rfl
    clear hb1 A0 R0
    have rz := R1.out.size
    go_wp2
    refine bodyPost_ret (v := .tuple #[.agg #[.int .i64 0, .slice none 0 0], .slice none 0 0, .int .i64 1]) (by simp [results, Try.results6, go_sem, r0, r1]) rfl ?_
    rw [HR.out]
    exact ⟨⟨none, 0, [], none, 0, rfl, rfl, DFr.nil _ _ _ _ _, .inl rfl, apart_nil _ _⟩, (hB1.setCell (p := ⟨w.heap.size + 1, 0, none⟩) (by dsimp only; omega) _).setCell (p := ⟨w.heap.size + 1, 1, none⟩) (by dsimp only; omega) _⟩
  have HG := hid hg
  clear hg
  by_cases hsm : sd = 1000000
  · have HR : Hid (pubR sd (ts.map valSub) v = (0, [], [], 1)) := by rw [Hid, pubR, HG.out, if_pos hsm]; rfl
    have HSM := hid hsm
    clear hsm
    go_enter Try.func6, Try.ntmps6
    go_wp2_with fail
    rw [← HV.out]
    refine (specGood_is sd ao cap ts V true hl HF.out (HZ.out.later dSub_ok hB0) HG.out).mono ?_
    rintro e w1 ⟨rfl, hb1⟩
    have hB1 := hB0.trans (hb1.mono hB0.size)
    have hV1 := hb1.size
    have A1 := hid (A0.out.later hb1)
    have R1 := hid (R0.out.later hb1)
    have a0 := A1.out.c 0 rfl
    have a1 := A1.out.c 1 rfl
    have r0 := R1.out.c 0 rfl
    have rf0 := R1.out.f 0 rfl
    have r1 := R1.out.c 1 rfl
    have rf1 := R1.out.f 1 rfl
    clear hb1 A0 R0
    have rz := R1.out.size
    have hsm := HSM.out
    go_wp2
    refine bodyPost_ret (v := .tuple #[.agg #[.int .i64 0, .slice none 0 0], .slice none 0 0, .int .i64 1]) (by simp [results, Try.results6, go_sem, r0, r1]) rfl ?_
    rw [HR.out]
    exact ⟨⟨none, 0, [], none, 0, rfl, rfl, DFr.nil _ _ _ _ _, .inl rfl, apart_nil _ _⟩, (hB1.setCell (p := ⟨w.heap.size + 1, 0, none⟩) (by dsimp only; omega) _).setCell (p := ⟨w.heap.size + 1, 1, none⟩) (by dsimp only; omega) _⟩
  by_cases hw0 : (waitI (ts.map valSub)).length = 0
  · have HR : Hid (pubR sd (ts.map valSub) v = (sd + 1, (ts.map valSub).map (sayP v), losI (ts.map valSub), 0)) := by rw [Hid, pubR, HG.out, if_neg hsm, if_pos hw0]; rfl
    have HW0 := hid hw0
    clear hw0
    go_enter Try.func6, Try.ntmps6
    go_wp2_with fail
    rw [← HV.out]
    refine (specGood_is sd ao cap ts V true hl HF.out (HZ.out.later dSub_ok hB0) HG.out).mono ?_
    rintro e w1 ⟨rfl, hb1⟩
    have hB1 := hB0.trans (hb1.mono hB0.size)
    have hV1 := hb1.size
    have A1 := hid (A0.out.later hb1)
    have R1 := hid (R0.out.later hb1)
    have a0 := A1.out.c 0 rfl
    have a1 := A1.out.c 1 rfl
    have r0 := R1.out.c 0 rfl
    have rf0 := R1.out.f 0 rfl
    have r1 := R1.out.c 1 rfl
    have rf1 := R1.out.f 1 rfl
    clear hb1 A0 R0
    go_wp2_with fail
    refine (l9Own_any sd ao cap ts w1 hl HF.out (HZ.out.later dSub_ok hB1)).mono ?_
    rintro e w2 ⟨⟨o, c, us, rfl, hv2, hD2⟩, hb2⟩
    rw [List.length_map]
    have HU := hid hv2
    have hul := len_val hv2
    have HUL := hid hul
    have A2 := hid (A1.out.later hb2)
    have R2 := hid (R1.out.later hb2)
    have hB2 := hB1.trans (hb2.mono hB1.size)
    have hV2 := Nat.le_trans hV1 hb2.size
    have hs12 : w1.heap.size ≤ w2.heap.size := hb2.size
    obtain ⟨w3, hw3⟩ : ∃ V, V = (w2.setCell ⟨w.heap.size, 0, none⟩ (.int .i64 sd)).setCell ⟨w.heap.size, 1, none⟩ (.slice o ts.length c) := ⟨_, rfl⟩
    have A3 : Hid (Bx w3 w.heap.size [.int .i64 sd, .slice o ts.length c]) := by rw [Hid, hw3]; exact (A2.out.set 0 _).set 1 _
    have R3 : Hid (Bx w3 (w.heap.size + 1) [.int .i64 0, .slice none 0 0]) := by rw [Hid, hw3]; exact (R2.out.other (a := ⟨w.heap.size, 0, none⟩) (by dsimp only; omega) _).other (a := ⟨w.heap.size, 1, none⟩) (by dsimp only; omega) _
    have D3 : Hid (DFr dSub w1.heap.size w2.heap.size w3 o c us) := by rw [Hid, hw3]; exact hD2.keep dSub_ok fun q h1 _ _ => by rw [Below.heap_setCell _ _ _ _ (by dsimp only; have := HS.out; omega), Below.heap_setCell _ _ _ _ (by dsimp only; have := HS.out; omega)]
    have hB3 : Below w.heap.size w w3 := by rw [hw3]; exact (hB2.setCell (p := ⟨w.heap.size, 0, none⟩) (by dsimp only; omega) _).setCell (p := ⟨w.heap.size, 1, none⟩) (by dsimp only; omega) _
    have hz3 : w3.heap.size = w2.heap.size := by rw [hw3]; simp [World.setCell]
    have HZ3 := hid hz3
    have HAt := hid (l9Waiting_any sd o c us w3 (by rw [hul]; exact hl) (D3.out.in dSub_ok).1)
    rw [hul, hv2] at HAt
    have b0 := A2.out.c 0 rfl
    have bf0 := A2.out.f 0 rfl
    have b1 := A2.out.c 1 rfl
    have bf1 := A2.out.f 1 rfl
    have HW3 := hid hw3
    clear A1 R1 a0 a1 r0 rf0 r1 rf1 hv2 hD2 hul hb2 hB1 hw3 A2 R2 hB2 hz3
    go_wp2_with fail
    rw [← HW3.out]
    clear b0 bf0 b1 bf1
    refine HAt.out.mono ?_
    rintro e w4 ⟨⟨wo, wc, rfl, hF4⟩, hb4⟩
    have F4 := hid hF4
    have hs34 := hb4.size
    have A4 := hid (A3.out.later hb4)
    have R4 := hid (R3.out.later hb4)
    have D4 := hid (D3.out.later dSub_ok hb4)
    have hB4 := hB3.trans (hb4.mono hB3.size)
    have hs4 : w2.heap.size ≤ w4.heap.size := by rw [← HZ3.out]; exact hb4.size
    clear hb4 hF4 A3 R3 D3 hB3 HAt
    have hsd : 0 ≤ sd ∧ sd ≤ 1000000 := (topicB_good HG.out).1
    rw [HW0.out]
    have p0 := A4.out.c 0 rfl
    have p1 := A4.out.c 1 rfl
    have pf0 := A4.out.f 0 rfl
    have hsv := HS.out
    obtain ⟨w5, hw5⟩ : ∃ V, V = w4.setCell ⟨w.heap.size, 0, none⟩ (.int .i64 (sd + 1)) := ⟨_, rfl⟩
    have A5 : Hid (Bx w5 w.heap.size [.int .i64 (sd + 1), .slice o ts.length c]) := by rw [Hid, hw5]; exact A4.out.set 0 _
    have R5 : Hid (Bx w5 (w.heap.size + 1) [.int .i64 0, .slice none 0 0]) := by rw [Hid, hw5]; exact R4.out.other (a := ⟨w.heap.size, 0, none⟩) (by dsimp only; omega) _
    have D5 : Hid (DFr dSub w1.heap.size w2.heap.size w5 o c us) := by rw [Hid, hw5]; exact D4.out.keep dSub_ok fun q h1 _ _ => Below.heap_setCell _ _ _ _ (by dsimp only; omega)
    have hB5 : Below w.heap.size w w5 := by rw [hw5]; exact hB4.setCell (p := ⟨w.heap.size, 0, none⟩) (by dsimp only; omega) _
    have hz5 : w5.heap.size = w4.heap.size := by rw [hw5]; simp [World.setCell]
    have HZ5 := hid hz5
    have HW5 := hid hw5
    clear hw5 A4 R4 D4 hB4 hz5 F4 hsv
    have HSD := hid hsd
    go_upto_region 8 with fail
    rw [← HW5.out]
    clear p0 p1 pf0
    have a1 := A5.out.c 1 rfl
    have hV4 := Nat.le_trans hs4 (Nat.le_of_eq HZ5.out.symm)
    go_wp2
    go_loopw [8, 36] (fun u i wr => ∃ (k : Nat) (l : Value) (vs : List LSub), l = u ∧ k ≤ ts.length ∧ i = .int .i64 k ∧ Hid (kI.Own w4.heap.size wr l (losI ((ts.map valSub).take k))) ∧ Hid (DFr dSub w1.heap.size wr.heap.size wr o c vs) ∧ Hid (vs.map valSub = midS v (ts.map valSub) k) ∧ Hid (PubA l vs) ∧ Hid (Bx wr w.heap.size [.int .i64 (sd + 1), .slice o ts.length c]) ∧ Hid (Bx wr (w.heap.size + 1) [.int .i64 0, .slice none 0 0]) ∧ Below w.heap.size w wr ∧ w4.heap.size ≤ wr.heap.size) (fun _ i _ => ts.length - (intOf i).toNat)
    case atStart => exact ⟨0, _, us, rfl, Nat.zero_le _, rfl, by rw [Hid]; simp [losI]; exact Kind.Own.nil _ _ _, DFr.wide dSub_ok D5.out (Nat.le_refl _) (by omega), by rw [Hid, midS_zero]; exact HU.out, PubA.nil _, A5, R5, hB5, by have := HZ5.out; omega⟩
    case round =>
      obtain ⟨k, l, vs, rfl, hk, rfl, hO, hD, hM, hA, hAb, hRb, hB, hwr⟩ := hrel
      by_cases hlt : k < ts.length
      · have hgd := sub_el HG.out (k := k) (by rw [HLM.out]; exact hlt)
        have HLT := hid (show k < (ts.map valSub).length by rw [HLM.out]; exact hlt)
        have hvl : vs.length = ts.length := by have h := len_ps hM.out; rw [midS_len, HLM.out] at h; exact h
        obtain ⟨g, hg0, hgl, hgh, _, _⟩ := (show hSub.Fresh _ _ _ _ _ _ from D5.out.1).at (show 0 < us.length by have := HUL.out; omega)
        subst hg0
        have hkv : k < vs.length := by omega
        have HKV := hid hkv
        have hue := el_val hkv
        rw [hM.out, midS_el HLT.out] at hue
        obtain ⟨⟨nd, kap, dr, dp, ⟨qo, qc, q⟩⟩, ey⟩ : ∃ x, x = el vs k := ⟨_, rfl⟩
        have HEV := hid ey.symm
        rw [← ey] at hue
        rw [hue] at hgd
        dsimp only [valSub] at hgd
        have HE : Hid (el (ts.map valSub) k = (nd, kap, dr, dp, q)) := hue
        have HGD := hid hgd
        have hfq : kI.Fresh w1.heap.size wr.heap.size wr qo qc q := by have h := hD.out.2.1 k hkv; rw [← ey] at h; exact h
        have HFQ := hid hfq
        have HH0 : Hid (hSub.Fresh w1.heap.size wr.heap.size wr (some ⟨g, 0, none⟩) c vs) := hD.out.1
        have hs := hB.size
        have hq20 : q.length ≤ 20 := by have h1 := hgd.2.1; have h2 := hgd.2.2.1; omega
        have hdpb : 0 ≤ dp ∧ dp ≤ 1000000 := hgd.2.2.2
        have HDP := hid hdpb
        have HQ20 := hid hq20
        have hsw : w.heap.size + 2 ≤ w4.heap.size := by have := HS.out; omega
        clear ey hue hgd hvl hkv hfq hdpb hq20
        have a1 := hAb.out.c 1 rfl
        obtain ⟨⟨c0, c1, c2, c3, c4⟩, _, hgd1, _, hgd2⟩ := head_at HH0.out HKV.out HEV.out
        cases he : fullB (nd, kap, dr, dp, q)
        · have HFB := hid he
          have hne : ((q.length : Int) == kap) = false := by simpa [fullB] using he
          have HSY : Hid (sayP v (nd, kap, dr, dp, q) = (nd, kap, dr, dp, q ++ [v])) := by rw [Hid, sayP, he]; rfl
          clear he
          go_wp2
          go_quiet (fail)
          obtain ⟨wd, hwd⟩ : ∃ V, V = wr.drewN nq := ⟨_, rfl⟩
          rw [← hwd]
          have hbd : Below wr.heap.size wr wd := by rw [hwd]; exact below_draws (Below.refl _ _) _
          have hzd : wd.heap.size = wr.heap.size := by rw [hwd]; rfl
          have HHd := hid (HH0.out.later hbd)
          have KQd : Hid (KeptQ vs wr wd) := (KeptQ.refl vs wr).below hD.out (Nat.le_refl _) hbd
          have Ad := hid (hAb.out.later hbd)
          have Rd := hid (hRb.out.later hbd)
          have Od := hid (hO.out.below hbd)
          have Fd := hid (HFQ.out.later hbd)
          have hBd := hB.trans (hbd.mono hB.size)
          have HZD := hid hzd
          clear hbd hwd c0 c1 c2 c3 c4 a1 hzd hO HFQ
          have a1 := Ad.out.c 1 rfl
          have HKW := HKV
          have HEW := HEV
          have hsX : wr.heap.size ≤ wd.heap.size := Nat.le_of_eq HZD.out.symm
          have hq20 := HQ20.out
          have IQ := hid Fd.out.in
          have hlr : ([] : List Int).length + (q).length ≤ 4194304 := by simp; omega
          have hlr2 : (q).length + 1 ≤ 4194304 := by omega
          have N1 : Hid (kI.Own wd.heap.size (wd.alloc (.cells #[] 3)) (.slice (some ⟨wd.heap.size, 0, none⟩) 0 0) []) := Kind.Own.new kI wd.heap.size wd (Nat.le_refl _)
          have I1 := hid (IQ.out.below (W' := (wd.alloc (.cells #[] 3))) (below1 wd (.cells #[] 3)))
          have hX := (head_at HHd.out HKW.out HEW.out).1
          obtain ⟨e0, e1, e2, e3, e4⟩ := hX
          have aE1 := (Ad.out.alloc (.cells #[] 3)).c 1 rfl
          have hbE : Hid (Below wd.heap.size wd (wd.alloc (.cells #[] 3))) := below1 _ _
          have eE := (hbE.out.cell (p := ⟨g, k * 5 + 4, none⟩) (head_at HHd.out HKW.out HEW.out).2.2.2.2).trans e4
          go_upto_region 19 with (first
            | (at_builtin; have _z := O5; refine Kind.app kI_ok (w5.alloc (.cells #[.int .i64 v] 3)) rfl (.tmp 86) (.tmp 88) rfl wd.heap.size v1 (q) rfl O5.out (by simp; omega) (some ⟨w5.heap.size, 0, none⟩) [v] 1 1 rfl rfl (by simp) _ N5.out hlr2 ?_; intro v3 w7 hO7 hb7 hG7 hn7; have B7 := hid ((B5.out.trans ((below1 w5 (.cells #[.int .i64 v] 3)).mono hs5)).trans hb7); obtain ⟨go, qc7, hv7, _, hF7⟩ := Kind.Own.fresh (xs := q ++ [v]) hO7; subst hv7; have F7 := hid hF7; have H7 := hid (HHd.out.later B7.out); have hd7 := head_at H7.out HKW.out HEW.out; have c7 := hd7.1.2.2.2.2; have f7 := hd7.2.1 4; clear hO7 hb7 hG7 hn7 hF7 hd7 O5 N5)
            | (at_builtin; (fail_if_success (have _g := hs5)); refine Kind.app2 kI_ok (wd.alloc (.cells #[] 3)) rfl (.tmp 81) (.tmp 85) rfl wd.heap.size (.slice (some ⟨wd.heap.size, 0, none⟩) 0 0) [] rfl N1.out (by simp) _ (q) _ _ rfl rfl _ I1.out hlr ?_; intro v1 w5 hO5 hb5 hG5 hn5; have O5 : Hid (kI.Own wd.heap.size (w5.alloc (.cells #[.int .i64 v] 3)) v1 (q)) := Kind.Own.below hO5 (below1 _ _); have hs5 : wd.heap.size ≤ w5.heap.size := (by have := hb5.size; simp at this; omega); have N5 : Hid (kI.In (w5.heap.size + 1) (w5.alloc (.cells #[.int .i64 v] 3)) (some ⟨w5.heap.size, 0, none⟩) [v]) := int_one (by omega) (by simp); have B5 := hid (hbE.out.trans hb5); clear hO5 hb5 hG5 hn5))
          obtain ⟨w8, hw8⟩ : ∃ V, V = w7.setCell ⟨g, k * 5 + 4, none⟩ (.slice go (q ++ [v]).length qc7) := ⟨_, rfl⟩
          have hw8b : w8 = w7.setCell ⟨g, k * 5 + 4, none⟩ (.slice go ((q).length + 1) qc7) := by rw [hw8, List.length_append]; rfl
          have hgd := (head_at HHd.out HKW.out HEW.out).2.2
          have hsv := HS.out
          have hs7 : wd.heap.size ≤ w7.heap.size := B7.out.size
          have HH8 : hSub.Fresh w1.heap.size wr.heap.size w8 (some ⟨g, 0, none⟩) c (vs.set k (nd, kap, dr, dp, (go, qc7, q ++ [v]))) := by
            rw [hw8]
            have h := head_q H7.out HKW.out HEW.out go qc7 (q ++ [v])
            exact h
          have F8 : kI.Fresh wd.heap.size w8.heap.size w8 go qc7 (q ++ [v]) := by rw [hw8]; exact (F7.out.setBelow (a := ⟨g, k * 5 + 4, none⟩) hgd.2.2 _).low (by simp [World.setCell])
          have K8 : KeptQ vs wr w8 := by rw [hw8]; exact (KeptQ.below KQd.out hD.out hsX B7.out).set hD.out _ _
          have hz8 : w8.heap.size = w7.heap.size := by rw [hw8]; simp [World.setCell]
          have hB8s : wr.heap.size ≤ w8.heap.size := by rw [hz8]; exact Nat.le_trans hsX hs7
          have O8 : Hid (kI.Own w4.heap.size w8 l (losI ((ts.map valSub).take k))) := by rw [Hid, hw8]; exact (Od.out.below B7.out).keep fun i h1 _ => Below.heap_setCell _ _ _ _ (by dsimp only; omega)
          have A8 : Hid (Bx w8 w.heap.size [.int .i64 (sd + 1), .slice (some ⟨g, 0, none⟩) ts.length c]) := by rw [Hid, hw8]; exact (Ad.out.later B7.out).other (a := ⟨g, k * 5 + 4, none⟩) (by dsimp only; omega) _
          have R8 : Hid (Bx w8 (w.heap.size + 1) [.int .i64 0, .slice none 0 0]) := by rw [Hid, hw8]; exact (Rd.out.later B7.out).other (a := ⟨g, k * 5 + 4, none⟩) (by dsimp only; omega) _
          have hB8 : Below w.heap.size w w8 := by rw [hw8]; exact (hBd.trans (B7.out.mono hBd.size)).setCell (p := ⟨g, k * 5 + 4, none⟩) (by dsimp only; omega) _
          have D8 : Hid (DFr dSub w1.heap.size w8.heap.size w8 (some ⟨g, 0, none⟩) c (vs.set k (nd, kap, dr, dp, (go, qc7, q ++ [v])))) := DFr.newK (hi := wr.heap.size) hD.out HKV.out HH8 (F8.wide hsX (Nat.le_refl _)) (by omega) (by omega) K8
          have PA8 : Hid (PubA l (vs.set k (nd, kap, dr, dp, (go, qc7, q ++ [v])))) := PubA.put (hi := wd.heap.size) (hi2 := w8.heap.size) (W := wd) (W' := w8) (lo := w4.heap.size) (xs := losI ((ts.map valSub).take k)) hA.out Od.out (Nat.le_refl _) HKV.out F8
          have M8 : Hid ((vs.set k (nd, kap, dr, dp, (go, qc7, q ++ [v]))).map valSub = midS v (ts.map valSub) (k + 1)) := by
            rw [Hid, map_set, hM.out, ← midS_succ HLT.out, HE.out, HSY.out]; rfl
          have HW8 := hid hw8b
          clear hw8 hw8b hz8 hgd HH8 F8 K8 c7 f7 B7 H7 F7 e0 e1 e2 e3 e4 aE1 eE N1 I1 hbE hsv
          rw [← HW8.out]
          have O9 : Hid (kI.Own w4.heap.size w8 l (losI ((ts.map valSub).take (k + 1)))) := by rw [Hid, losI_out HLT.out (by rw [HE.out]; exact HFB.out)]; exact O8.out
          have hs8 : wr.heap.size ≤ w8.heap.size := hB8s
          go_wp2
          go_roundw
          case rel => exact ⟨k + 1, l, _, rfl, by omega, by go_num, O9, D8, M8, PA8, A8, R8, hB8, by omega⟩
          case measure => simp [intOf]; omega
        · have HFB := hid he
          have hqe : (q.length : Int) = kap := by simpa [fullB] using he
          rcases q with _ | ⟨x, r⟩
          · have := HGD.out.1; simp at hqe; omega
          obtain ⟨gq, hgq, hq1, hq2, hq3, _⟩ := HFQ.out.at (by simp)
          subst hgq
          have HFR := HFQ
          have hqe2 : (((r.length : Int) + 1) == kap) = true := by simpa using hqe
          have hcap := HFQ.out.cap
          obtain ⟨ro, hro⟩ : ∃ o, o = (if qc = 1 then some (⟨gq, 0, none⟩ : Addr) else some ⟨gq, 1, none⟩) := ⟨_, rfl⟩
          have HRO := hid hro
          have hcc : (1 : Int) ≤ (r.length : Int) + 1 := by omega
          clear he hqe hro
          rw [List.length_cons] at c4
          go_wp2
          go_quiet (fail)
          obtain ⟨wd, hwd⟩ : ∃ V, V = wr.drewN nq := ⟨_, rfl⟩
          rw [← hwd]
          have hbd : Below wr.heap.size wr wd := by rw [hwd]; exact below_draws (Below.refl _ _) _
          have hzd : wd.heap.size = wr.heap.size := by rw [hwd]; rfl
          have HHd := hid (HH0.out.later hbd)
          have KQd : Hid (KeptQ vs wr wd) := (KeptQ.refl vs wr).below hD.out (Nat.le_refl _) hbd
          have Ad := hid (hAb.out.later hbd)
          have Rd := hid (hRb.out.later hbd)
          have Od := hid (hO.out.below hbd)
          have Fd := hid (HFQ.out.later hbd)
          have hBd := hB.trans (hbd.mono hB.size)
          have HZD := hid hzd
          clear hbd hwd c0 c1 c2 c3 c4 a1 hzd hO HFQ
          have a1 := Ad.out.c 1 rfl
          have hd := head_at HHd.out HKV.out HEV.out
          obtain ⟨⟨c0, c1, c2, c3, c4⟩, ff, _, _, _⟩ := hd
          rw [List.length_cons] at c4
          have f4 := ff 4
          obtain ⟨w5, hw5⟩ : ∃ V, V = wd.setCell ⟨g, k * 5 + 4, none⟩ (.slice ro r.length (qc - 1)) := ⟨_, rfl⟩
          have hsv := HS.out
          have hzd := HZD.out
          have HH5 : Hid (hSub.Fresh w1.heap.size wr.heap.size w5 (some ⟨g, 0, none⟩) c (vs.set k (nd, kap, dr, dp, (ro, qc - 1, r)))) := by rw [Hid, hw5]; exact head_q HHd.out HKV.out HEV.out ro (qc - 1) r
          have KQ5 : Hid (KeptQ vs wr w5) := by rw [Hid, hw5]; exact KQd.out.set hD.out _ _
          have A5b : Hid (Bx w5 w.heap.size [.int .i64 (sd + 1), .slice (some ⟨g, 0, none⟩) ts.length c]) := by rw [Hid, hw5]; exact Ad.out.other (a := ⟨g, k * 5 + 4, none⟩) (by dsimp only; omega) _
          have R5b : Hid (Bx w5 (w.heap.size + 1) [.int .i64 0, .slice none 0 0]) := by rw [Hid, hw5]; exact Rd.out.other (a := ⟨g, k * 5 + 4, none⟩) (by dsimp only; omega) _
          have O5b : Hid (kI.Own w4.heap.size w5 l (losI ((ts.map valSub).take k))) := by rw [Hid, hw5]; exact Od.out.keep fun i h1 _ => Below.heap_setCell _ _ _ _ (by dsimp only; omega)
          have hB5b : Below w.heap.size w w5 := by rw [hw5]; exact hBd.setCell (p := ⟨g, k * 5 + 4, none⟩) (by dsimp only; omega) _
          have hz5b : w5.heap.size = wr.heap.size := by rw [hw5]; simp [World.setCell]; exact hzd
          have HZ5b := hid hz5b
          have HW5b := hid hw5
          have HK6 : Hid (k < (vs.set k (nd, kap, dr, dp, (ro, qc - 1, r))).length) := by rw [Hid, List.length_set]; exact HKV.out
          have HE5 : Hid (el (vs.set k (nd, kap, dr, dp, (ro, qc - 1, r))) k = (nd, kap, dr, dp, (ro, qc - 1, r))) := el_set_same HKV.out
          clear hw5 hz5b HHd KQd Ad Rd Od Fd hBd hsv hzd ff HZD
          go_upto_region 15 with fail
          rw [← HRO.out, ← HW5b.out]
          clear c0 c1 c2 c3 c4 f4 a1
          obtain ⟨⟨c0, c1, c2, c3, c4⟩, ff, _, _, _⟩ := head_at HH5.out HK6.out HE5.out
          by_cases hdp : dp < 1000000
          · have hdpb := HDP.out
            have f3 := ff 3
            have HSY : Hid (sayP v (nd, kap, dr, dp, x :: r) = (nd, kap, dr, dp + 1, r ++ [v])) := by have hn : ¬ (1000000 < dp + 1) := (by omega); rw [Hid, sayP, HFB.out]; simp [hn]
            obtain ⟨w6, hw6⟩ : ∃ V, V = w5.setCell ⟨g, k * 5 + 3, none⟩ (.int .i64 (dp + 1)) := ⟨_, rfl⟩
            have hsv := HS.out
            have hz5 := HZ5b.out
            have HH6 : Hid (hSub.Fresh w1.heap.size wr.heap.size w6 (some ⟨g, 0, none⟩) c (vs.set k (nd, kap, dr, dp + 1, (ro, qc - 1, r)))) := by
              rw [Hid, hw6]
              have h := head_d HH5.out HK6.out HE5.out (dp + 1)
              rw [List.set_set] at h
              exact h
            have KQ6 : Hid (KeptQ vs wr w6) := by rw [Hid, hw6]; exact KQ5.out.set hD.out _ _
            have A6 : Hid (Bx w6 w.heap.size [.int .i64 (sd + 1), .slice (some ⟨g, 0, none⟩) ts.length c]) := by rw [Hid, hw6]; exact A5b.out.other (a := ⟨g, k * 5 + 3, none⟩) (by dsimp only; omega) _
            have R6 : Hid (Bx w6 (w.heap.size + 1) [.int .i64 0, .slice none 0 0]) := by rw [Hid, hw6]; exact R5b.out.other (a := ⟨g, k * 5 + 3, none⟩) (by dsimp only; omega) _
            have O6 : Hid (kI.Own w4.heap.size w6 l (losI ((ts.map valSub).take k))) := by rw [Hid, hw6]; exact O5b.out.keep fun i h1 _ => Below.heap_setCell _ _ _ _ (by dsimp only; omega)
            have hB6 : Below w.heap.size w w6 := by rw [hw6]; exact hB5b.setCell (p := ⟨g, k * 5 + 3, none⟩) (by dsimp only; omega) _
            have hz6 : w6.heap.size = w5.heap.size := by rw [hw6]; simp [World.setCell]
            have hs6 : wr.heap.size ≤ w6.heap.size := by omega
            have HK6 : Hid (k < (vs.set k (nd, kap, dr, dp + 1, (ro, qc - 1, r))).length) := by rw [Hid, List.length_set]; exact HKV.out
            have HE6 : Hid (el (vs.set k (nd, kap, dr, dp + 1, (ro, qc - 1, r))) k = (nd, kap, dr, dp + 1, (ro, qc - 1, r))) := el_set_same HKV.out
            have HW6 := hid hw6
            clear hw6 hz6 hz5 HH5 KQ5 A5b R5b O5b hB5b hsv ff
            go_upto_region 17 with fail
            rw [← HW6.out]
            clear c0 c1 c2 c3 c4 f3 hdp hdpb
            have x0 := (head_at HH6.out HK6.out HE6.out).1.1
            have a61 := A6.out.c 1 rfl
            have hll : (losI ((ts.map valSub).take k)).length + 1 ≤ 4194304 := by have := losI_le ((ts.map valSub).take k); simp at this; omega
            have HN : Hid (kI.In (w6.heap.size + 1) (w6.alloc (.cells #[.int .i64 nd] 3)) (some ⟨w6.heap.size, 0, none⟩) [nd]) := int_one (by omega) (by simp)
            have hb9 : Hid (Below w6.heap.size w6 (w6.alloc (.cells #[.int .i64 nd] 3))) := below1 _ _
            have HSA : Hid ((w6.alloc (.cells #[.int .i64 nd] 3)).heap.size = w6.heap.size + 1) := by simp [Hid]
            have O6a := hid (O6.out.below hb9.out)
            have x0a := (hb9.out.cell (p := ⟨g, k * 5, none⟩) (head_at HH6.out HK6.out HE6.out).2.2.2.2).trans x0
            go_upto_region 18 with (at_builtin; refine Kind.appN kI_ok (w6.alloc (.cells #[.int .i64 nd] 3)) rfl (.tmp 73) (.tmp 78) rfl w4.heap.size l (losI ((ts.map valSub).take k)) rfl O6a.out (by have h7 := HSA.out; omega) (some ⟨w6.heap.size, 0, none⟩) [nd] 1 1 rfl rfl (by simp) _ HN.out hll ?_; intro l2 wX hOA hBA hGA hwA; have HHX : Hid (hSub.Fresh w1.heap.size wr.heap.size wX (some ⟨g, 0, none⟩) c (vs.set k (nd, kap, dr, dp + 1, (ro, qc - 1, r)))) := Kind.Fresh.keepB (HH6.out.later hb9.out) (fun b hb => hGA.block b (Kind.Fresh.lt (HH6.out.later hb9.out) hb).2.2.1 (fun e => by have h5 := (own_in O6a.out e.symm).1; have h6 := hb.2; have h7 : g = b := (by injection h6 with h8; injection h8); omega)); have KQX : Hid (KeptQ vs wr wX) := KeptQ.grown (KeptQ.below KQ6.out hD.out hs6 hb9.out) hD.out (by have h7 := HSA.out; omega) hGA hA.out; have PAX : Hid (PubA l2 vs) := (fun b hb j hj ho => by rcases hwA b hb with h5 | h5; (exact hA.out b h5 j hj ho); have h6 := (dSub_ok.lt (hD.out.2.1 j hj) ho).2.2.1; have h7 := HSA.out; omega); have AX := hid ((A6.out.later hb9.out).keep hGA.size (hGA.block _ (A6.out.later hb9.out).1 (fun e => by have := (own_in O6a.out e.symm).1; omega))); have RX := hid ((R6.out.later hb9.out).keep hGA.size (hGA.block _ (R6.out.later hb9.out).1 (fun e => by have := (own_in O6a.out e.symm).1; omega))); have hBX : Below w.heap.size w wX := (hB6.trans (hb9.out.mono hB6.size)).trans (hBA.mono (by omega)); have hsX : wr.heap.size ≤ wX.heap.size := (by have h5 := hGA.size; have h7 := HSA.out; omega); have FX : Hid (kI.Fresh w1.heap.size wr.heap.size wX (some ⟨gq, 0, none⟩) qc (x :: r)) := Kind.Fresh.keepB HFR.out (fun b hb => KQX.out k HKV.out b (by rw [HEV.out]; exact hb)); have OX : Hid (kI.Own w4.heap.size wX l2 (losI ((ts.map valSub).take (k + 1)))) := (by rw [Hid, losI_in HLT.out (by rw [HE.out]; exact HFB.out), HE.out]; simpa using hOA); clear hOA hBA hGA hwA x0 x0a a61)
            have HKW := HK6
            have HEW := HE6
            have hrl : r.length ≤ 20 := by have := HQ20.out; simp at this; omega
            have IQ : Hid (kI.In wX.heap.size wX ro r) := by rw [Hid, HRO.out]; exact in_tail FX.out.in FX.out.cap
            clear HSA O6 HH6 KQ6 A6 R6 hB6 O6a HN hb9
            have hlr : ([] : List Int).length + (r).length ≤ 4194304 := by simp; omega
            have hlr2 : (r).length + 1 ≤ 4194304 := by omega
            have N1 : Hid (kI.Own wX.heap.size (wX.alloc (.cells #[] 3)) (.slice (some ⟨wX.heap.size, 0, none⟩) 0 0) []) := Kind.Own.new kI wX.heap.size wX (Nat.le_refl _)
            have I1 := hid (IQ.out.below (W' := (wX.alloc (.cells #[] 3))) (below1 wX (.cells #[] 3)))
            have hX := (head_at HHX.out HKW.out HEW.out).1
            obtain ⟨e0, e1, e2, e3, e4⟩ := hX
            have aE1 := (AX.out.alloc (.cells #[] 3)).c 1 rfl
            have hbE : Hid (Below wX.heap.size wX (wX.alloc (.cells #[] 3))) := below1 _ _
            have eE := (hbE.out.cell (p := ⟨g, k * 5 + 4, none⟩) (head_at HHX.out HKW.out HEW.out).2.2.2.2).trans e4
            go_upto_region 19 with (first
              | (at_builtin; have _z := O5; refine Kind.app kI_ok (w5.alloc (.cells #[.int .i64 v] 3)) rfl (.tmp 86) (.tmp 88) rfl wX.heap.size v1 (r) rfl O5.out (by simp; omega) (some ⟨w5.heap.size, 0, none⟩) [v] 1 1 rfl rfl (by simp) _ N5.out hlr2 ?_; intro v3 w7 hO7 hb7 hG7 hn7; have B7 := hid ((B5.out.trans ((below1 w5 (.cells #[.int .i64 v] 3)).mono hs5)).trans hb7); obtain ⟨go, qc7, hv7, _, hF7⟩ := Kind.Own.fresh (xs := r ++ [v]) hO7; subst hv7; have F7 := hid hF7; have H7 := hid (HHX.out.later B7.out); have hd7 := head_at H7.out HKW.out HEW.out; have c7 := hd7.1.2.2.2.2; have f7 := hd7.2.1 4; clear hO7 hb7 hG7 hn7 hF7 hd7 O5 N5)
              | (at_builtin; (fail_if_success (have _g := hs5)); refine Kind.app2 kI_ok (wX.alloc (.cells #[] 3)) rfl (.tmp 81) (.tmp 85) rfl wX.heap.size (.slice (some ⟨wX.heap.size, 0, none⟩) 0 0) [] rfl N1.out (by simp) _ (r) _ _ rfl rfl _ I1.out hlr ?_; intro v1 w5 hO5 hb5 hG5 hn5; have O5 : Hid (kI.Own wX.heap.size (w5.alloc (.cells #[.int .i64 v] 3)) v1 (r)) := Kind.Own.below hO5 (below1 _ _); have hs5 : wX.heap.size ≤ w5.heap.size := (by have := hb5.size; simp at this; omega); have N5 : Hid (kI.In (w5.heap.size + 1) (w5.alloc (.cells #[.int .i64 v] 3)) (some ⟨w5.heap.size, 0, none⟩) [v]) := int_one (by omega) (by simp); have B5 := hid (hbE.out.trans hb5); clear hO5 hb5 hG5 hn5))
            obtain ⟨w8, hw8⟩ : ∃ V, V = w7.setCell ⟨g, k * 5 + 4, none⟩ (.slice go (r ++ [v]).length qc7) := ⟨_, rfl⟩
            have hw8b : w8 = w7.setCell ⟨g, k * 5 + 4, none⟩ (.slice go ((r).length + 1) qc7) := by rw [hw8, List.length_append]; rfl
            have hgd := (head_at HHX.out HKW.out HEW.out).2.2
            have hsv := HS.out
            have hs7 : wX.heap.size ≤ w7.heap.size := B7.out.size
            have HH8 : hSub.Fresh w1.heap.size wr.heap.size w8 (some ⟨g, 0, none⟩) c (vs.set k (nd, kap, dr, dp + 1, (go, qc7, r ++ [v]))) := by
              rw [hw8]
              have h := head_q H7.out HKW.out HEW.out go qc7 (r ++ [v])
              rw [List.set_set] at h; exact h
            have F8 : kI.Fresh wX.heap.size w8.heap.size w8 go qc7 (r ++ [v]) := by rw [hw8]; exact (F7.out.setBelow (a := ⟨g, k * 5 + 4, none⟩) hgd.2.2 _).low (by simp [World.setCell])
            have K8 : KeptQ vs wr w8 := by rw [hw8]; exact (KeptQ.below KQX.out hD.out hsX B7.out).set hD.out _ _
            have hz8 : w8.heap.size = w7.heap.size := by rw [hw8]; simp [World.setCell]
            have hB8s : wr.heap.size ≤ w8.heap.size := by rw [hz8]; exact Nat.le_trans hsX hs7
            have O8 : Hid (kI.Own w4.heap.size w8 l2 (losI ((ts.map valSub).take (k + 1)))) := by rw [Hid, hw8]; exact (OX.out.below B7.out).keep fun i h1 _ => Below.heap_setCell _ _ _ _ (by dsimp only; omega)
            have A8 : Hid (Bx w8 w.heap.size [.int .i64 (sd + 1), .slice (some ⟨g, 0, none⟩) ts.length c]) := by rw [Hid, hw8]; exact (AX.out.later B7.out).other (a := ⟨g, k * 5 + 4, none⟩) (by dsimp only; omega) _
            have R8 : Hid (Bx w8 (w.heap.size + 1) [.int .i64 0, .slice none 0 0]) := by rw [Hid, hw8]; exact (RX.out.later B7.out).other (a := ⟨g, k * 5 + 4, none⟩) (by dsimp only; omega) _
            have hB8 : Below w.heap.size w w8 := by rw [hw8]; exact (hBX.trans (B7.out.mono hBX.size)).setCell (p := ⟨g, k * 5 + 4, none⟩) (by dsimp only; omega) _
            have D8 : Hid (DFr dSub w1.heap.size w8.heap.size w8 (some ⟨g, 0, none⟩) c (vs.set k (nd, kap, dr, dp + 1, (go, qc7, r ++ [v])))) := DFr.newK (hi := wr.heap.size) hD.out HKV.out HH8 (F8.wide hsX (Nat.le_refl _)) (by omega) (by omega) K8
            have PA8 : Hid (PubA l2 (vs.set k (nd, kap, dr, dp + 1, (go, qc7, r ++ [v])))) := PubA.put (hi := wX.heap.size) (hi2 := w8.heap.size) (W := wX) (W' := w8) (lo := w4.heap.size) (xs := losI ((ts.map valSub).take (k + 1))) PAX.out OX.out (Nat.le_refl _) HKV.out F8
            have M8 : Hid ((vs.set k (nd, kap, dr, dp + 1, (go, qc7, r ++ [v]))).map valSub = midS v (ts.map valSub) (k + 1)) := by
              rw [Hid, map_set, hM.out, ← midS_succ HLT.out, HE.out, HSY.out]; rfl
            have HW8 := hid hw8b
            clear hw8 hw8b hz8 hgd HH8 F8 K8 c7 f7 B7 H7 F7 e0 e1 e2 e3 e4 aE1 eE N1 I1 hbE hsv
            rw [← HW8.out]
            have hs8 : wr.heap.size ≤ w8.heap.size := hB8s
            go_wp2
            go_roundw
            case rel => exact ⟨k + 1, l2, _, rfl, by omega, by go_num, O8, D8, M8, PA8, A8, R8, hB8, by omega⟩
            case measure => simp [intOf]; omega
          · have hdpb := HDP.out
            have HSY : Hid (sayP v (nd, kap, dr, dp, x :: r) = (nd, kap, dr, dp, r ++ [v])) := by
              have e : dp = 1000000 := by omega
              subst e
              rw [Hid, sayP, HFB.out]; simp
            go_upto_region 17 with fail
            clear c0 c1 c2 c3 c4 hdp hdpb ff
            obtain ⟨w6, hw6⟩ : ∃ V, V = w5 := ⟨_, rfl⟩
            have HE6 := HE5
            have hs6 : wr.heap.size ≤ w6.heap.size := by rw [hw6]; exact Nat.le_of_eq HZ5b.out.symm
            rw [← hw6] at HH5 KQ5 A5b R5b O5b hB5b ⊢
            clear hw6
            have HH6 := HH5
            have KQ6 := KQ5
            have A6 := A5b
            have R6 := R5b
            have O6 := O5b
            have hB6 := hB5b
            have x0 := (head_at HH6.out HK6.out HE6.out).1.1
            have a61 := A6.out.c 1 rfl
            have hll : (losI ((ts.map valSub).take k)).length + 1 ≤ 4194304 := by have := losI_le ((ts.map valSub).take k); simp at this; omega
            have HN : Hid (kI.In (w6.heap.size + 1) (w6.alloc (.cells #[.int .i64 nd] 3)) (some ⟨w6.heap.size, 0, none⟩) [nd]) := int_one (by omega) (by simp)
            have hb9 : Hid (Below w6.heap.size w6 (w6.alloc (.cells #[.int .i64 nd] 3))) := below1 _ _
            have HSA : Hid ((w6.alloc (.cells #[.int .i64 nd] 3)).heap.size = w6.heap.size + 1) := by simp [Hid]
            have O6a := hid (O6.out.below hb9.out)
            have x0a := (hb9.out.cell (p := ⟨g, k * 5, none⟩) (head_at HH6.out HK6.out HE6.out).2.2.2.2).trans x0
            go_upto_region 18 with (at_builtin; refine Kind.appN kI_ok (w6.alloc (.cells #[.int .i64 nd] 3)) rfl (.tmp 73) (.tmp 78) rfl w4.heap.size l (losI ((ts.map valSub).take k)) rfl O6a.out (by have h7 := HSA.out; omega) (some ⟨w6.heap.size, 0, none⟩) [nd] 1 1 rfl rfl (by simp) _ HN.out hll ?_; intro l2 wX hOA hBA hGA hwA; have HHX : Hid (hSub.Fresh w1.heap.size wr.heap.size wX (some ⟨g, 0, none⟩) c (vs.set k (nd, kap, dr, dp, (ro, qc - 1, r)))) := Kind.Fresh.keepB (HH6.out.later hb9.out) (fun b hb => hGA.block b (Kind.Fresh.lt (HH6.out.later hb9.out) hb).2.2.1 (fun e => by have h5 := (own_in O6a.out e.symm).1; have h6 := hb.2; have h7 : g = b := (by injection h6 with h8; injection h8); omega)); have KQX : Hid (KeptQ vs wr wX) := KeptQ.grown (KeptQ.below KQ6.out hD.out hs6 hb9.out) hD.out (by have h7 := HSA.out; omega) hGA hA.out; have PAX : Hid (PubA l2 vs) := (fun b hb j hj ho => by rcases hwA b hb with h5 | h5; (exact hA.out b h5 j hj ho); have h6 := (dSub_ok.lt (hD.out.2.1 j hj) ho).2.2.1; have h7 := HSA.out; omega); have AX := hid ((A6.out.later hb9.out).keep hGA.size (hGA.block _ (A6.out.later hb9.out).1 (fun e => by have := (own_in O6a.out e.symm).1; omega))); have RX := hid ((R6.out.later hb9.out).keep hGA.size (hGA.block _ (R6.out.later hb9.out).1 (fun e => by have := (own_in O6a.out e.symm).1; omega))); have hBX : Below w.heap.size w wX := (hB6.trans (hb9.out.mono hB6.size)).trans (hBA.mono (by omega)); have hsX : wr.heap.size ≤ wX.heap.size := (by have h5 := hGA.size; have h7 := HSA.out; omega); have FX : Hid (kI.Fresh w1.heap.size wr.heap.size wX (some ⟨gq, 0, none⟩) qc (x :: r)) := Kind.Fresh.keepB HFR.out (fun b hb => KQX.out k HKV.out b (by rw [HEV.out]; exact hb)); have OX : Hid (kI.Own w4.heap.size wX l2 (losI ((ts.map valSub).take (k + 1)))) := (by rw [Hid, losI_in HLT.out (by rw [HE.out]; exact HFB.out), HE.out]; simpa using hOA); clear hOA hBA hGA hwA x0 x0a a61)
            have HKW := HK6
            have HEW := HE6
            have hrl : r.length ≤ 20 := by have := HQ20.out; simp at this; omega
            have IQ : Hid (kI.In wX.heap.size wX ro r) := by rw [Hid, HRO.out]; exact in_tail FX.out.in FX.out.cap
            clear HSA O6 HH6 KQ6 A6 R6 hB6 O6a HN hb9
            have hlr : ([] : List Int).length + (r).length ≤ 4194304 := by simp; omega
            have hlr2 : (r).length + 1 ≤ 4194304 := by omega
            have N1 : Hid (kI.Own wX.heap.size (wX.alloc (.cells #[] 3)) (.slice (some ⟨wX.heap.size, 0, none⟩) 0 0) []) := Kind.Own.new kI wX.heap.size wX (Nat.le_refl _)
            have I1 := hid (IQ.out.below (W' := (wX.alloc (.cells #[] 3))) (below1 wX (.cells #[] 3)))
            have hX := (head_at HHX.out HKW.out HEW.out).1
            obtain ⟨e0, e1, e2, e3, e4⟩ := hX
            have aE1 := (AX.out.alloc (.cells #[] 3)).c 1 rfl
            have hbE : Hid (Below wX.heap.size wX (wX.alloc (.cells #[] 3))) := below1 _ _
            have eE := (hbE.out.cell (p := ⟨g, k * 5 + 4, none⟩) (head_at HHX.out HKW.out HEW.out).2.2.2.2).trans e4
            go_upto_region 19 with (first
              | (at_builtin; have _z := O5; refine Kind.app kI_ok (w5.alloc (.cells #[.int .i64 v] 3)) rfl (.tmp 86) (.tmp 88) rfl wX.heap.size v1 (r) rfl O5.out (by simp; omega) (some ⟨w5.heap.size, 0, none⟩) [v] 1 1 rfl rfl (by simp) _ N5.out hlr2 ?_; intro v3 w7 hO7 hb7 hG7 hn7; have B7 := hid ((B5.out.trans ((below1 w5 (.cells #[.int .i64 v] 3)).mono hs5)).trans hb7); obtain ⟨go, qc7, hv7, _, hF7⟩ := Kind.Own.fresh (xs := r ++ [v]) hO7; subst hv7; have F7 := hid hF7; have H7 := hid (HHX.out.later B7.out); have hd7 := head_at H7.out HKW.out HEW.out; have c7 := hd7.1.2.2.2.2; have f7 := hd7.2.1 4; clear hO7 hb7 hG7 hn7 hF7 hd7 O5 N5)
              | (at_builtin; (fail_if_success (have _g := hs5)); refine Kind.app2 kI_ok (wX.alloc (.cells #[] 3)) rfl (.tmp 81) (.tmp 85) rfl wX.heap.size (.slice (some ⟨wX.heap.size, 0, none⟩) 0 0) [] rfl N1.out (by simp) _ (r) _ _ rfl rfl _ I1.out hlr ?_; intro v1 w5 hO5 hb5 hG5 hn5; have O5 : Hid (kI.Own wX.heap.size (w5.alloc (.cells #[.int .i64 v] 3)) v1 (r)) := Kind.Own.below hO5 (below1 _ _); have hs5 : wX.heap.size ≤ w5.heap.size := (by have := hb5.size; simp at this; omega); have N5 : Hid (kI.In (w5.heap.size + 1) (w5.alloc (.cells #[.int .i64 v] 3)) (some ⟨w5.heap.size, 0, none⟩) [v]) := int_one (by omega) (by simp); have B5 := hid (hbE.out.trans hb5); clear hO5 hb5 hG5 hn5))
            obtain ⟨w8, hw8⟩ : ∃ V, V = w7.setCell ⟨g, k * 5 + 4, none⟩ (.slice go (r ++ [v]).length qc7) := ⟨_, rfl⟩
            have hw8b : w8 = w7.setCell ⟨g, k * 5 + 4, none⟩ (.slice go ((r).length + 1) qc7) := by rw [hw8, List.length_append]; rfl
            have hgd := (head_at HHX.out HKW.out HEW.out).2.2
            have hsv := HS.out
            have hs7 : wX.heap.size ≤ w7.heap.size := B7.out.size
            have HH8 : hSub.Fresh w1.heap.size wr.heap.size w8 (some ⟨g, 0, none⟩) c (vs.set k (nd, kap, dr, dp, (go, qc7, r ++ [v]))) := by
              rw [hw8]
              have h := head_q H7.out HKW.out HEW.out go qc7 (r ++ [v])
              rw [List.set_set] at h; exact h
            have F8 : kI.Fresh wX.heap.size w8.heap.size w8 go qc7 (r ++ [v]) := by rw [hw8]; exact (F7.out.setBelow (a := ⟨g, k * 5 + 4, none⟩) hgd.2.2 _).low (by simp [World.setCell])
            have K8 : KeptQ vs wr w8 := by rw [hw8]; exact (KeptQ.below KQX.out hD.out hsX B7.out).set hD.out _ _
            have hz8 : w8.heap.size = w7.heap.size := by rw [hw8]; simp [World.setCell]
            have hB8s : wr.heap.size ≤ w8.heap.size := by rw [hz8]; exact Nat.le_trans hsX hs7
            have O8 : Hid (kI.Own w4.heap.size w8 l2 (losI ((ts.map valSub).take (k + 1)))) := by rw [Hid, hw8]; exact (OX.out.below B7.out).keep fun i h1 _ => Below.heap_setCell _ _ _ _ (by dsimp only; omega)
            have A8 : Hid (Bx w8 w.heap.size [.int .i64 (sd + 1), .slice (some ⟨g, 0, none⟩) ts.length c]) := by rw [Hid, hw8]; exact (AX.out.later B7.out).other (a := ⟨g, k * 5 + 4, none⟩) (by dsimp only; omega) _
            have R8 : Hid (Bx w8 (w.heap.size + 1) [.int .i64 0, .slice none 0 0]) := by rw [Hid, hw8]; exact (RX.out.later B7.out).other (a := ⟨g, k * 5 + 4, none⟩) (by dsimp only; omega) _
            have hB8 : Below w.heap.size w w8 := by rw [hw8]; exact (hBX.trans (B7.out.mono hBX.size)).setCell (p := ⟨g, k * 5 + 4, none⟩) (by dsimp only; omega) _
            have D8 : Hid (DFr dSub w1.heap.size w8.heap.size w8 (some ⟨g, 0, none⟩) c (vs.set k (nd, kap, dr, dp, (go, qc7, r ++ [v])))) := DFr.newK (hi := wr.heap.size) hD.out HKV.out HH8 (F8.wide hsX (Nat.le_refl _)) (by omega) (by omega) K8
            have PA8 : Hid (PubA l2 (vs.set k (nd, kap, dr, dp, (go, qc7, r ++ [v])))) := PubA.put (hi := wX.heap.size) (hi2 := w8.heap.size) (W := wX) (W' := w8) (lo := w4.heap.size) (xs := losI ((ts.map valSub).take (k + 1))) PAX.out OX.out (Nat.le_refl _) HKV.out F8
            have M8 : Hid ((vs.set k (nd, kap, dr, dp, (go, qc7, r ++ [v]))).map valSub = midS v (ts.map valSub) (k + 1)) := by
              rw [Hid, map_set, hM.out, ← midS_succ HLT.out, HE.out, HSY.out]; rfl
            have HW8 := hid hw8b
            clear hw8 hw8b hz8 hgd HH8 F8 K8 c7 f7 B7 H7 F7 e0 e1 e2 e3 e4 aE1 eE N1 I1 hbE hsv
            rw [← HW8.out]
            have hs8 : wr.heap.size ≤ w8.heap.size := hB8s
            go_wp2
            go_roundw
            case rel => exact ⟨k + 1, l2, _, rfl, by omega, by go_num, O8, D8, M8, PA8, A8, R8, hB8, by omega⟩
            case measure => simp [intOf]; omega
      · obtain rfl : k = ts.length := by omega
        have hM2 : Hid (vs.map valSub = (ts.map valSub).map (sayP v)) := by
          have h := hM.out
          rw [show ts.length = (ts.map valSub).length by rw [HLM.out], midS_end] at h
          exact h
        have hO2 : Hid (kI.Own w4.heap.size wr l (losI (ts.map valSub))) := by
          have h := hO.out
          rw [List.take_of_length_le (by rw [HLM.out]; exact Nat.le_refl _)] at h
          exact h
        obtain ⟨lo1, lc1, hl1, _, hF⟩ := hO2.out.fresh
        have hAP : Hid (PubA l vs) := hA
        subst hl1
        have F9 := hid hF
        clear hF hO hO2 hA hM
        have p0 := hAb.out.c 0 rfl
        have p1 := hAb.out.c 1 rfl
        have r0 := hRb.out.c 0 rfl
        have rf0 := hRb.out.f 0 rfl
        have r1 := hRb.out.c 1 rfl
        have rf1 := hRb.out.f 1 rfl
        have rz := hRb.out.size
        go_wp2
        refine bodyPost_ret (v := .tuple #[.agg #[.int .i64 (sd + 1), .slice o ts.length c], .slice lo1 (losI (ts.map valSub)).length lc1, .int .i64 0]) (by simp [results, Try.results6, go_sem, r0, r1]) rfl ?_
        rw [HR.out]
        have hsv := HS.out
        have hK : ∀ (Y : World) (i : Nat), w.heap.size + 1 < i → ((Y.setCell ⟨w.heap.size + 1, 0, none⟩ (.int .i64 (sd + 1))).setCell ⟨w.heap.size + 1, 1, none⟩ (.slice o ts.length c)).heap[i]? = Y.heap[i]? := fun Y i h => by rw [Below.heap_setCell _ _ _ _ (by dsimp only; omega), Below.heap_setCell _ _ _ _ (by dsimp only; omega)]
        refine ⟨⟨o, c, vs, lo1, lc1, by rw [List.length_map, HLM.out], hM2.out, ?_, ?_, hAP.out.apart⟩, (hB.setCell (p := ⟨w.heap.size + 1, 0, none⟩) (by dsimp only; omega) _).setCell (p := ⟨w.heap.size + 1, 1, none⟩) (by dsimp only; omega) _⟩
        · exact DFr.wide dSub_ok (DFr.keep dSub_ok hD.out fun q h1 _ _ => hK _ _ (by omega)) (by omega) (by simp [World.setCell])
        · exact Kind.Fresh.wide (Kind.Fresh.keep F9.out fun q h1 _ _ => hK _ _ (by omega)) (by omega) (by simp [World.setCell])
  · have HR : Hid (pubR sd (ts.map valSub) v = (sd, (ts.map valSub), waitI (ts.map valSub), 3)) := by rw [Hid, pubR, HG.out, if_neg hsm, if_neg hw0]; rfl
    have hw1 : 0 < (waitI (ts.map valSub)).length := by omega
    clear hw0
    go_enter Try.func6, Try.ntmps6
    go_wp2_with fail
    rw [← HV.out]
    refine (specGood_is sd ao cap ts V true hl HF.out (HZ.out.later dSub_ok hB0) HG.out).mono ?_
    rintro e w1 ⟨rfl, hb1⟩
    have hB1 := hB0.trans (hb1.mono hB0.size)
    have hV1 := hb1.size
    have A1 := hid (A0.out.later hb1)
    have R1 := hid (R0.out.later hb1)
    have a0 := A1.out.c 0 rfl
    have a1 := A1.out.c 1 rfl
    have r0 := R1.out.c 0 rfl
    have rf0 := R1.out.f 0 rfl
    have r1 := R1.out.c 1 rfl
    have rf1 := R1.out.f 1 rfl
    clear hb1 A0 R0
    go_wp2_with fail
    refine (l9Own_any sd ao cap ts w1 hl HF.out (HZ.out.later dSub_ok hB1)).mono ?_
    rintro e w2 ⟨⟨o, c, us, rfl, hv2, hD2⟩, hb2⟩
    rw [List.length_map]
    have HU := hid hv2
    have hul := len_val hv2
    have HUL := hid hul
    have A2 := hid (A1.out.later hb2)
    have R2 := hid (R1.out.later hb2)
    have hB2 := hB1.trans (hb2.mono hB1.size)
    have hV2 := Nat.le_trans hV1 hb2.size
    have hs12 : w1.heap.size ≤ w2.heap.size := hb2.size
    obtain ⟨w3, hw3⟩ : ∃ V, V = (w2.setCell ⟨w.heap.size, 0, none⟩ (.int .i64 sd)).setCell ⟨w.heap.size, 1, none⟩ (.slice o ts.length c) := ⟨_, rfl⟩
    have A3 : Hid (Bx w3 w.heap.size [.int .i64 sd, .slice o ts.length c]) := by rw [Hid, hw3]; exact (A2.out.set 0 _).set 1 _
    have R3 : Hid (Bx w3 (w.heap.size + 1) [.int .i64 0, .slice none 0 0]) := by rw [Hid, hw3]; exact (R2.out.other (a := ⟨w.heap.size, 0, none⟩) (by dsimp only; omega) _).other (a := ⟨w.heap.size, 1, none⟩) (by dsimp only; omega) _
    have D3 : Hid (DFr dSub w1.heap.size w2.heap.size w3 o c us) := by rw [Hid, hw3]; exact hD2.keep dSub_ok fun q h1 _ _ => by rw [Below.heap_setCell _ _ _ _ (by dsimp only; have := HS.out; omega), Below.heap_setCell _ _ _ _ (by dsimp only; have := HS.out; omega)]
    have hB3 : Below w.heap.size w w3 := by rw [hw3]; exact (hB2.setCell (p := ⟨w.heap.size, 0, none⟩) (by dsimp only; omega) _).setCell (p := ⟨w.heap.size, 1, none⟩) (by dsimp only; omega) _
    have hz3 : w3.heap.size = w2.heap.size := by rw [hw3]; simp [World.setCell]
    have HZ3 := hid hz3
    have HAt := hid (l9Waiting_any sd o c us w3 (by rw [hul]; exact hl) (D3.out.in dSub_ok).1)
    rw [hul, hv2] at HAt
    have b0 := A2.out.c 0 rfl
    have bf0 := A2.out.f 0 rfl
    have b1 := A2.out.c 1 rfl
    have bf1 := A2.out.f 1 rfl
    have HW3 := hid hw3
    clear A1 R1 a0 a1 r0 rf0 r1 rf1 hv2 hD2 hul hb2 hB1 hw3 A2 R2 hB2 hz3
    go_wp2_with fail
    rw [← HW3.out]
    clear b0 bf0 b1 bf1
    refine HAt.out.mono ?_
    rintro e w4 ⟨⟨wo, wc, rfl, hF4⟩, hb4⟩
    have F4 := hid hF4
    have hs34 := hb4.size
    have A4 := hid (A3.out.later hb4)
    have R4 := hid (R3.out.later hb4)
    have D4 := hid (D3.out.later dSub_ok hb4)
    have hB4 := hB3.trans (hb4.mono hB3.size)
    have hs4 : w2.heap.size ≤ w4.heap.size := by rw [← HZ3.out]; exact hb4.size
    clear hb4 hF4 A3 R3 D3 hB3 HAt
    have hs23 := HZ3.out
    have p0 := A4.out.c 0 rfl
    have p1 := A4.out.c 1 rfl
    have r0 := R4.out.c 0 rfl
    have rf0 := R4.out.f 0 rfl
    have r1 := R4.out.c 1 rfl
    have rf1 := R4.out.f 1 rfl
    have rz := R4.out.size
    have AP := apart_new D4.out F4.out (by omega)
    go_wp2
    refine bodyPost_ret (v := .tuple #[.agg #[.int .i64 sd, .slice o ts.length c], .slice wo (waitI (ts.map valSub)).length wc, .int .i64 3]) (by simp [results, Try.results6, go_sem, r0, r1]) rfl ?_
    rw [HR.out]
    have hsv := HS.out
    have hK : ∀ (Y : World) (i : Nat), w.heap.size + 1 < i → ((Y.setCell ⟨w.heap.size + 1, 0, none⟩ (.int .i64 sd)).setCell ⟨w.heap.size + 1, 1, none⟩ (.slice o ts.length c)).heap[i]? = Y.heap[i]? := fun Y i h => by rw [Below.heap_setCell _ _ _ _ (by dsimp only; omega), Below.heap_setCell _ _ _ _ (by dsimp only; omega)]
    refine ⟨⟨o, c, us, wo, wc, by rw [HLM.out], HU.out, ?_, ?_, AP⟩, (hB4.setCell (p := ⟨w.heap.size + 1, 0, none⟩) (by dsimp only; omega) _).setCell (p := ⟨w.heap.size + 1, 1, none⟩) (by dsimp only; omega) _⟩
    · exact DFr.wide dSub_ok (DFr.keep dSub_ok D4.out fun q h1 _ _ => hK _ _ (by omega)) (by omega) (by simp [World.setCell]; omega)
    · exact Kind.Fresh.wide (Kind.Fresh.keep F4.out fun q h1 _ _ => hK _ _ (by omega)) (by omega) (by simp [World.setCell])
end Go.Proofs.Ytimkadnnhfllnaa
