
/- Publish: the program. No conditions but those written. -/
import Derived.Test.YtimkadnnhfllnaaYb
import Derived.Deep.Cut
namespace Go.Proofs.Ytimkadnnhfllnaa
open Go.RowKit

set_option maxRecDepth 10000 in
set_option maxHeartbeats 16000000 in
theorem implPubl_any (sd : Int) (ao : Option Addr) (cap : Nat) (ts : List LSub) (v : Int) (w : World) (hl : ts.length ≤ 1048576) (hf : Fits ts) (hz : DIn dSub w.heap.size w ao ts) :
    Calls Try.prog 5 #[.agg #[.int .i64 sd, .slice ao ts.length cap], .int .i64 v] w fun e w' => AnsU w (pubR sd (ts.map valSub) v) e w' := by
  have HZ := hid hz
  have HF := hid hf
  clear hz hf
  obtain ⟨V, hV⟩ : ∃ V, V = (w.alloc (.cells #[.int .i64 sd, .slice ao ts.length cap] 25)).alloc (.cells #[.int .i64 0, .slice none 0 0] 25) := ⟨_, rfl⟩
  have hB0 : Below w.heap.size w V := by rw [hV]; exact below2 _ _ _
  have A0 : Hid (Bx V w.heap.size [.int .i64 sd, .slice ao ts.length cap]) := by rw [hV]; exact (Bx.new [.int .i64 sd, .slice ao ts.length cap] _ rfl).alloc _
  have R0 : Hid (Bx V (w.heap.size + 1) [.int .i64 0, .slice none 0 0]) := by rw [hV]; exact Bx.new [.int .i64 0, .slice none 0 0] _ (by simp)
  have HS : Hid (V.heap.size = w.heap.size + 1 + 1) := by rw [hV]; simp [Hid]
  have HV := hid hV
  have hlm : (ts.map valSub).length = ts.length := by simp
  have HLM := hid hlm
  clear hV hlm
  cases hg : topicB sd (ts.map valSub)
  · have HG := hid hg
    have HR : Hid (pubR sd (ts.map valSub) v = (0, [], [], 1)) := by rw [Hid, pubR, hg]; rfl
    clear hg
    go_enter Try.func5, Try.ntmps5
    go_wp2_with fail
    rw [← HV.out]
    refine (implGood_is sd ao cap ts V false hl HF.out (HZ.out.later dSub_ok hB0) HG.out).mono ?_
    rintro e w1 ⟨rfl, hb1⟩
    have hB1 := hB0.trans (hb1.mono hB0.size)
    have hV1 := hb1.size
    have A1 := hid (A0.out.later hb1)
    have R1 := hid (R0.out.later hb1)
    have a0 := A1.out.c 0 rfl
    have a1 := A1.out.c 1 rfl
    have r0 := R1.out.c 0 rfl
    have rf0 := R1.out.f 0 rfl
    have r1 := R1.out.c 1 rfl
    have rf1 := R1.out.f 1 rfl
    clear hb1 A0 R0
    have rz := R1.out.size
    go_wp2
    refine bodyPost_ret (v := .tuple #[.agg #[.int .i64 0, .slice none 0 0], .slice none 0 0, .int .i64 1]) (by simp [results, Try.results5, go_sem, r0, r1]) rfl ?_
    rw [HR.out]
    exact ⟨⟨none, 0, [], none, 0, rfl, rfl, DFr.nil _ _ _ _ _, .inl rfl, apart_nil _ _⟩, (hB1.setCell (p := ⟨w.heap.size + 1, 0, none⟩) (by dsimp only; omega) _).setCell (p := ⟨w.heap.size + 1, 1, none⟩) (by dsimp only; omega) _⟩
  have HG := hid hg
  clear hg
  by_cases hsm : sd = 1000000
  · have HR : Hid (pubR sd (ts.map valSub) v = (0, [], [], 1)) := by rw [Hid, pubR, HG.out, if_pos hsm]; rfl
    have HSM := hid hsm
    clear hsm
    go_enter Try.func5, Try.ntmps5
    go_wp2_with fail
    rw [← HV.out]
    refine (implGood_is sd ao cap ts V true hl HF.out (HZ.out.later dSub_ok hB0) HG.out).mono ?_
    rintro e w1 ⟨rfl, hb1⟩
    have hB1 := hB0.trans (hb1.mono hB0.size)
    have hV1 := hb1.size
    have A1 := hid (A0.out.later hb1)
    have R1 := hid (R0.out.later hb1)
    have a0 := A1.out.c 0 rfl
    have a1 := A1.out.c 1 rfl
    have r0 := R1.out.c 0 rfl
    have rf0 := R1.out.f 0 rfl
    have r1 := R1.out.c 1 rfl
    have rf1 := R1.out.f 1 rfl
    clear hb1 A0 R0
    have rz := R1.out.size
    have hsm := HSM.out
    go_wp2
    refine bodyPost_ret (v := .tuple #[.agg #[.int .i64 0, .slice none 0 0], .slice none 0 0, .int .i64 1]) (by simp [results, Try.results5, go_sem, r0, r1]) rfl ?_
    rw [HR.out]
    exact ⟨⟨none, 0, [], none, 0, rfl, rfl, DFr.nil _ _ _ _ _, .inl rfl, apart_nil _ _⟩, (hB1.setCell (p := ⟨w.heap.size + 1, 0, none⟩) (by dsimp only; omega) _).setCell (p := ⟨w.heap.size + 1, 1, none⟩) (by dsimp only; omega) _⟩
  by_cases hw0 : (waitI (ts.map valSub)).length = 0
  · have HR : Hid (pubR sd (ts.map valSub) v = (sd + 1, (ts.map valSub).map (sayP v), losI (ts.map valSub), 0)) := by rw [Hid, pubR, HG.out, if_neg hsm, if_pos hw0]; rfl
    have HW0 := hid hw0
    clear hw0
    go_enter Try.func5, Try.ntmps5
    go_wp2_with fail
    rw [← HV.out]
    refine (implGood_is sd ao cap ts V true hl HF.out (HZ.out.later dSub_ok hB0) HG.out).mono ?_
    rintro e w1 ⟨rfl, hb1⟩
    have hB1 := hB0.trans (hb1.mono hB0.size)
    have hV1 := hb1.size
    have A1 := hid (A0.out.later hb1)
    have R1 := hid (R0.out.later hb1)
    have a0 := A1.out.c 0 rfl
    have a1 := A1.out.c 1 rfl
    have r0 := R1.out.c 0 rfl
    have rf0 := R1.out.f 0 rfl
    have r1 := R1.out.c 1 rfl
    have rf1 := R1.out.f 1 rfl
    clear hb1 A0 R0
    go_wp2_with fail
    refine (copyTopic_any sd ao cap ts w1 hl HF.out (HZ.out.later dSub_ok hB1)).mono ?_
    rintro e w2 ⟨⟨to1, us, rfl, hv2, hD2⟩, hb2⟩
    rw [List.length_map] at hD2 ⊢
    have HU := hid hv2
    have hul := len_val hv2
    have HUL := hid hul
    have D2 := hid hD2
    have A2 := hid (A1.out.later hb2)
    have R2 := hid (R1.out.later hb2)
    have hB2 := hB1.trans (hb2.mono hB1.size)
    have hV2 := Nat.le_trans hV1 hb2.size
    have hs12 : w1.heap.size ≤ w2.heap.size := hb2.size
    clear A1 R1 a0 a1 r0 rf0 r1 rf1 hv2 hD2 hul hb2 hB1
    obtain ⟨w3, hw3⟩ : ∃ V, V = w2.alloc (.cells #[.int .i64 sd, .slice to1 ts.length ts.length] 25) := ⟨_, rfl⟩
    have hb3 : Below w2.heap.size w2 w3 := by rw [hw3]; exact below1 _ _
    have P3 : Hid (Bx w3 w2.heap.size [.int .i64 sd, .slice to1 ts.length ts.length]) := by rw [hw3]; exact Bx.new [.int .i64 sd, .slice to1 ts.length ts.length] _ rfl
    have A3 := hid (A2.out.later hb3)
    have R3 := hid (R2.out.later hb3)
    have D3 := hid (D2.out.later dSub_ok hb3)
    have hB3 := hB2.trans (hb3.mono hB2.size)
    have hs3 : w2.heap.size < w3.heap.size := P3.out.size
    have pa0 := A2.out.c 0 rfl
    have pa1 := A2.out.c 1 rfl
    have paz := A2.out.size
    have HW3 := hid hw3
    clear hw3 hb3 A2 R2 D2 hB2
    go_wp2_with fail
    rw [← HW3.out]
    clear pa0 pa1 paz
    refine (waitingIds_any ao cap ts w3 hl (HZ.out.later dSub_ok hB3).1).mono ?_
    rintro e w4 ⟨⟨wo, wc, rfl, hF4⟩, hb4⟩
    have P4 := hid (P3.out.later hb4)
    have A4 := hid (A3.out.later hb4)
    have R4 := hid (R3.out.later hb4)
    have D4 := hid (D3.out.later dSub_ok hb4)
    have F4 := hid hF4
    have hB4 := hB3.trans (hb4.mono hB3.size)
    have hs34 := hb4.size
    clear hb4 hF4 P3 A3 R3 D3 hB3
    have hsd : 0 ≤ sd ∧ sd ≤ 1000000 := (topicB_good HG.out).1
    rw [HW0.out]
    have p0 := P4.out.c 0 rfl
    have p1 := P4.out.c 1 rfl
    have pf0 := P4.out.f 0 rfl
    have a1 := A4.out.c 1 rfl
    have hsv := HS.out
    have hs4 : w2.heap.size < w4.heap.size := P4.out.size
    obtain ⟨w5, hw5⟩ : ∃ V, V = w4.setCell ⟨w2.heap.size, 0, none⟩ (.int .i64 (sd + 1)) := ⟨_, rfl⟩
    have P5 : Hid (Bx w5 w2.heap.size [.int .i64 (sd + 1), .slice to1 ts.length ts.length]) := by rw [Hid, hw5]; exact P4.out.set 0 _
    have A5 : Hid (Bx w5 w.heap.size [.int .i64 sd, .slice ao ts.length cap]) := by rw [Hid, hw5]; exact A4.out.other (a := ⟨w2.heap.size, 0, none⟩) (by dsimp only; omega) _
    have R5 : Hid (Bx w5 (w.heap.size + 1) [.int .i64 0, .slice none 0 0]) := by rw [Hid, hw5]; exact R4.out.other (a := ⟨w2.heap.size, 0, none⟩) (by dsimp only; omega) _
    have D5 : Hid (DFr dSub w1.heap.size w2.heap.size w5 to1 ts.length us) := by rw [Hid, hw5]; exact D4.out.keep dSub_ok fun q _ h2 _ => Below.heap_setCell _ _ _ _ (by dsimp only; omega)
    have hB5 : Below w.heap.size w w5 := by rw [hw5]; exact hB4.setCell (p := ⟨w2.heap.size, 0, none⟩) (by dsimp only; omega) _
    have hz5 : w5.heap.size = w4.heap.size := by rw [hw5]; simp [World.setCell]
    have HZ5 := hid hz5
    have HW5 := hid hw5
    clear hw5 P4 A4 R4 D4 hB4 hz5 F4 hsv
    have HSD := hid hsd
    go_upto_region 8 with fail
    rw [← HW5.out]
    clear p0 p1 pf0 a1
    have a1 := A5.out.c 1 rfl
    have hV4 := Nat.le_trans (Nat.le_of_lt hs4) (Nat.le_of_eq HZ5.out.symm)
    go_wp2
    go_loopw [9, 40] (fun u i wr => ∃ (k : Nat) (l : Value) (vs : List LSub), l = u ∧ k ≤ ts.length ∧ i = .int .i64 k ∧ Hid (kI.Own w4.heap.size wr l (losI ((ts.map valSub).take k))) ∧ Hid (DFr dSub w1.heap.size wr.heap.size wr to1 ts.length vs) ∧ Hid (vs.map valSub = midS v (ts.map valSub) k) ∧ Hid (PubA l vs) ∧ Hid (Bx wr w.heap.size [.int .i64 sd, .slice ao ts.length cap]) ∧ Hid (Bx wr (w.heap.size + 1) [.int .i64 0, .slice none 0 0]) ∧ Hid (Bx wr w2.heap.size [.int .i64 (sd + 1), .slice to1 ts.length ts.length]) ∧ Below w.heap.size w wr ∧ w4.heap.size ≤ wr.heap.size) (fun _ i _ => ts.length - (intOf i).toNat)
    case atStart => exact ⟨0, _, us, rfl, Nat.zero_le _, rfl, by rw [Hid]; simp [losI]; exact Kind.Own.nil _ _ _, DFr.wide dSub_ok D5.out (Nat.le_refl _) (by omega), by rw [Hid, midS_zero]; exact HU.out, PubA.nil _, A5, R5, P5, hB5, by have := HZ5.out; omega⟩
    case round =>
      obtain ⟨k, l, vs, rfl, hk, rfl, hO, hD, hM, hA, hAb, hRb, hPb, hB, hwr⟩ := hrel
      by_cases hlt : k < ts.length
      · have hgd := sub_el HG.out (k := k) (by rw [HLM.out]; exact hlt)
        have hev := el_val hlt
        obtain ⟨b0, off, hao, hb, hc⟩ := hSub_at HZ.out.1 hlt
        have HAO := hid hao
        have hck := hc k hlt
        have hI := HZ.out.2 k hlt
        obtain ⟨⟨nd, kap, dr, dp, ⟨qo, qc, q⟩⟩, ey⟩ : ∃ v, v = el ts k := ⟨_, rfl⟩
        rw [← ey] at hck hI hev
        rw [hev] at hgd
        have HE : Hid (el (ts.map valSub) k = (nd, kap, dr, dp, q)) := hev
        have HI : Hid (kI.In w.heap.size w qo q) := hI
        dsimp only [valSub] at hck hgd
        have HGD := hid hgd
        have HLT := hid (show k < (ts.map valSub).length by rw [HLM.out]; exact hlt)
        have hvl : vs.length = ts.length := by have h := len_ps hM.out; rw [midS_len, HLM.out] at h; exact h
        have HVL := hid hvl
        obtain ⟨g, hg0, hgl, hgh, _, _⟩ := (show hSub.Fresh _ _ _ _ _ _ from D5.out.1).at (show 0 < us.length by have := HUL.out; omega)
        have HG0 := hid hg0
        have hkv : k < vs.length := by omega
        rw [hg0] at hD hPb
        rw [hao] at hAb
        have d1 := (hB.cell (p := ⟨b0, off + k * 5, none⟩) hb).trans hck.1
        have d2 := (hB.cell (p := ⟨b0, off + k * 5 + 1, none⟩) hb).trans hck.2.1
        have d3 := (hB.cell (p := ⟨b0, off + k * 5 + 2, none⟩) hb).trans hck.2.2.1
        have d4 := (hB.cell (p := ⟨b0, off + k * 5 + 3, none⟩) hb).trans hck.2.2.2.1
        have d5 := (hB.cell (p := ⟨b0, off + k * 5 + 4, none⟩) hb).trans hck.2.2.2.2
        have hs := hB.size
        have hsv := HS.out
        rw [hao]
        have HKV := hid hkv
        clear ey hc hI hev hck hgd hao hg0 hvl hkv
        obtain ⟨VW, hVW⟩ : ∃ VW, VW = wr.alloc (.cells #[.int .i64 nd, .int .i64 kap, .bool dr, .int .i64 dp, .slice qo q.length qc] 36) := ⟨_, rfl⟩
        have hbW : Below wr.heap.size wr VW := by rw [hVW]; exact below1 _ _
        have XW : Hid (Bx VW wr.heap.size [.int .i64 nd, .int .i64 kap, .bool dr, .int .i64 dp, .slice qo q.length qc]) := by rw [hVW]; exact Bx.new [.int .i64 nd, .int .i64 kap, .bool dr, .int .i64 dp, .slice qo q.length qc] _ rfl
        have HZW : Hid (VW.heap.size = wr.heap.size + 1) := by rw [hVW]; simp [Hid]
        have hBW := hB.trans (hbW.mono hB.size)
        have OW := hid (hO.out.below hbW)
        have DW := hid (hD.out.later dSub_ok hbW)
        have AW := hid (hAb.out.later hbW)
        have RW := hid (hRb.out.later hbW)
        have PW := hid (hPb.out.later hbW)
        have HVW := hid hVW
        clear hbW hVW hO hD hAb hRb hPb hsv
        cases he : fullB (nd, kap, dr, dp, q)
        · have HFB := hid he
          clear he
          go_wp2_with fail
          rw [← HVW.out]
          refine (sayTo_any nd kap dr dp qo qc q v VW HGD.out.1 HGD.out.2.1 HGD.out.2.2.1 HGD.out.2.2.2.1 HGD.out.2.2.2.2 (HI.out.later hBW)).mono ?_
          rintro e w6 ⟨⟨go2, qc2, rfl, hF6⟩, hb6⟩
          rw [HFB.out]
          obtain ⟨⟨nd2, kap2, dr2, dp2, q2⟩, hsy⟩ : ∃ s, s = sayP v (nd, kap, dr, dp, q) := ⟨_, rfl⟩
          rw [← hsy] at hF6 ⊢
          dsimp only at hF6 ⊢
          have HSY := hid hsy
          have F6 := hid hF6
          have hB6 := hBW.trans (hb6.mono hBW.size)
          have O6 := hid (OW.out.below hb6)
          have HOW := hid OW.out
          have D6 := hid (DW.out.later dSub_ok hb6)
          have A6 := hid (AW.out.later hb6)
          have R6 := hid (RW.out.later hb6)
          have P6 := hid (PW.out.later hb6)
          have X6 := hid (XW.out.later hb6)
          have hs6 := hb6.size
          clear hF6 hb6 hsy OW DW AW RW PW XW d1 d2 d3 d4 d5 hBW
          obtain ⟨w7, hw7⟩ : ∃ V, V = w6.alloc (.cells #[.int .i64 nd2, .int .i64 kap2, .bool dr2, .int .i64 dp2, .slice go2 q2.length qc2] 36) := ⟨_, rfl⟩
          have hb7 : Below w6.heap.size w6 w7 := by rw [hw7]; exact below1 _ _
          have hz7 : w7.heap.size = w6.heap.size + 1 := by rw [hw7]; simp
          have O7 := hid (O6.out.below hb7)
          have D7 := hid (D6.out.later dSub_ok hb7)
          have A7 := hid (A6.out.later hb7)
          have R7 := hid (R6.out.later hb7)
          have P7 := hid (P6.out.later hb7)
          have X7 := hid (X6.out.later hb7)
          have F7 := hid (F6.out.later hb7)
          have Y7 : Hid (Bx w7 w6.heap.size [.int .i64 nd2, .int .i64 kap2, .bool dr2, .int .i64 dp2, .slice go2 q2.length qc2]) := by rw [Hid, hw7]; exact Bx.new [.int .i64 nd2, .int .i64 kap2, .bool dr2, .int .i64 dp2, .slice go2 q2.length qc2] _ rfl
          have hB7 := hB6.trans (hb7.mono hB6.size)
          have HW7 := hid hw7
          clear hb7 hw7 O6 D6 A6 R6 P6 X6 F6 hB6
          go_upto_region 13 with fail
          rw [← HW7.out]
          have hzw := HZW.out
          obtain ⟨⟨c0, c1, c2, c3, c4⟩, ff, _, _, hg3⟩ := hd_at D7.out HKV.out
          have f0 : w7.frozen? ⟨g, k * 5, none⟩ = false := ff 0
          have f1 := ff 1
          have f2 := ff 2
          have f3 := ff 3
          have f4 := ff 4
          clear ff
          have y0 := Y7.out.c 0 rfl
          have y1 := Y7.out.c 1 rfl
          have y2 := Y7.out.c 2 rfl
          have y3 := Y7.out.c 3 rfl
          have y4 := Y7.out.c 4 rfl
          have p1 := P7.out.c 1 rfl
          obtain ⟨w8, hw8⟩ : ∃ V, V = puts5 w7 g k nd2 kap2 dp2 dr2 go2 q2.length qc2 := ⟨_, rfl⟩
          have hsv := HS.out
          have D8 : Hid (DFr dSub w1.heap.size w8.heap.size w8 (some ⟨g, 0, none⟩) ts.length (vs.set k (nd2, kap2, dr2, dp2, (go2, qc2, q2)))) := by rw [Hid, hw8, put5_size]; exact DFr.put5 (hi := VW.heap.size) (D7.out.wide dSub_ok (Nat.le_refl _) (by omega)) HKV.out nd2 kap2 dp2 dr2 (F7.out.wide (Nat.le_refl _) (by omega)) (by omega) (by omega)
          have A8 : Hid (Bx w8 w.heap.size [.int .i64 sd, .slice (some ⟨b0, off, none⟩) ts.length cap]) := by rw [Hid, hw8]; exact A7.out.put5 _ _ (by omega) _ _ _ _ _ _ _
          have R8 : Hid (Bx w8 (w.heap.size + 1) [.int .i64 0, .slice none 0 0]) := by rw [Hid, hw8]; exact R7.out.put5 _ _ (by omega) _ _ _ _ _ _ _
          have P8 : Hid (Bx w8 w2.heap.size [.int .i64 (sd + 1), .slice (some ⟨g, 0, none⟩) ts.length ts.length]) := by rw [Hid, hw8]; exact P7.out.put5 _ _ (by omega) _ _ _ _ _ _ _
          have X8 : Hid (Bx w8 wr.heap.size [.int .i64 nd, .int .i64 kap, .bool dr, .int .i64 dp, .slice qo q.length qc]) := by rw [Hid, hw8]; exact X7.out.put5 _ _ (by omega) _ _ _ _ _ _ _
          have O8 : Hid (kI.Own w4.heap.size w8 l (losI ((ts.map valSub).take k))) := by rw [Hid, hw8]; exact O7.out.keep fun i h1 _ => put5_heap _ _ _ _ _ _ _ _ _ _ (by omega)
          have hB8 : Below w.heap.size w w8 := by rw [hw8]; exact put5_below hB7 _ _ (by omega) _ _ _ _ _ _ _
          have hz8 : w8.heap.size = w7.heap.size := by rw [hw8, put5_size]
          have HA8 : Hid (PubA l (vs.set k (nd2, kap2, dr2, dp2, (go2, qc2, q2)))) := PubA.put (hi := VW.heap.size) (hi2 := w6.heap.size) (W := VW) (W' := w7) (lo := w4.heap.size) (xs := losI ((ts.map valSub).take k)) hA.out HOW.out (Nat.le_refl _) HKV.out F7.out
          have HM8 : Hid ((vs.set k (nd2, kap2, dr2, dp2, (go2, qc2, q2))).map valSub = midS v (ts.map valSub) (k + 1)) := by
            rw [Hid, map_set, hM.out, ← midS_succ HLT.out, HE.out, ← HSY.out]; rfl
          have HW8 : Hid (w8 = ((((w7.setCell ⟨g, k * 5, none⟩ (.int .i64 nd2)).setCell ⟨g, k * 5 + 1, none⟩ (.int .i64 kap2)).setCell ⟨g, k * 5 + 2, none⟩ (.bool dr2)).setCell ⟨g, k * 5 + 3, none⟩ (.int .i64 dp2)).setCell ⟨g, k * 5 + 4, none⟩ (.slice go2 q2.length qc2)) := hw8
          have HZ8 := hid hz8
          have HZ7 := hid hz7
          have HS6 := hid hs6
          clear hw8 O7 D7 A7 R7 P7 X7 F7 Y7 hB7 hA hM hz8 hz7 hzw hsv
          go_upto_region 14 with fail
          rw [← HW8.out]
          clear c0 c1 c2 c3 c4 f0 f1 f2 f3 f4 y0 y1 y2 y3 y4 p1
          have hs8 : wr.heap.size ≤ w8.heap.size := by have h1 := HZ8.out; have h2 := HZ7.out; have h3 := HS6.out; have h4 := HZW.out; omega
          have O9 : Hid (kI.Own w4.heap.size w8 l (losI ((ts.map valSub).take (k + 1)))) := by rw [Hid, losI_out HLT.out (by rw [HE.out]; exact HFB.out)]; exact O8.out
          go_wp2
          go_roundw
          case rel => exact ⟨k + 1, l, _, rfl, by omega, by go_num, O9, by rw [Hid, HG0.out]; exact D8.out, HM8, HA8, by first | exact A8.out | (rw [Hid, HAO.out]; exact A8.out), R8, by rw [Hid, HG0.out]; exact P8.out, hB8, by omega⟩
          case measure => simp [intOf]; omega
        · have HFB := hid he
          clear he
          go_wp2_with fail
          rw [← HVW.out]
          refine (sayTo_any nd kap dr dp qo qc q v VW HGD.out.1 HGD.out.2.1 HGD.out.2.2.1 HGD.out.2.2.2.1 HGD.out.2.2.2.2 (HI.out.later hBW)).mono ?_
          rintro e w6 ⟨⟨go2, qc2, rfl, hF6⟩, hb6⟩
          rw [HFB.out]
          obtain ⟨⟨nd2, kap2, dr2, dp2, q2⟩, hsy⟩ : ∃ s, s = sayP v (nd, kap, dr, dp, q) := ⟨_, rfl⟩
          rw [← hsy] at hF6 ⊢
          dsimp only at hF6 ⊢
          have HSY := hid hsy
          have F6 := hid hF6
          have hB6 := hBW.trans (hb6.mono hBW.size)
          have O6 := hid (OW.out.below hb6)
          have HOW := hid OW.out
          have D6 := hid (DW.out.later dSub_ok hb6)
          have A6 := hid (AW.out.later hb6)
          have R6 := hid (RW.out.later hb6)
          have P6 := hid (PW.out.later hb6)
          have X6 := hid (XW.out.later hb6)
          have hs6 := hb6.size
          clear hF6 hb6 hsy OW DW AW RW PW XW d1 d2 d3 d4 d5 hBW
          obtain ⟨w7, hw7⟩ : ∃ V, V = w6.alloc (.cells #[.int .i64 nd2, .int .i64 kap2, .bool dr2, .int .i64 dp2, .slice go2 q2.length qc2] 36) := ⟨_, rfl⟩
          have hb7 : Below w6.heap.size w6 w7 := by rw [hw7]; exact below1 _ _
          have hz7 : w7.heap.size = w6.heap.size + 1 := by rw [hw7]; simp
          have O7 := hid (O6.out.below hb7)
          have D7 := hid (D6.out.later dSub_ok hb7)
          have A7 := hid (A6.out.later hb7)
          have R7 := hid (R6.out.later hb7)
          have P7 := hid (P6.out.later hb7)
          have X7 := hid (X6.out.later hb7)
          have F7 := hid (F6.out.later hb7)
          have Y7 : Hid (Bx w7 w6.heap.size [.int .i64 nd2, .int .i64 kap2, .bool dr2, .int .i64 dp2, .slice go2 q2.length qc2]) := by rw [Hid, hw7]; exact Bx.new [.int .i64 nd2, .int .i64 kap2, .bool dr2, .int .i64 dp2, .slice go2 q2.length qc2] _ rfl
          have hB7 := hB6.trans (hb7.mono hB6.size)
          have HW7 := hid hw7
          clear hb7 hw7 O6 D6 A6 R6 P6 X6 F6 hB6
          go_upto_region 13 with fail
          rw [← HW7.out]
          have hzw := HZW.out
          obtain ⟨⟨c0, c1, c2, c3, c4⟩, ff, _, _, hg3⟩ := hd_at D7.out HKV.out
          have f0 : w7.frozen? ⟨g, k * 5, none⟩ = false := ff 0
          have f1 := ff 1
          have f2 := ff 2
          have f3 := ff 3
          have f4 := ff 4
          clear ff
          have y0 := Y7.out.c 0 rfl
          have y1 := Y7.out.c 1 rfl
          have y2 := Y7.out.c 2 rfl
          have y3 := Y7.out.c 3 rfl
          have y4 := Y7.out.c 4 rfl
          have p1 := P7.out.c 1 rfl
          obtain ⟨w8, hw8⟩ : ∃ V, V = puts5 w7 g k nd2 kap2 dp2 dr2 go2 q2.length qc2 := ⟨_, rfl⟩
          have hsv := HS.out
          have D8 : Hid (DFr dSub w1.heap.size w8.heap.size w8 (some ⟨g, 0, none⟩) ts.length (vs.set k (nd2, kap2, dr2, dp2, (go2, qc2, q2)))) := by rw [Hid, hw8, put5_size]; exact DFr.put5 (hi := VW.heap.size) (D7.out.wide dSub_ok (Nat.le_refl _) (by omega)) HKV.out nd2 kap2 dp2 dr2 (F7.out.wide (Nat.le_refl _) (by omega)) (by omega) (by omega)
          have A8 : Hid (Bx w8 w.heap.size [.int .i64 sd, .slice (some ⟨b0, off, none⟩) ts.length cap]) := by rw [Hid, hw8]; exact A7.out.put5 _ _ (by omega) _ _ _ _ _ _ _
          have R8 : Hid (Bx w8 (w.heap.size + 1) [.int .i64 0, .slice none 0 0]) := by rw [Hid, hw8]; exact R7.out.put5 _ _ (by omega) _ _ _ _ _ _ _
          have P8 : Hid (Bx w8 w2.heap.size [.int .i64 (sd + 1), .slice (some ⟨g, 0, none⟩) ts.length ts.length]) := by rw [Hid, hw8]; exact P7.out.put5 _ _ (by omega) _ _ _ _ _ _ _
          have X8 : Hid (Bx w8 wr.heap.size [.int .i64 nd, .int .i64 kap, .bool dr, .int .i64 dp, .slice qo q.length qc]) := by rw [Hid, hw8]; exact X7.out.put5 _ _ (by omega) _ _ _ _ _ _ _
          have O8 : Hid (kI.Own w4.heap.size w8 l (losI ((ts.map valSub).take k))) := by rw [Hid, hw8]; exact O7.out.keep fun i h1 _ => put5_heap _ _ _ _ _ _ _ _ _ _ (by omega)
          have hB8 : Below w.heap.size w w8 := by rw [hw8]; exact put5_below hB7 _ _ (by omega) _ _ _ _ _ _ _
          have hz8 : w8.heap.size = w7.heap.size := by rw [hw8, put5_size]
          have HA8 : Hid (PubA l (vs.set k (nd2, kap2, dr2, dp2, (go2, qc2, q2)))) := PubA.put (hi := VW.heap.size) (hi2 := w6.heap.size) (W := VW) (W' := w7) (lo := w4.heap.size) (xs := losI ((ts.map valSub).take k)) hA.out HOW.out (Nat.le_refl _) HKV.out F7.out
          have HM8 : Hid ((vs.set k (nd2, kap2, dr2, dp2, (go2, qc2, q2))).map valSub = midS v (ts.map valSub) (k + 1)) := by
            rw [Hid, map_set, hM.out, ← midS_succ HLT.out, HE.out, ← HSY.out]; rfl
          have HW8 : Hid (w8 = ((((w7.setCell ⟨g, k * 5, none⟩ (.int .i64 nd2)).setCell ⟨g, k * 5 + 1, none⟩ (.int .i64 kap2)).setCell ⟨g, k * 5 + 2, none⟩ (.bool dr2)).setCell ⟨g, k * 5 + 3, none⟩ (.int .i64 dp2)).setCell ⟨g, k * 5 + 4, none⟩ (.slice go2 q2.length qc2)) := hw8
          have HZ8 := hid hz8
          have HZ7 := hid hz7
          have HS6 := hid hs6
          clear hw8 O7 D7 A7 R7 P7 X7 F7 Y7 hB7 hA hM hz8 hz7 hzw hsv
          go_upto_region 14 with fail
          rw [← HW8.out]
          clear c0 c1 c2 c3 c4 f0 f1 f2 f3 f4 y0 y1 y2 y3 y4 p1
          have hs8 : wr.heap.size ≤ w8.heap.size := by have h1 := HZ8.out; have h2 := HZ7.out; have h3 := HS6.out; have h4 := HZW.out; omega
          have x0 := X8.out.c 0 rfl
          have HN : Hid (kI.In (w8.heap.size + 1) (w8.alloc (.cells #[.int .i64 nd] 3)) (some ⟨w8.heap.size, 0, none⟩) [nd]) := int_one (by omega) (by simp)
          have hll : (losI ((ts.map valSub).take k)).length + 1 ≤ 4194304 := by have := losI_le ((ts.map valSub).take k); simp at this; omega
          obtain ⟨w9, hw9⟩ : ∃ V, V = w8.alloc (.cells #[.int .i64 nd] 3) := ⟨_, rfl⟩
          have hb9 : Below w8.heap.size w8 w9 := by rw [hw9]; exact below1 _ _
          rw [← hw9] at HN
          have O9 := hid (O8.out.below hb9)
          have D9 := hid (D8.out.later dSub_ok hb9)
          have A9 := hid (A8.out.later hb9)
          have R9 := hid (R8.out.later hb9)
          have P9 := hid (P8.out.later hb9)
          have hB9 := hB8.trans (hb9.mono hB8.size)
          have hs9 := hb9.size
          subst hw9
          have hh9 : Hid (∀ b, rowOwn (some ⟨g, 0, none⟩) (vs.set k (nd2, kap2, dr2, dp2, (go2, qc2, q2))) b → b < w4.heap.size) := fun b hb => by have h := hb.2; simp at h; omega
          clear hb9 O8 D8 A8 R8 P8 X8 hB8
          have hsw : w.heap.size + 2 ≤ w4.heap.size := by have := HS.out; omega
          go_wp2_with (at_builtin; refine Kind.appN kI_ok (w8.alloc (.cells #[.int .i64 nd] 3)) rfl (.tmp 57) (.tmp 60) rfl w4.heap.size l (losI ((ts.map valSub).take k)) rfl O9.out (by omega) (some ⟨w8.heap.size, 0, none⟩) [nd] 1 1 rfl rfl (by simp) _ HN.out hll ?_; intro l2 wA hOA hBA hGA hwA; have DA := hid (DFr.grown D9.out hGA O9.out HA8.out hh9.out); have PA := hid (PubA.app HA8.out D9.out hwA); have AA := hid (A9.out.keep hGA.size (hGA.block _ A9.out.1 (fun e => by have := (own_in O9.out e.symm).1; omega))); have RA := hid (R9.out.keep hGA.size (hGA.block _ R9.out.1 (fun e => by have := (own_in O9.out e.symm).1; omega))); have PPA := hid (P9.out.keep hGA.size (hGA.block _ P9.out.1 (fun e => by have := (own_in O9.out e.symm).1; omega))); have hBB : Below w.heap.size w wA := hB9.trans (hBA.mono (by omega)); have hsA := hGA.size; have OA : Hid (kI.Own w4.heap.size wA l2 (losI ((ts.map valSub).take (k + 1)))) := (by rw [Hid, losI_in HLT.out (by rw [HE.out]; exact HFB.out), HE.out]; simpa using hOA); clear hOA hBA hGA hwA D9 A9 R9 P9 hB9 O9)
          go_roundw
          case rel => exact ⟨k + 1, l2, _, rfl, by omega, by go_num, OA, by rw [Hid, HG0.out]; exact DA.out.wide dSub_ok (Nat.le_refl _) (by omega), HM8, PA, by first | exact AA.out | (rw [Hid, HAO.out]; exact AA.out), RA, by rw [Hid, HG0.out]; exact PPA.out, hBB, by omega⟩
          case measure => simp [intOf]; omega
      · obtain rfl : k = ts.length := by omega
        have hM2 : Hid (vs.map valSub = (ts.map valSub).map (sayP v)) := by
          have h := hM.out
          rw [show ts.length = (ts.map valSub).length by rw [HLM.out], midS_end] at h
          exact h
        have hO2 : Hid (kI.Own w4.heap.size wr l (losI (ts.map valSub))) := by
          have h := hO.out
          rw [List.take_of_length_le (by rw [HLM.out]; exact Nat.le_refl _)] at h
          exact h
        obtain ⟨lo1, lc1, hl1, _, hF⟩ := hO2.out.fresh
        have hAP : Hid (PubA l vs) := hA
        subst hl1
        have F9 := hid hF
        clear hF hO hO2 hA hM
        have p0 := hPb.out.c 0 rfl
        have p1 := hPb.out.c 1 rfl
        have r0 := hRb.out.c 0 rfl
        have rf0 := hRb.out.f 0 rfl
        have r1 := hRb.out.c 1 rfl
        have rf1 := hRb.out.f 1 rfl
        have rz := hRb.out.size
        go_wp2
        refine bodyPost_ret (v := .tuple #[.agg #[.int .i64 (sd + 1), .slice to1 ts.length ts.length], .slice lo1 (losI (ts.map valSub)).length lc1, .int .i64 0]) (by simp [results, Try.results5, go_sem, r0, r1]) rfl ?_
        rw [HR.out]
        have hsv := HS.out
        have hK : ∀ (Y : World) (i : Nat), w.heap.size + 1 < i → ((Y.setCell ⟨w.heap.size + 1, 0, none⟩ (.int .i64 (sd + 1))).setCell ⟨w.heap.size + 1, 1, none⟩ (.slice to1 ts.length ts.length)).heap[i]? = Y.heap[i]? := fun Y i h => by rw [Below.heap_setCell _ _ _ _ (by dsimp only; omega), Below.heap_setCell _ _ _ _ (by dsimp only; omega)]
        refine ⟨⟨to1, ts.length, vs, lo1, lc1, by rw [List.length_map, HLM.out], hM2.out, ?_, ?_, hAP.out.apart⟩, (hB.setCell (p := ⟨w.heap.size + 1, 0, none⟩) (by dsimp only; omega) _).setCell (p := ⟨w.heap.size + 1, 1, none⟩) (by dsimp only; omega) _⟩
        · exact DFr.wide dSub_ok (DFr.keep dSub_ok hD.out fun q h1 _ _ => hK _ _ (by omega)) (by omega) (by simp [World.setCell])
        · exact Kind.Fresh.wide (Kind.Fresh.keep F9.out fun q h1 _ _ => hK _ _ (by omega)) (by omega) (by simp [World.setCell])
  · have HR : Hid (pubR sd (ts.map valSub) v = (sd, (ts.map valSub), waitI (ts.map valSub), 3)) := by rw [Hid, pubR, HG.out, if_neg hsm, if_neg hw0]; rfl
    have hw1 : 0 < (waitI (ts.map valSub)).length := by omega
    clear hw0
    go_enter Try.func5, Try.ntmps5
    go_wp2_with fail
    rw [← HV.out]
    refine (implGood_is sd ao cap ts V true hl HF.out (HZ.out.later dSub_ok hB0) HG.out).mono ?_
    rintro e w1 ⟨rfl, hb1⟩
    have hB1 := hB0.trans (hb1.mono hB0.size)
    have hV1 := hb1.size
    have A1 := hid (A0.out.later hb1)
    have R1 := hid (R0.out.later hb1)
    have a0 := A1.out.c 0 rfl
    have a1 := A1.out.c 1 rfl
    have r0 := R1.out.c 0 rfl
    have rf0 := R1.out.f 0 rfl
    have r1 := R1.out.c 1 rfl
    have rf1 := R1.out.f 1 rfl
    clear hb1 A0 R0
    go_wp2_with fail
    refine (copyTopic_any sd ao cap ts w1 hl HF.out (HZ.out.later dSub_ok hB1)).mono ?_
    rintro e w2 ⟨⟨to1, us, rfl, hv2, hD2⟩, hb2⟩
    rw [List.length_map] at hD2 ⊢
    have HU := hid hv2
    have hul := len_val hv2
    have HUL := hid hul
    have D2 := hid hD2
    have A2 := hid (A1.out.later hb2)
    have R2 := hid (R1.out.later hb2)
    have hB2 := hB1.trans (hb2.mono hB1.size)
    have hV2 := Nat.le_trans hV1 hb2.size
    have hs12 : w1.heap.size ≤ w2.heap.size := hb2.size
    clear A1 R1 a0 a1 r0 rf0 r1 rf1 hv2 hD2 hul hb2 hB1
    obtain ⟨w3, hw3⟩ : ∃ V, V = w2.alloc (.cells #[.int .i64 sd, .slice to1 ts.length ts.length] 25) := ⟨_, rfl⟩
    have hb3 : Below w2.heap.size w2 w3 := by rw [hw3]; exact below1 _ _
    have P3 : Hid (Bx w3 w2.heap.size [.int .i64 sd, .slice to1 ts.length ts.length]) := by rw [hw3]; exact Bx.new [.int .i64 sd, .slice to1 ts.length ts.length] _ rfl
    have A3 := hid (A2.out.later hb3)
    have R3 := hid (R2.out.later hb3)
    have D3 := hid (D2.out.later dSub_ok hb3)
    have hB3 := hB2.trans (hb3.mono hB2.size)
    have hs3 : w2.heap.size < w3.heap.size := P3.out.size
    have pa0 := A2.out.c 0 rfl
    have pa1 := A2.out.c 1 rfl
    have paz := A2.out.size
    have HW3 := hid hw3
    clear hw3 hb3 A2 R2 D2 hB2
    go_wp2_with fail
    rw [← HW3.out]
    clear pa0 pa1 paz
    refine (waitingIds_any ao cap ts w3 hl (HZ.out.later dSub_ok hB3).1).mono ?_
    rintro e w4 ⟨⟨wo, wc, rfl, hF4⟩, hb4⟩
    have P4 := hid (P3.out.later hb4)
    have A4 := hid (A3.out.later hb4)
    have R4 := hid (R3.out.later hb4)
    have D4 := hid (D3.out.later dSub_ok hb4)
    have F4 := hid hF4
    have hB4 := hB3.trans (hb4.mono hB3.size)
    have hs34 := hb4.size
    clear hb4 hF4 P3 A3 R3 D3 hB3
    have p0 := P4.out.c 0 rfl
    have p1 := P4.out.c 1 rfl
    have r0 := R4.out.c 0 rfl
    have rf0 := R4.out.f 0 rfl
    have r1 := R4.out.c 1 rfl
    have rf1 := R4.out.f 1 rfl
    have rz := R4.out.size
    have AP := apart_new D4.out F4.out (by omega)
    go_wp2
    refine bodyPost_ret (v := .tuple #[.agg #[.int .i64 sd, .slice to1 ts.length ts.length], .slice wo (waitI (ts.map valSub)).length wc, .int .i64 3]) (by simp [results, Try.results5, go_sem, r0, r1]) rfl ?_
    rw [HR.out]
    have hsv := HS.out
    have hK : ∀ (Y : World) (i : Nat), w.heap.size + 1 < i → ((Y.setCell ⟨w.heap.size + 1, 0, none⟩ (.int .i64 sd)).setCell ⟨w.heap.size + 1, 1, none⟩ (.slice to1 ts.length ts.length)).heap[i]? = Y.heap[i]? := fun Y i h => by rw [Below.heap_setCell _ _ _ _ (by dsimp only; omega), Below.heap_setCell _ _ _ _ (by dsimp only; omega)]
    refine ⟨⟨to1, ts.length, us, wo, wc, by rw [HLM.out], HU.out, ?_, ?_, AP⟩, (hB4.setCell (p := ⟨w.heap.size + 1, 0, none⟩) (by dsimp only; omega) _).setCell (p := ⟨w.heap.size + 1, 1, none⟩) (by dsimp only; omega) _⟩
    · exact DFr.wide dSub_ok (DFr.keep dSub_ok D4.out fun q h1 _ _ => hK _ _ (by omega)) (by omega) (by simp [World.setCell]; omega)
    · exact Kind.Fresh.wide (Kind.Fresh.keep F4.out fun q h1 _ _ => hK _ _ (by omega)) (by omega) (by simp [World.setCell])
end Go.Proofs.Ytimkadnnhfllnaa
