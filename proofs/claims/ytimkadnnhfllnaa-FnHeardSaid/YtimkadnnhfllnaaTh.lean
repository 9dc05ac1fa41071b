
/- HearNext, the program. No conditions but those written. -/
import Derived.Test.YtimkadnnhfllnaaTx
import Derived.Test.YtimkadnnhfllnaaTr
import Derived.Test.YtimkadnnhfllnaaCj
namespace Go.Proofs.Ytimkadnnhfllnaa
open Go.RowKit

set_option maxRecDepth 10000 in
set_option maxHeartbeats 16000000 in
theorem implHear_any (sd : Int) (ao : Option Addr) (cap : Nat) (ts : List LSub) (id : Int) (w : World) (hl : ts.length ≤ 1048576) (hf : Fits ts) (hz : DIn dSub w.heap.size w ao ts) :
    Calls Try.prog 11 #[.agg #[.int .i64 sd, .slice ao ts.length cap], .int .i64 id] w fun e w' => AnsH w (hearR sd (ts.map valSub) id) e w' := by
  have HZ := hid hz
  have HF := hid hf
  clear hz hf
  obtain ⟨V, hV⟩ : ∃ V, V = (w.alloc (.cells #[.int .i64 sd, .slice ao ts.length cap] 25)).alloc (.cells #[.int .i64 0, .slice none 0 0] 25) := ⟨_, rfl⟩
  have hB0 : Below w.heap.size w V := by rw [hV]; exact below2 _ _ _
  have A0 : Hid (Bx V w.heap.size [.int .i64 sd, .slice ao ts.length cap]) := by rw [hV]; exact (Bx.new [.int .i64 sd, .slice ao ts.length cap] _ rfl).alloc _
  have R0 : Hid (Bx V (w.heap.size + 1) [.int .i64 0, .slice none 0 0]) := by rw [hV]; exact Bx.new [.int .i64 0, .slice none 0 0] _ (by simp)
  have HS : Hid (V.heap.size = w.heap.size + 1 + 1) := by rw [hV]; simp [Hid]
  have HV := hid hV
  have hlm : (ts.map valSub).length = ts.length := by simp
  have HLM := hid hlm
  clear hV hlm
  cases hg : topicB sd (ts.map valSub)
  · have HG := hid hg
    have HR : Hid (hearR sd (ts.map valSub) id = (0, [], 0, 1)) := by rw [Hid, hearR, hg]; rfl
    clear hg
    go_enter Try.func11, Try.ntmps11
    go_wp2_with fail
    rw [← HV.out]
    refine (implGood_is sd ao cap ts V false hl HF.out (HZ.out.later dSub_ok hB0) HG.out).mono ?_
    rintro e w1 ⟨rfl, hb1⟩
    have hB1 := hB0.trans (hb1.mono hB0.size)
    have hV1 := hb1.size
    have A1 := hid (A0.out.later hb1)
    have R1 := hid (R0.out.later hb1)
    have a0 := A1.out.c 0 rfl
    have a1 := A1.out.c 1 rfl
    have r0 := R1.out.c 0 rfl
    have rf0 := R1.out.f 0 rfl
    have r1 := R1.out.c 1 rfl
    have rf1 := R1.out.f 1 rfl
    clear hb1 A0 R0
    have rz := R1.out.size
    go_wp2
    refine bodyPost_ret (v := .tuple #[.agg #[.int .i64 0, .slice none 0 0], .int .i64 0, .int .i64 1]) (by simp [results, Try.results11, go_sem, r0, r1]) rfl ?_
    rw [HR.out]
    exact ⟨⟨none, 0, [], rfl, rfl, DFr.nil _ _ _ _ _⟩, (hB1.setCell (p := ⟨w.heap.size + 1, 0, none⟩) (by dsimp only; omega) _).setCell (p := ⟨w.heap.size + 1, 1, none⟩) (by dsimp only; omega) _⟩
  have HG := hid hg
  clear hg
  cases ht : thB (ts.map valSub) id
  · have HT := hid ht
    have HR : Hid (hearR sd (ts.map valSub) id = (sd, ts.map valSub, 0, 4)) := by rw [Hid, hearR, HG.out, ht]; rfl
    clear ht
    go_enter Try.func11, Try.ntmps11
    go_wp2_with fail
    rw [← HV.out]
    refine (implGood_is sd ao cap ts V true hl HF.out (HZ.out.later dSub_ok hB0) HG.out).mono ?_
    rintro e w1 ⟨rfl, hb1⟩
    have hB1 := hB0.trans (hb1.mono hB0.size)
    have hV1 := hb1.size
    have A1 := hid (A0.out.later hb1)
    have R1 := hid (R0.out.later hb1)
    have a0 := A1.out.c 0 rfl
    have a1 := A1.out.c 1 rfl
    have r0 := R1.out.c 0 rfl
    have rf0 := R1.out.f 0 rfl
    have r1 := R1.out.c 1 rfl
    have rf1 := R1.out.f 1 rfl
    clear hb1 A0 R0
    go_wp2_with fail
    refine (copyTopic_any sd ao cap ts w1 hl HF.out (HZ.out.later dSub_ok hB1)).mono ?_
    rintro e w2 ⟨⟨to1, us, rfl, hv2, hD2⟩, hb2⟩
    rw [List.length_map] at hD2 ⊢
    have HU := hid hv2
    have hul := len_val hv2
    have HUL := hid hul
    have D2 := hid hD2
    have A2 := hid (A1.out.later hb2)
    have R2 := hid (R1.out.later hb2)
    have hB2 := hB1.trans (hb2.mono hB1.size)
    have hV2 := Nat.le_trans hV1 hb2.size
    have hs12 : w1.heap.size ≤ w2.heap.size := hb2.size
    clear A1 R1 a0 a1 r0 rf0 r1 rf1 hv2 hD2 hul hb2 hB1
    obtain ⟨w3, hw3⟩ : ∃ V, V = w2.alloc (.cells #[.int .i64 sd, .slice to1 ts.length ts.length] 25) := ⟨_, rfl⟩
    have hb3 : Below w2.heap.size w2 w3 := by rw [hw3]; exact below1 _ _
    have P3 : Hid (Bx w3 w2.heap.size [.int .i64 sd, .slice to1 ts.length ts.length]) := by rw [hw3]; exact Bx.new [.int .i64 sd, .slice to1 ts.length ts.length] _ rfl
    have A3 := hid (A2.out.later hb3)
    have R3 := hid (R2.out.later hb3)
    have D3 := hid (D2.out.later dSub_ok hb3)
    have hB3 := hB2.trans (hb3.mono hB2.size)
    have hs3 : w2.heap.size < w3.heap.size := P3.out.size
    have pa0 := A2.out.c 0 rfl
    have pa1 := A2.out.c 1 rfl
    have paz := A2.out.size
    have HW3 := hid hw3
    clear hw3 hb3 A2 R2 D2 hB2
    go_wp2_with fail
    rw [← HW3.out]
    clear pa0 pa1 paz
    refine (placeOf_is sd ao cap ts id w3 hl (HZ.out.later dSub_ok hB3).1).mono ?_
    rintro e w4 ⟨rfl, hb4⟩
    have P4 := hid (P3.out.later hb4)
    have A4 := hid (A3.out.later hb4)
    have R4 := hid (R3.out.later hb4)
    have D4 := hid (D3.out.later dSub_ok hb4)
    have hB4 := hB3.trans (hb4.mono hB3.size)
    have hs4 : w2.heap.size < w4.heap.size := P4.out.size
    clear hb4 P3 A3 R3 D3 hB3 hs3
    rw [HT.out]
    have p0 := P4.out.c 0 rfl
    have p1 := P4.out.c 1 rfl
    have r0 := R4.out.c 0 rfl
    have rf0 := R4.out.f 0 rfl
    have r1 := R4.out.c 1 rfl
    have rf1 := R4.out.f 1 rfl
    have rz := R4.out.size
    go_wp2
    refine bodyPost_ret (v := .tuple #[.agg #[.int .i64 sd, .slice to1 ts.length ts.length], .int .i64 0, .int .i64 4]) (by simp [results, Try.results11, go_sem, r0, r1]) rfl ?_
    rw [HR.out]
    refine ⟨⟨to1, ts.length, us, by rw [HLM.out], HU.out, ?_⟩, (hB4.setCell (p := ⟨w.heap.size + 1, 0, none⟩) (by dsimp only; omega) _).setCell (p := ⟨w.heap.size + 1, 1, none⟩) (by dsimp only; omega) _⟩
    have hsv := HS.out
    exact DFr.wide dSub_ok (DFr.keep dSub_ok D4.out fun q h1 _ _ => by rw [Below.heap_setCell _ _ _ _ (by dsimp only; omega), Below.heap_setCell _ _ _ _ (by dsimp only; omega)]) (by omega) (by simp [World.setCell]; omega)
  have HT := hid ht
  have hkl := thB_lt ht
  rw [HLM.out] at hkl
  have hgd := sub_el HG.out (k := pl (ts.map valSub) id) (by rw [HLM.out]; exact hkl)
  have hev := el_val hkl
  obtain ⟨k, hk⟩ : ∃ k, k = pl (ts.map valSub) id := ⟨_, rfl⟩
  have HK := hid hk
  rw [← hk] at hkl hgd hev
  clear ht hk
  obtain ⟨b0, off, hao, hb, hc⟩ := hSub_at HZ.out.1 hkl
  have HAO := hid hao
  have d1 := (hc k hkl).1
  have d2 := (hc k hkl).2.1
  have d3 := (hc k hkl).2.2.1
  have d4 := (hc k hkl).2.2.2.1
  have d5 := (hc k hkl).2.2.2.2
  have hI := HZ.out.2 k hkl
  obtain ⟨⟨nd, kap, dr, dp, ⟨qo, qc, q⟩⟩, ey⟩ : ∃ v, v = el ts k := ⟨_, rfl⟩
  rw [← ey] at d1 d2 d3 d4 d5 hI hev
  rw [hev] at hgd
  have HE : Hid (el (ts.map valSub) k = (nd, kap, dr, dp, q)) := hev
  have HI : Hid (kI.In w.heap.size w qo q) := hI
  dsimp only [valSub] at d1 d2 d3 d4 d5 hgd
  have HD := hid (And.intro d1 (And.intro d2 (And.intro d3 (And.intro d4 d5))))
  have HGD := hid hgd
  have HKL := hid hkl
  have HB := hid hb
  clear ey hc hI hev d1 d2 d3 d4 d5 hgd hkl hb hao
  rcases q with _ | ⟨x, r⟩
  · have HR : Hid (hearR sd (ts.map valSub) id = (sd, ts.map valSub, 0, 3)) := by rw [Hid, hearR, HG.out, HT.out, ← HK.out, HE.out]; rfl
    go_enter Try.func11, Try.ntmps11
    go_wp2_with fail
    rw [← HV.out]
    refine (implGood_is sd ao cap ts V true hl HF.out (HZ.out.later dSub_ok hB0) HG.out).mono ?_
    rintro e w1 ⟨rfl, hb1⟩
    have hB1 := hB0.trans (hb1.mono hB0.size)
    have hV1 := hb1.size
    have A1 := hid (A0.out.later hb1)
    have R1 := hid (R0.out.later hb1)
    have a0 := A1.out.c 0 rfl
    have a1 := A1.out.c 1 rfl
    have r0 := R1.out.c 0 rfl
    have rf0 := R1.out.f 0 rfl
    have r1 := R1.out.c 1 rfl
    have rf1 := R1.out.f 1 rfl
    clear hb1 A0 R0
    go_wp2_with fail
    refine (copyTopic_any sd ao cap ts w1 hl HF.out (HZ.out.later dSub_ok hB1)).mono ?_
    rintro e w2 ⟨⟨to1, us, rfl, hv2, hD2⟩, hb2⟩
    rw [List.length_map] at hD2 ⊢
    have HU := hid hv2
    have hul := len_val hv2
    have HUL := hid hul
    have D2 := hid hD2
    have A2 := hid (A1.out.later hb2)
    have R2 := hid (R1.out.later hb2)
    have hB2 := hB1.trans (hb2.mono hB1.size)
    have hV2 := Nat.le_trans hV1 hb2.size
    have hs12 : w1.heap.size ≤ w2.heap.size := hb2.size
    clear A1 R1 a0 a1 r0 rf0 r1 rf1 hv2 hD2 hul hb2 hB1
    obtain ⟨w3, hw3⟩ : ∃ V, V = w2.alloc (.cells #[.int .i64 sd, .slice to1 ts.length ts.length] 25) := ⟨_, rfl⟩
    have hb3 : Below w2.heap.size w2 w3 := by rw [hw3]; exact below1 _ _
    have P3 : Hid (Bx w3 w2.heap.size [.int .i64 sd, .slice to1 ts.length ts.length]) := by rw [hw3]; exact Bx.new [.int .i64 sd, .slice to1 ts.length ts.length] _ rfl
    have A3 := hid (A2.out.later hb3)
    have R3 := hid (R2.out.later hb3)
    have D3 := hid (D2.out.later dSub_ok hb3)
    have hB3 := hB2.trans (hb3.mono hB2.size)
    have hs3 : w2.heap.size < w3.heap.size := P3.out.size
    have pa0 := A2.out.c 0 rfl
    have pa1 := A2.out.c 1 rfl
    have paz := A2.out.size
    have HW3 := hid hw3
    clear hw3 hb3 A2 R2 D2 hB2
    go_wp2_with fail
    rw [← HW3.out]
    clear pa0 pa1 paz
    refine (placeOf_is sd ao cap ts id w3 hl (HZ.out.later dSub_ok hB3).1).mono ?_
    rintro e w4 ⟨rfl, hb4⟩
    have P4 := hid (P3.out.later hb4)
    have A4 := hid (A3.out.later hb4)
    have R4 := hid (R3.out.later hb4)
    have D4 := hid (D3.out.later dSub_ok hb4)
    have hB4 := hB3.trans (hb4.mono hB3.size)
    have hs4 : w2.heap.size < w4.heap.size := P4.out.size
    clear hb4 P3 A3 R3 D3 hB3 hs3
    rw [HT.out]
    rw [← HK.out]
    have a0 := A4.out.c 0 rfl
    have a1 := A4.out.c 1 rfl
    rw [HAO.out] at a1
    have e1 := (hB4.cell (p := ⟨b0, off + k * 5, none⟩) HB.out).trans HD.out.1
    have e2 := (hB4.cell (p := ⟨b0, off + k * 5 + 1, none⟩) HB.out).trans HD.out.2.1
    have e3 := (hB4.cell (p := ⟨b0, off + k * 5 + 2, none⟩) HB.out).trans HD.out.2.2.1
    have e4 := (hB4.cell (p := ⟨b0, off + k * 5 + 3, none⟩) HB.out).trans HD.out.2.2.2.1
    have e5 := (hB4.cell (p := ⟨b0, off + k * 5 + 4, none⟩) HB.out).trans HD.out.2.2.2.2
    have hkl := HKL.out
    have hk0 : (0 : Int) ≤ (k : Int) := by omega
    have hk1 : (k : Int) < (ts.length : Int) := by omega
    go_wp2_with fail
    refine (wireOf_any nd kap dr dp qo qc [] w4 (by have := HGD.out.1; omega) (by have := HGD.out.2.1; omega) HGD.out.2.2.1 (HI.out.later hB4)).mono ?_
    rintro e w5 ⟨rfl, hC5, hb5⟩
    obtain ⟨cc, hcc⟩ : ∃ c, c = w4.heap.size + 1 := ⟨_, rfl⟩
    rw [← hcc] at hC5 ⊢
    have C5 := hid hC5
    have P5 := hid (P4.out.later hb5)
    have R5 := hid (R4.out.later hb5)
    have D5 := hid (D4.out.later dSub_ok hb5)
    have hB5 := hB4.trans (hb5.mono hB4.size)
    have hc5 : w4.heap.size < cc := by omega
    clear hC5 hb5 P4 A4 R4 D4 hB4 a0 a1 e1 e2 e3 e4 e5 hcc
    go_wp2_with fail
    refine (hearOn_none cc _ w5 C5.out).mono ?_
    rintro e w6 ⟨rfl, hw6⟩
    rw [hw6]; clear hw6 w6
    have hs5 : w2.heap.size < w5.heap.size := P5.out.size
    have p0 := P5.out.c 0 rfl
    have p1 := P5.out.c 1 rfl
    have r0 := R5.out.c 0 rfl
    have rf0 := R5.out.f 0 rfl
    have r1 := R5.out.c 1 rfl
    have rf1 := R5.out.f 1 rfl
    have rz := R5.out.size
    go_wp2
    refine bodyPost_ret (v := .tuple #[.agg #[.int .i64 sd, .slice to1 ts.length ts.length], .int .i64 0, .int .i64 3]) (by simp [results, Try.results11, go_sem, r0, r1]) rfl ?_
    rw [HR.out]
    refine ⟨⟨to1, ts.length, us, by rw [HLM.out], HU.out, ?_⟩, (hB5.setCell (p := ⟨w.heap.size + 1, 0, none⟩) (by dsimp only; omega) _).setCell (p := ⟨w.heap.size + 1, 1, none⟩) (by dsimp only; omega) _⟩
    have hsv := HS.out
    exact DFr.wide dSub_ok (DFr.keep dSub_ok D5.out fun q h1 _ _ => by rw [Below.heap_setCell _ _ _ _ (by dsimp only; omega), Below.heap_setCell _ _ _ _ (by dsimp only; omega)]) (by omega) (by simp [World.setCell]; omega)
  · have HR : Hid (hearR sd (ts.map valSub) id = (sd, (ts.map valSub).set k (nd, kap, dr, dp, r), x, 0)) := by rw [Hid, hearR, HG.out, HT.out, ← HK.out, HE.out]; rfl
    go_enter Try.func11, Try.ntmps11
    go_wp2_with fail
    rw [← HV.out]
    refine (implGood_is sd ao cap ts V true hl HF.out (HZ.out.later dSub_ok hB0) HG.out).mono ?_
    rintro e w1 ⟨rfl, hb1⟩
    have hB1 := hB0.trans (hb1.mono hB0.size)
    have hV1 := hb1.size
    have A1 := hid (A0.out.later hb1)
    have R1 := hid (R0.out.later hb1)
    have a0 := A1.out.c 0 rfl
    have a1 := A1.out.c 1 rfl
    have r0 := R1.out.c 0 rfl
    have rf0 := R1.out.f 0 rfl
    have r1 := R1.out.c 1 rfl
    have rf1 := R1.out.f 1 rfl
    clear hb1 A0 R0
    go_wp2_with fail
    refine (copyTopic_any sd ao cap ts w1 hl HF.out (HZ.out.later dSub_ok hB1)).mono ?_
    rintro e w2 ⟨⟨to1, us, rfl, hv2, hD2⟩, hb2⟩
    rw [List.length_map] at hD2 ⊢
    have HU := hid hv2
    have hul := len_val hv2
    have HUL := hid hul
    have D2 := hid hD2
    have A2 := hid (A1.out.later hb2)
    have R2 := hid (R1.out.later hb2)
    have hB2 := hB1.trans (hb2.mono hB1.size)
    have hV2 := Nat.le_trans hV1 hb2.size
    have hs12 : w1.heap.size ≤ w2.heap.size := hb2.size
    clear A1 R1 a0 a1 r0 rf0 r1 rf1 hv2 hD2 hul hb2 hB1
    obtain ⟨w3, hw3⟩ : ∃ V, V = w2.alloc (.cells #[.int .i64 sd, .slice to1 ts.length ts.length] 25) := ⟨_, rfl⟩
    have hb3 : Below w2.heap.size w2 w3 := by rw [hw3]; exact below1 _ _
    have P3 : Hid (Bx w3 w2.heap.size [.int .i64 sd, .slice to1 ts.length ts.length]) := by rw [hw3]; exact Bx.new [.int .i64 sd, .slice to1 ts.length ts.length] _ rfl
    have A3 := hid (A2.out.later hb3)
    have R3 := hid (R2.out.later hb3)
    have D3 := hid (D2.out.later dSub_ok hb3)
    have hB3 := hB2.trans (hb3.mono hB2.size)
    have hs3 : w2.heap.size < w3.heap.size := P3.out.size
    have pa0 := A2.out.c 0 rfl
    have pa1 := A2.out.c 1 rfl
    have paz := A2.out.size
    have HW3 := hid hw3
    clear hw3 hb3 A2 R2 D2 hB2
    go_wp2_with fail
    rw [← HW3.out]
    clear pa0 pa1 paz
    refine (placeOf_is sd ao cap ts id w3 hl (HZ.out.later dSub_ok hB3).1).mono ?_
    rintro e w4 ⟨rfl, hb4⟩
    have P4 := hid (P3.out.later hb4)
    have A4 := hid (A3.out.later hb4)
    have R4 := hid (R3.out.later hb4)
    have D4 := hid (D3.out.later dSub_ok hb4)
    have hB4 := hB3.trans (hb4.mono hB3.size)
    have hs4 : w2.heap.size < w4.heap.size := P4.out.size
    clear hb4 P3 A3 R3 D3 hB3 hs3
    rw [HT.out]
    rw [← HK.out]
    have a0 := A4.out.c 0 rfl
    have a1 := A4.out.c 1 rfl
    rw [HAO.out] at a1
    have e1 := (hB4.cell (p := ⟨b0, off + k * 5, none⟩) HB.out).trans HD.out.1
    have e2 := (hB4.cell (p := ⟨b0, off + k * 5 + 1, none⟩) HB.out).trans HD.out.2.1
    have e3 := (hB4.cell (p := ⟨b0, off + k * 5 + 2, none⟩) HB.out).trans HD.out.2.2.1
    have e4 := (hB4.cell (p := ⟨b0, off + k * 5 + 3, none⟩) HB.out).trans HD.out.2.2.2.1
    have e5 := (hB4.cell (p := ⟨b0, off + k * 5 + 4, none⟩) HB.out).trans HD.out.2.2.2.2
    have hkl := HKL.out
    have hk0 : (0 : Int) ≤ (k : Int) := by omega
    have hk1 : (k : Int) < (ts.length : Int) := by omega
    go_wp2_with fail
    refine (wireOf_any nd kap dr dp qo qc (x :: r) w4 (by have := HGD.out.1; omega) (by have := HGD.out.2.1; omega) HGD.out.2.2.1 (HI.out.later hB4)).mono ?_
    rintro e w5 ⟨rfl, hC5, hb5⟩
    obtain ⟨cc, hcc⟩ : ∃ c, c = w4.heap.size + 1 := ⟨_, rfl⟩
    rw [← hcc] at hC5 ⊢
    have C5 := hid hC5
    have P5 := hid (P4.out.later hb5)
    have R5 := hid (R4.out.later hb5)
    have D5 := hid (D4.out.later dSub_ok hb5)
    have hB5 := hB4.trans (hb5.mono hB4.size)
    have hc5 : w4.heap.size < cc := by omega
    clear hC5 hb5 P4 A4 R4 D4 hB4 a0 a1 e1 e2 e3 e4 e5 hcc
    go_wp2_with fail
    refine (hearOn_some cc _ x r w5 C5.out).mono ?_
    rintro e w6 ⟨rfl, hC6, hO6⟩
    have C6 := hid hC6
    have hbt6 := hO6.between
    have P6 := hid (P5.out.between hbt6 (by omega))
    have R6 := hid (R5.out.between hbt6 (by have := HS.out; omega))
    have D6 := hid (D5.out.between' dSub_ok hbt6 (by omega))
    have hB6 := hB5.trans (hO6.below (by have := HS.out; omega))
    clear hC6 hO6 hbt6 C5 P5 R5 D5 hB5
    have hku : k < us.length := by rw [HUL.out]; exact hkl
    obtain ⟨g, hg, hgl, hgh, _, _⟩ := (show hSub.Fresh _ _ _ _ _ _ from D6.out.1).at (show 0 < us.length by omega)
    subst hg
    have C0 := (⟨P6.out.c 0 rfl, P6.out.c 1 rfl⟩ : w6.cell? ⟨w2.heap.size, 0, none⟩ = some (.int .i64 sd) ∧ w6.cell? ⟨w2.heap.size, 1, none⟩ = some (.slice (some ⟨g, 0, none⟩) ts.length ts.length))
    have hs6 : w2.heap.size < w6.heap.size := P6.out.size
    have hrl : r.length ≤ 1048576 := by have h1 := HGD.out.2.1; have h2 := HGD.out.2.2.1; simp at h2; omega
    go_wp2
    go_region_held3 (fun Y => Y.cell? ⟨w2.heap.size, 0, none⟩ = some (.int .i64 sd) ∧ Y.cell? ⟨w2.heap.size, 1, none⟩ = some (.slice (some ⟨g, 0, none⟩) ts.length ts.length))
      (first | (with_reducible exact C0) | (with_reducible exact P7) | ((refine ⟨?_, ?_⟩ <;> (rw [World.cell?_setCell_other _ _ _ _ (addr_ne (by omega))])); (with_reducible exact P7.1); (with_reducible exact P7.2)) | exact C0)
      (first
        | (go_at_call 24; refine (hearAll_any cc _ r w6.drew hrl (by exact C6.out)).mono ?_; rintro e w7 ⟨⟨go, qc', rfl, hF7⟩, hbt7⟩; have hbt : Between cc (cc + 1) w6 w7 := ⟨hbt7.os, hbt7.tape, hbt7.output, hbt7.size, hbt7.block⟩; have PB7 := hid (P6.out.between hbt (by omega)); have P7 := (⟨PB7.out.c 0 rfl, PB7.out.c 1 rfl⟩ : w7.cell? ⟨w2.heap.size, 0, none⟩ = some (.int .i64 sd) ∧ w7.cell? ⟨w2.heap.size, 1, none⟩ = some (.slice (some ⟨g, 0, none⟩) ts.length ts.length)); have R7 := hid (R6.out.between hbt (by have := HS.out; omega)); have D7 := hid (D6.out.between' dSub_ok hbt (by omega)); have hB7 : Below w.heap.size w w7 := hB6.trans ((hbt.below (by have := hc5; have := C6.out.lt; omega)).mono (by have := HS.out; omega)); have F7 : Hid (kI.Fresh w6.heap.size w7.heap.size w7 go qc' r) := hF7; have hs7 := hbt.size; have hd := hd_at D7.out hku; have c7 := hd.1.2.2.2.2; have f7 := hd.2.1 4; clear hF7 hbt7 hbt hd))
    obtain ⟨W8, hW8⟩ : ∃ V, V = w7.setCell ⟨g, k * 5 + 4, none⟩ (.slice go r.length qc') := ⟨_, rfl⟩
    have D8 : Hid (DFr dSub w1.heap.size w7.heap.size W8 (some ⟨g, 0, none⟩) ts.length (us.set k ((el us k).1, (el us k).2.1, (el us k).2.2.1, (el us k).2.2.2.1, (go, qc', r)))) := by rw [Hid, hW8]; exact DFr.newQ (hi := w6.heap.size) (D7.out.wide dSub_ok (Nat.le_refl _) (by omega)) hku F7.out hs7 (by omega)
    have P8 : Hid (Bx W8 w2.heap.size [.int .i64 sd, .slice (some ⟨g, 0, none⟩) ts.length ts.length]) := by rw [Hid, hW8]; exact PB7.out.other (a := ⟨g, k * 5 + 4, none⟩) (by dsimp only; omega) _
    have R8 : Hid (Bx W8 (w.heap.size + 1) [.int .i64 0, .slice none 0 0]) := by rw [Hid, hW8]; exact R7.out.other (a := ⟨g, k * 5 + 4, none⟩) (by dsimp only; have := HS.out; omega) _
    have hB8 : Below w.heap.size w W8 := by rw [hW8]; exact hB7.setCell (p := ⟨g, k * 5 + 4, none⟩) (by dsimp only; have := HS.out; omega) _
    have hz8 : W8.heap.size = w7.heap.size := by rw [hW8]; simp [World.setCell]
    have HZ8 := hid hz8
    have HV8 : Hid ((us.set k ((el us k).1, (el us k).2.1, (el us k).2.2.1, (el us k).2.2.2.1, (go, qc', r))).map valSub = (ts.map valSub).set k (nd, kap, dr, dp, r)) := by
      have h := el_val hku
      rw [HU.out, HE.out] at h
      simp only [valSub, Prod.mk.injEq] at h
      obtain ⟨h1, h2, h3, h4, _⟩ := h
      rw [Hid, map_set, HU.out, ← h1, ← h2, ← h3, ← h4]; rfl
    have HW8 := hid hW8
    clear hW8 hz8 D7 PB7 R7 hB7 c7 f7 P7 F7
    rw [← HW8.out]
    have p0 := P8.out.c 0 rfl
    have p1 := P8.out.c 1 rfl
    have r0 := R8.out.c 0 rfl
    have rf0 := R8.out.f 0 rfl
    have r1 := R8.out.c 1 rfl
    have rf1 := R8.out.f 1 rfl
    have rz := R8.out.size
    go_wp2
    refine bodyPost_ret (v := .tuple #[.agg #[.int .i64 sd, .slice (some ⟨g, 0, none⟩) ts.length ts.length], .int .i64 x, .int .i64 0]) (by simp [results, Try.results11, go_sem, r0, r1]) rfl ?_
    rw [HR.out]
    refine ⟨⟨(some ⟨g, 0, none⟩), ts.length, us.set k ((el us k).1, (el us k).2.1, (el us k).2.2.1, (el us k).2.2.2.1, (go, qc', r)), by simp, HV8.out, ?_⟩, (hB8.setCell (p := ⟨w.heap.size + 1, 0, none⟩) (by dsimp only; omega) _).setCell (p := ⟨w.heap.size + 1, 1, none⟩) (by dsimp only; omega) _⟩
    have hsv := HS.out
    exact DFr.wide dSub_ok (DFr.keep dSub_ok D8.out fun q h1 _ _ => by rw [Below.heap_setCell _ _ _ _ (by dsimp only; omega), Below.heap_setCell _ _ _ _ (by dsimp only; omega)]) (by omega) (by have := HZ8.out; simp [World.setCell]; omega)
end Go.Proofs.Ytimkadnnhfllnaa
