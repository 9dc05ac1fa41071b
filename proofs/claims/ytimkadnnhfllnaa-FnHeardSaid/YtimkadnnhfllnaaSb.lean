
/- Subscribe, the specification. No conditions but those written. -/
import Derived.Test.YtimkadnnhfllnaaSa
import Derived.Test.YtimkadnnhfllnaaTu
namespace Go.Proofs.Ytimkadnnhfllnaa
open Go.RowKit

set_option maxRecDepth 10000 in
set_option maxHeartbeats 16000000 in
theorem specSubs_any (sd : Int) (ao : Option Addr) (cap : Nat) (ts : List LSub) (id sz : Int) (dr : Bool) (w : World) (hl : ts.length ≤ 1048576) (hf : Fits ts) (hz : DIn dSub w.heap.size w ao ts) :
    Calls Try.prog 27 #[.agg #[.int .i64 sd, .slice ao ts.length cap], .int .i64 id, .int .i64 sz, .bool dr] w fun e w' => AnsS w (subR sd (ts.map valSub) id sz dr) e w' := by
  have HZ := hid hz
  have HF := hid hf
  clear hz hf
  obtain ⟨V, hV⟩ : ∃ V, V = (w.alloc (.cells #[.int .i64 sd, .slice ao ts.length cap] 25)).alloc (.cells #[.int .i64 0, .slice none 0 0] 25) := ⟨_, rfl⟩
  have hB0 : Below w.heap.size w V := by rw [hV]; exact below2 _ _ _
  have A0 : Hid (Bx V w.heap.size [.int .i64 sd, .slice ao ts.length cap]) := by rw [hV]; exact (Bx.new [.int .i64 sd, .slice ao ts.length cap] _ rfl).alloc _
  have R0 : Hid (Bx V (w.heap.size + 1) [.int .i64 0, .slice none 0 0]) := by rw [hV]; exact Bx.new [.int .i64 0, .slice none 0 0] _ (by simp)
  have HS : Hid (V.heap.size = w.heap.size + 1 + 1) := by rw [hV]; simp [Hid]
  have HV := hid hV
  have hlm : (ts.map valSub).length = ts.length := by simp
  have HLM := hid hlm
  clear hV hlm
  cases hg : topicB sd (ts.map valSub)
  · have HG := hid hg
    have HR : Hid (subR sd (ts.map valSub) id sz dr = (0, [], 1)) := by rw [Hid, subR, hg]; rfl
    clear hg
    go_enter Try.func27, Try.ntmps27
    go_wp2_with fail
    rw [← HV.out]
    refine (specGood_is sd ao cap ts V false hl HF.out (HZ.out.later dSub_ok hB0) HG.out).mono ?_
    rintro e w1 ⟨rfl, hb1⟩
    have hB1 := hB0.trans (hb1.mono hB0.size)
    have hV1 := hb1.size
    have A1 := hid (A0.out.later hb1)
    have R1 := hid (R0.out.later hb1)
    have a0 := A1.out.c 0 rfl
    have a1 := A1.out.c 1 rfl
    have r0 := R1.out.c 0 rfl
    have rf0 := R1.out.f 0 rfl
    have r1 := R1.out.c 1 rfl
    have rf1 := R1.out.f 1 rfl
    clear hb1 A0 R0
    have rz := R1.out.size
    go_wp2
    refine bodyPost_ret (v := .tuple #[.agg #[.int .i64 0, .slice none 0 0], .int .i64 1]) (by simp [results, Try.results27, go_sem, r0, r1]) rfl ?_
    rw [HR.out]
    exact ⟨⟨none, 0, [], rfl, rfl, DFr.nil _ _ _ _ _⟩, (hB1.setCell (p := ⟨w.heap.size + 1, 0, none⟩) (by dsimp only; omega) _).setCell (p := ⟨w.heap.size + 1, 1, none⟩) (by dsimp only; omega) _⟩
  have HG := hid hg
  clear hg
  cases hs : sizeB sz
  · have HSZ := hid hs
    have HR : Hid (subR sd (ts.map valSub) id sz dr = (0, [], 1)) := by rw [Hid, subR, HG.out, hs]; rfl
    clear hs
    go_enter Try.func27, Try.ntmps27
    go_wp2_with fail
    rw [← HV.out]
    refine (specGood_is sd ao cap ts V true hl HF.out (HZ.out.later dSub_ok hB0) HG.out).mono ?_
    rintro e w1 ⟨rfl, hb1⟩
    have hB1 := hB0.trans (hb1.mono hB0.size)
    have hV1 := hb1.size
    have A1 := hid (A0.out.later hb1)
    have R1 := hid (R0.out.later hb1)
    have a0 := A1.out.c 0 rfl
    have a1 := A1.out.c 1 rfl
    have r0 := R1.out.c 0 rfl
    have rf0 := R1.out.f 0 rfl
    have r1 := R1.out.c 1 rfl
    have rf1 := R1.out.f 1 rfl
    clear hb1 A0 R0
    go_wp2_with fail
    refine (l1In_is sz 1 20 w1 false HSZ.out).mono ?_
    rintro e ws ⟨rfl, hws⟩
    rw [hws]; clear hws ws
    have rz := R1.out.size
    go_wp2
    refine bodyPost_ret (v := .tuple #[.agg #[.int .i64 0, .slice none 0 0], .int .i64 1]) (by simp [results, Try.results27, go_sem, r0, r1]) rfl ?_
    rw [HR.out]
    exact ⟨⟨none, 0, [], rfl, rfl, DFr.nil _ _ _ _ _⟩, (hB1.setCell (p := ⟨w.heap.size + 1, 0, none⟩) (by dsimp only; omega) _).setCell (p := ⟨w.heap.size + 1, 1, none⟩) (by dsimp only; omega) _⟩
  have HSZ := hid hs
  clear hs
  cases ht : thB (ts.map valSub) id
  case true =>
    have HT : Hid (atI (ts.map valSub) id = (pl (ts.map valSub) id : Int)) := by rw [Hid, atI, ht]; rfl
    have HR : Hid (subR sd (ts.map valSub) id sz dr = (sd, ts.map valSub, 2)) := by rw [Hid, subR, HG.out, HSZ.out, ht]; rfl
    clear ht
    go_enter Try.func27, Try.ntmps27
    go_wp2_with fail
    rw [← HV.out]
    refine (specGood_is sd ao cap ts V true hl HF.out (HZ.out.later dSub_ok hB0) HG.out).mono ?_
    rintro e w1 ⟨rfl, hb1⟩
    have hB1 := hB0.trans (hb1.mono hB0.size)
    have hV1 := hb1.size
    have A1 := hid (A0.out.later hb1)
    have R1 := hid (R0.out.later hb1)
    have a0 := A1.out.c 0 rfl
    have a1 := A1.out.c 1 rfl
    have r0 := R1.out.c 0 rfl
    have rf0 := R1.out.f 0 rfl
    have r1 := R1.out.c 1 rfl
    have rf1 := R1.out.f 1 rfl
    clear hb1 A0 R0
    go_wp2_with fail
    refine (l1In_is sz 1 20 w1 true HSZ.out).mono ?_
    rintro e ws ⟨rfl, hws⟩
    rw [hws]; clear hws ws
    go_wp2_with fail
    refine (l9Own_st sd ao cap ts w1 hl HF.out (HZ.out.later dSub_ok hB1)).mono ?_
    rintro e w2 ⟨⟨o, c, us, rfl, hv2, hD2, hfo⟩, hb2⟩
    have HFO := hid hfo
    clear hfo
    rw [List.length_map]
    have HU := hid hv2
    have hul := len_val hv2
    have HUL := hid hul
    have A2 := hid (A1.out.later hb2)
    have R2 := hid (R1.out.later hb2)
    have hB2 := hB1.trans (hb2.mono hB1.size)
    have hV2 := Nat.le_trans hV1 hb2.size
    have hs12 : w1.heap.size ≤ w2.heap.size := hb2.size
    obtain ⟨w3, hw3⟩ : ∃ V, V = (w2.setCell ⟨w.heap.size, 0, none⟩ (.int .i64 sd)).setCell ⟨w.heap.size, 1, none⟩ (.slice o ts.length c) := ⟨_, rfl⟩
    have A3 : Hid (Bx w3 w.heap.size [.int .i64 sd, .slice o ts.length c]) := by rw [Hid, hw3]; exact (A2.out.set 0 _).set 1 _
    have R3 : Hid (Bx w3 (w.heap.size + 1) [.int .i64 0, .slice none 0 0]) := by rw [Hid, hw3]; exact (R2.out.other (a := ⟨w.heap.size, 0, none⟩) (by dsimp only; omega) _).other (a := ⟨w.heap.size, 1, none⟩) (by dsimp only; omega) _
    have D3 : Hid (DFr dSub w1.heap.size w2.heap.size w3 o c us) := by rw [Hid, hw3]; exact hD2.keep dSub_ok fun q h1 _ _ => by rw [Below.heap_setCell _ _ _ _ (by dsimp only; have := HS.out; omega), Below.heap_setCell _ _ _ _ (by dsimp only; have := HS.out; omega)]
    have hB3 : Below w.heap.size w w3 := by rw [hw3]; exact (hB2.setCell (p := ⟨w.heap.size, 0, none⟩) (by dsimp only; omega) _).setCell (p := ⟨w.heap.size, 1, none⟩) (by dsimp only; omega) _
    have hz3 : w3.heap.size = w2.heap.size := by rw [hw3]; simp [World.setCell]
    have HZ3 := hid hz3
    have HAt := hid (l9At_is sd o c us id w3 (by rw [hul]; exact hl) (by rw [hv2]; exact (topicB_good HG.out).2.2) (D3.out.in dSub_ok).1)
    rw [hul, hv2] at HAt
    have b0 := A2.out.c 0 rfl
    have bf0 := A2.out.f 0 rfl
    have b1 := A2.out.c 1 rfl
    have bf1 := A2.out.f 1 rfl
    have HW3 := hid hw3
    clear A1 R1 a0 a1 r0 rf0 r1 rf1 hv2 hD2 hul hb2 hB1 hw3 A2 R2 hB2 hz3
    go_wp2_with fail
    rw [← HW3.out]
    clear b0 bf0 b1 bf1
    refine HAt.out.mono ?_
    rintro e w4 ⟨rfl, hb4⟩
    have A4 := hid (A3.out.later hb4)
    have R4 := hid (R3.out.later hb4)
    have D4 := hid (D3.out.later dSub_ok hb4)
    have hB4 := hB3.trans (hb4.mono hB3.size)
    have hs4 : w2.heap.size ≤ w4.heap.size := by rw [← HZ3.out]; exact hb4.size
    clear hb4 A3 R3 D3 hB3 HAt
    rw [HT.out]
    have hge : decide ((0 : Int) ≤ (pl (ts.map valSub) id : Int)) = true := by simp
    have p0 := A4.out.c 0 rfl
    have p1 := A4.out.c 1 rfl
    have r0 := R4.out.c 0 rfl
    have rf0 := R4.out.f 0 rfl
    have r1 := R4.out.c 1 rfl
    have rf1 := R4.out.f 1 rfl
    have rz := R4.out.size
    go_wp2
    refine bodyPost_ret (v := .tuple #[.agg #[.int .i64 sd, .slice o ts.length c], .int .i64 2]) (by simp [results, Try.results27, go_sem, r0, r1]) rfl ?_
    rw [HR.out]
    refine ⟨⟨o, c, us, by rw [HLM.out], HU.out, ?_⟩, (hB4.setCell (p := ⟨w.heap.size + 1, 0, none⟩) (by dsimp only; omega) _).setCell (p := ⟨w.heap.size + 1, 1, none⟩) (by dsimp only; omega) _⟩
    have hsv := HS.out
    exact DFr.wide dSub_ok (DFr.keep dSub_ok D4.out fun q h1 _ _ => by rw [Below.heap_setCell _ _ _ _ (by dsimp only; omega), Below.heap_setCell _ _ _ _ (by dsimp only; omega)]) (by omega) (by simp [World.setCell]; omega)
  have HT : Hid (atI (ts.map valSub) id = -1) := by rw [Hid, atI, ht]; rfl
  have HTB := hid ht
  have hPL := (pl_is (ts.map valSub) id)
  have hkn : pl (ts.map valSub) id ≤ ts.length := by have := hPL.1; rw [HLM.out] at this; exact this
  obtain ⟨k, hk⟩ : ∃ k, k = pl (ts.map valSub) id := ⟨_, rfl⟩
  have HK := hid hk
  rw [← hk] at hkn hPL
  have HKN := hid hkn
  have HPL := hid hPL
  clear ht hk hkn hPL
  by_cases h10 : ts.length = 10
  · have HR : Hid (subR sd (ts.map valSub) id sz dr = (sd, ts.map valSub, 3)) := by rw [Hid, subR, HG.out, HSZ.out, HTB.out, HLM.out, h10]; rfl
    have h10' : ((ts.length : Int) == 10) = true := by simp; omega
    clear h10
    go_enter Try.func27, Try.ntmps27
    go_wp2_with fail
    rw [← HV.out]
    refine (specGood_is sd ao cap ts V true hl HF.out (HZ.out.later dSub_ok hB0) HG.out).mono ?_
    rintro e w1 ⟨rfl, hb1⟩
    have hB1 := hB0.trans (hb1.mono hB0.size)
    have hV1 := hb1.size
    have A1 := hid (A0.out.later hb1)
    have R1 := hid (R0.out.later hb1)
    have a0 := A1.out.c 0 rfl
    have a1 := A1.out.c 1 rfl
    have r0 := R1.out.c 0 rfl
    have rf0 := R1.out.f 0 rfl
    have r1 := R1.out.c 1 rfl
    have rf1 := R1.out.f 1 rfl
    clear hb1 A0 R0
    go_wp2_with fail
    refine (l1In_is sz 1 20 w1 true HSZ.out).mono ?_
    rintro e ws ⟨rfl, hws⟩
    rw [hws]; clear hws ws
    go_wp2_with fail
    refine (l9Own_st sd ao cap ts w1 hl HF.out (HZ.out.later dSub_ok hB1)).mono ?_
    rintro e w2 ⟨⟨o, c, us, rfl, hv2, hD2, hfo⟩, hb2⟩
    have HFO := hid hfo
    clear hfo
    rw [List.length_map]
    have HU := hid hv2
    have hul := len_val hv2
    have HUL := hid hul
    have A2 := hid (A1.out.later hb2)
    have R2 := hid (R1.out.later hb2)
    have hB2 := hB1.trans (hb2.mono hB1.size)
    have hV2 := Nat.le_trans hV1 hb2.size
    have hs12 : w1.heap.size ≤ w2.heap.size := hb2.size
    obtain ⟨w3, hw3⟩ : ∃ V, V = (w2.setCell ⟨w.heap.size, 0, none⟩ (.int .i64 sd)).setCell ⟨w.heap.size, 1, none⟩ (.slice o ts.length c) := ⟨_, rfl⟩
    have A3 : Hid (Bx w3 w.heap.size [.int .i64 sd, .slice o ts.length c]) := by rw [Hid, hw3]; exact (A2.out.set 0 _).set 1 _
    have R3 : Hid (Bx w3 (w.heap.size + 1) [.int .i64 0, .slice none 0 0]) := by rw [Hid, hw3]; exact (R2.out.other (a := ⟨w.heap.size, 0, none⟩) (by dsimp only; omega) _).other (a := ⟨w.heap.size, 1, none⟩) (by dsimp only; omega) _
    have D3 : Hid (DFr dSub w1.heap.size w2.heap.size w3 o c us) := by rw [Hid, hw3]; exact hD2.keep dSub_ok fun q h1 _ _ => by rw [Below.heap_setCell _ _ _ _ (by dsimp only; have := HS.out; omega), Below.heap_setCell _ _ _ _ (by dsimp only; have := HS.out; omega)]
    have hB3 : Below w.heap.size w w3 := by rw [hw3]; exact (hB2.setCell (p := ⟨w.heap.size, 0, none⟩) (by dsimp only; omega) _).setCell (p := ⟨w.heap.size, 1, none⟩) (by dsimp only; omega) _
    have hz3 : w3.heap.size = w2.heap.size := by rw [hw3]; simp [World.setCell]
    have HZ3 := hid hz3
    have HAt := hid (l9At_is sd o c us id w3 (by rw [hul]; exact hl) (by rw [hv2]; exact (topicB_good HG.out).2.2) (D3.out.in dSub_ok).1)
    rw [hul, hv2] at HAt
    have b0 := A2.out.c 0 rfl
    have bf0 := A2.out.f 0 rfl
    have b1 := A2.out.c 1 rfl
    have bf1 := A2.out.f 1 rfl
    have HW3 := hid hw3
    clear A1 R1 a0 a1 r0 rf0 r1 rf1 hv2 hD2 hul hb2 hB1 hw3 A2 R2 hB2 hz3
    go_wp2_with fail
    rw [← HW3.out]
    clear b0 bf0 b1 bf1
    refine HAt.out.mono ?_
    rintro e w4 ⟨rfl, hb4⟩
    have A4 := hid (A3.out.later hb4)
    have R4 := hid (R3.out.later hb4)
    have D4 := hid (D3.out.later dSub_ok hb4)
    have hB4 := hB3.trans (hb4.mono hB3.size)
    have hs4 : w2.heap.size ≤ w4.heap.size := by rw [← HZ3.out]; exact hb4.size
    clear hb4 A3 R3 D3 hB3 HAt
    rw [HT.out]
    have p0 := A4.out.c 0 rfl
    have p1 := A4.out.c 1 rfl
    have r0 := R4.out.c 0 rfl
    have rf0 := R4.out.f 0 rfl
    have r1 := R4.out.c 1 rfl
    have rf1 := R4.out.f 1 rfl
    have rz := R4.out.size
    go_wp2
    refine bodyPost_ret (v := .tuple #[.agg #[.int .i64 sd, .slice o ts.length c], .int .i64 3]) (by simp [results, Try.results27, go_sem, r0, r1]) rfl ?_
    rw [HR.out]
    refine ⟨⟨o, c, us, by rw [HLM.out], HU.out, ?_⟩, (hB4.setCell (p := ⟨w.heap.size + 1, 0, none⟩) (by dsimp only; omega) _).setCell (p := ⟨w.heap.size + 1, 1, none⟩) (by dsimp only; omega) _⟩
    have hsv := HS.out
    exact DFr.wide dSub_ok (DFr.keep dSub_ok D4.out fun q h1 _ _ => by rw [Below.heap_setCell _ _ _ _ (by dsimp only; omega), Below.heap_setCell _ _ _ _ (by dsimp only; omega)]) (by omega) (by simp [World.setCell]; omega)
  · have HR : Hid (subR sd (ts.map valSub) id sz dr = (sd, (ts.map valSub).take k ++ [((id, sz, dr, 0, []) : PSub)] ++ (ts.map valSub).drop k, 0)) := by rw [Hid, subR, HG.out, HSZ.out, HTB.out, HLM.out, ← HK.out]; simp [h10]
    have h10' : ((ts.length : Int) == 10) = false := by simp; omega
    have hlt10 : ts.length ≤ 10 := by have := (topicB_good HG.out).2.1; rw [HLM.out] at this; exact this
    clear h10
    go_enter Try.func27, Try.ntmps27
    go_wp2_with fail
    rw [← HV.out]
    refine (specGood_is sd ao cap ts V true hl HF.out (HZ.out.later dSub_ok hB0) HG.out).mono ?_
    rintro e w1 ⟨rfl, hb1⟩
    have hB1 := hB0.trans (hb1.mono hB0.size)
    have hV1 := hb1.size
    have A1 := hid (A0.out.later hb1)
    have R1 := hid (R0.out.later hb1)
    have a0 := A1.out.c 0 rfl
    have a1 := A1.out.c 1 rfl
    have r0 := R1.out.c 0 rfl
    have rf0 := R1.out.f 0 rfl
    have r1 := R1.out.c 1 rfl
    have rf1 := R1.out.f 1 rfl
    clear hb1 A0 R0
    go_wp2_with fail
    refine (l1In_is sz 1 20 w1 true HSZ.out).mono ?_
    rintro e ws ⟨rfl, hws⟩
    rw [hws]; clear hws ws
    go_wp2_with fail
    refine (l9Own_st sd ao cap ts w1 hl HF.out (HZ.out.later dSub_ok hB1)).mono ?_
    rintro e w2 ⟨⟨o, c, us, rfl, hv2, hD2, hfo⟩, hb2⟩
    have HFO := hid hfo
    clear hfo
    rw [List.length_map]
    have HU := hid hv2
    have hul := len_val hv2
    have HUL := hid hul
    have A2 := hid (A1.out.later hb2)
    have R2 := hid (R1.out.later hb2)
    have hB2 := hB1.trans (hb2.mono hB1.size)
    have hV2 := Nat.le_trans hV1 hb2.size
    have hs12 : w1.heap.size ≤ w2.heap.size := hb2.size
    obtain ⟨w3, hw3⟩ : ∃ V, V = (w2.setCell ⟨w.heap.size, 0, none⟩ (.int .i64 sd)).setCell ⟨w.heap.size, 1, none⟩ (.slice o ts.length c) := ⟨_, rfl⟩
    have A3 : Hid (Bx w3 w.heap.size [.int .i64 sd, .slice o ts.length c]) := by rw [Hid, hw3]; exact (A2.out.set 0 _).set 1 _
    have R3 : Hid (Bx w3 (w.heap.size + 1) [.int .i64 0, .slice none 0 0]) := by rw [Hid, hw3]; exact (R2.out.other (a := ⟨w.heap.size, 0, none⟩) (by dsimp only; omega) _).other (a := ⟨w.heap.size, 1, none⟩) (by dsimp only; omega) _
    have D3 : Hid (DFr dSub w1.heap.size w2.heap.size w3 o c us) := by rw [Hid, hw3]; exact hD2.keep dSub_ok fun q h1 _ _ => by rw [Below.heap_setCell _ _ _ _ (by dsimp only; have := HS.out; omega), Below.heap_setCell _ _ _ _ (by dsimp only; have := HS.out; omega)]
    have hB3 : Below w.heap.size w w3 := by rw [hw3]; exact (hB2.setCell (p := ⟨w.heap.size, 0, none⟩) (by dsimp only; omega) _).setCell (p := ⟨w.heap.size, 1, none⟩) (by dsimp only; omega) _
    have hz3 : w3.heap.size = w2.heap.size := by rw [hw3]; simp [World.setCell]
    have HZ3 := hid hz3
    have HAt := hid (l9At_is sd o c us id w3 (by rw [hul]; exact hl) (by rw [hv2]; exact (topicB_good HG.out).2.2) (D3.out.in dSub_ok).1)
    rw [hul, hv2] at HAt
    have b0 := A2.out.c 0 rfl
    have bf0 := A2.out.f 0 rfl
    have b1 := A2.out.c 1 rfl
    have bf1 := A2.out.f 1 rfl
    have HW3 := hid hw3
    clear A1 R1 a0 a1 r0 rf0 r1 rf1 hv2 hD2 hul hb2 hB1 hw3 A2 R2 hB2 hz3
    go_wp2_with fail
    rw [← HW3.out]
    clear b0 bf0 b1 bf1
    refine HAt.out.mono ?_
    rintro e w4 ⟨rfl, hb4⟩
    have A4 := hid (A3.out.later hb4)
    have R4 := hid (R3.out.later hb4)
    have D4 := hid (D3.out.later dSub_ok hb4)
    have hB4 := hB3.trans (hb4.mono hB3.size)
    have hs4 : w2.heap.size ≤ w4.heap.size := by rw [← HZ3.out]; exact hb4.size
    clear hb4 A3 R3 D3 hB3 HAt
    rw [HT.out]
    rcases HFO.out with hfo | hfo
    · obtain ⟨rfl, rfl⟩ := hfo
      have hu0 : us = [] := by
        rcases (show hSub.Fresh _ _ _ _ _ _ from D4.out.1) with h | ⟨g, e, _⟩
        · exact h
        · cases e
      have hn0 : ts.length = 0 := by rw [← HUL.out, hu0]; rfl
      have hk0' : k = 0 := by have := HKN.out; omega
      have HN0 := hid hn0
      have IT : Hid (hSub.In w4.heap.size w4 none (us.take k)) := .inl (by rw [hu0]; simp)
      have ID : Hid (hSub.In w4.heap.size w4 none (us.drop k)) := .inl (by rw [hu0]; simp)
      have HCELL : Hid (∀ j, j < ts.length → True) := fun _ _ => trivial
      have hkc : (k : Int) ≤ 0 := by omega
      clear hu0 hn0 hk0'
      have a0 := A4.out.c 0 rfl
      have a1 := A4.out.c 1 rfl
      go_wp2
      go_loop [10] (fun i => ∃ j : Nat, j ≤ k ∧ i = .int .i64 j) (fun i => k - (intOf i).toNat)
      case atStart => exact ⟨0, Nat.zero_le _, rfl⟩
      case round =>
        obtain ⟨j, hj, rfl⟩ := hrel
        have hn0 := HN0.out
        have hkn := HKN.out
        have hjn : decide ((j : Int) < (ts.length : Int)) = false := by simp; omega
        have hjm : decide (j < ts.length) = false := by simp; omega
        obtain rfl : k = j := by omega
        clear hn0 hkn
        have hB0s : w.heap.size < w4.heap.size := A4.out.size
        have hll1 : ([] : List LSub).length + (us.take k).length ≤ 4194304 := by simp; omega
        have hkl : (us.take k).length = k := by rw [List.length_take, HUL.out]; have := HKN.out; omega
        have hlI : (us.take k ++ [((id, sz, dr, 0, (none, 0, [])) : LSub)] ++ us.drop k).length = ts.length + 1 := by simp [HUL.out]; have := HKN.out; omega
        have hk0 : (0 : Int) ≤ (k : Int) := by omega
        have hkt : (k : Int) ≤ (ts.length : Int) := by have := HKN.out; omega
        have HKL := hid hkl
        have HLI := hid hlI
        have hdl : (us.drop k).length = ts.length - k := by rw [List.length_drop, HUL.out]
        have HDL := hid hdl
        clear hkl hlI hdl
        go_upto_region 15 with (first
          | (at_builtin; have _z := O6; refine Kind.app2 hSub_ok w6 rfl (.tmp 63) (.tmp 67) rfl w4.heap.size v2 (us.take k ++ [((id, sz, dr, 0, (none, 0, [])) : LSub)]) rfl O6.out hs6 _ (us.drop k) _ _ rfl HDL.out _ ID6.out (by rw [HDL.out]; simp [HKL.out]; omega) ?_; intro v3 w7 hO7 hb7 hG7 hn7; have B7 := hid (B6.out.trans hb7); obtain ⟨go, qc, hv, _, hF7⟩ := Kind.Own.fresh (xs := (us.take k ++ [((id, sz, dr, 0, (none, 0, [])) : LSub)] ++ us.drop k)) hO7; rw [HLI.out] at hv; subst hv; have F7 := hid hF7; have A7 := hid (A4.out.later B7.out); have a70 := A7.out.c 0 rfl; have a71 := A7.out.c 1 rfl; have af71 := A7.out.f 1 rfl; clear hO7 hG7 hn7 hb7 a60 a61 O6 ID6 B6)
          | (at_builtin; have _z := O5; refine Kind.app hSub_ok (w5.alloc (.cells #[.int .i64 id, .int .i64 sz, .bool dr, .int .i64 0, .slice none 0 0] 36)) rfl (.tmp 56) (.tmp 61) rfl w4.heap.size v1 (us.take k) rfl O5.out (by simp; omega) (some ⟨w5.heap.size, 0, none⟩) [((id, sz, dr, 0, (none, 0, [])) : LSub)] 1 1 rfl rfl (by simp) _ N5.out (by rw [HKL.out]; simp; omega) ?_; intro v2 w6 hO6 hb6 hG6 hn6; have B6 := hid (B5.out.trans hb6); have O6 := hid hO6; have A6 := A4.out.later B6.out; have a60 := A6.c 0 rfl; have a61 := A6.c 1 rfl; have ID6 := hid (ID.out.below B6.out); have hs6 : w4.heap.size ≤ w6.heap.size := B6.out.size; clear hO6 hG6 hn6 hb6 A6 O5 N5 B5)
          | (at_builtin; (fail_if_success (have _g := hs5)); refine Kind.app2 hSub_ok w4 rfl (.tmp 50) (.tmp 54) rfl w4.heap.size (.slice none 0 0) [] rfl (Kind.Own.nil _ _ _) (Nat.le_refl _) _ (us.take k) _ _ rfl HKL.out _ IT.out hll1 ?_; intro v1 w5 hO5 hb5 hG5 hn5; have O5 : Hid (hSub.Own w4.heap.size (w5.alloc (.cells #[.int .i64 id, .int .i64 sz, .bool dr, .int .i64 0, .slice none 0 0] 36)) v1 (us.take k)) := (Kind.Own.below (xs := us.take k) hO5 (below1 w5 (.cells #[.int .i64 id, .int .i64 sz, .bool dr, .int .i64 0, .slice none 0 0] 36))); have B5 := hid (hb5.trans ((below1 w5 (.cells #[.int .i64 id, .int .i64 sz, .bool dr, .int .i64 0, .slice none 0 0] 36)).mono hb5.size)); have hs5 := hb5.size; have N5 : Hid (hSub.In (w5.heap.size + 1) (w5.alloc (.cells #[.int .i64 id, .int .i64 sz, .bool dr, .int .i64 0, .slice none 0 0] 36)) (some ⟨w5.heap.size, 0, none⟩) [((id, sz, dr, 0, (none, 0, [])) : LSub)]) := hSub_one (by omega) (Bx.new _ _ rfl); clear hO5 hG5 hn5 hb5))
        obtain ⟨w8, hw8⟩ : ∃ V, V = w7.setCell ⟨w.heap.size, 1, none⟩ (.slice go (ts.length + 1) qc) := ⟨_, rfl⟩
        have R7 := hid (R4.out.later B7.out)
        have D7 := hid (D4.out.later dSub_ok B7.out)
        have P8 : Hid (Bx w8 w.heap.size [.int .i64 sd, .slice go (ts.length + 1) qc]) := by rw [Hid, hw8]; exact A7.out.set 1 _
        have R8 : Hid (Bx w8 (w.heap.size + 1) [.int .i64 0, .slice none 0 0]) := by rw [Hid, hw8]; exact R7.out.other (a := ⟨w.heap.size, 1, none⟩) (by dsimp only; omega) _
        have D8 : Hid (DFr dSub w1.heap.size w2.heap.size w8 none 0 us) := by rw [Hid, hw8]; exact D7.out.keep dSub_ok fun q h1 _ _ => Below.heap_setCell _ _ _ _ (by dsimp only; have := HS.out; omega)
        have F8 : Hid (hSub.Fresh w4.heap.size w7.heap.size w8 go qc (us.take k ++ [((id, sz, dr, 0, (none, 0, [])) : LSub)] ++ us.drop k)) := by rw [Hid, hw8]; exact F7.out.setBelow (a := ⟨w.heap.size, 1, none⟩) hB0s _
        have hB8 : Below w.heap.size w w8 := by rw [hw8]; exact (hB4.trans (B7.out.mono hB4.size)).setCell (p := ⟨w.heap.size, 1, none⟩) (by dsimp only; omega) _
        have hs7 : w4.heap.size ≤ w7.heap.size := B7.out.size
        have hz8 : w8.heap.size = w7.heap.size := by rw [hw8]; simp [World.setCell]
        have HZ8 := hid hz8
        have E8 := hid (ins_fr D8.out (by rw [HUL.out]; exact HKN.out) (F8.out.wide (by omega) (Nat.le_refl _)) (by omega))
        have HV8 := hid (map_ins (id := id) (sz := sz) (dr := dr) (k := k) HU.out)
        have HW8 := hid hw8
        clear hw8 hz8 a70 a71 af71 A7 R7 D7 F7 D8 F8
        rw [← HW8.out]
        have p0 := P8.out.c 0 rfl
        have p1 := P8.out.c 1 rfl
        have r0 := R8.out.c 0 rfl
        have rf0 := R8.out.f 0 rfl
        have r1 := R8.out.c 1 rfl
        have rf1 := R8.out.f 1 rfl
        have rz := R8.out.size
        go_wp2
        refine bodyPost_ret (v := .tuple #[.agg #[.int .i64 sd, .slice go (ts.length + 1) qc], .int .i64 0]) (by simp [results, Try.results27, go_sem, r0, r1]) rfl ?_
        rw [HR.out]
        refine ⟨⟨go, qc, (us.take k ++ [((id, sz, dr, 0, (none, 0, [])) : LSub)] ++ us.drop k), ?_, HV8.out, ?_⟩, (hB8.setCell (p := ⟨w.heap.size + 1, 0, none⟩) (by dsimp only; omega) _).setCell (p := ⟨w.heap.size + 1, 1, none⟩) (by dsimp only; omega) _⟩
        · have := HKN.out
          have e : ((ts.map valSub).take k ++ [((id, sz, dr, 0, []) : PSub)] ++ (ts.map valSub).drop k).length = ts.length + 1 := by simp; omega
          rw [e]
        have hsv := HS.out
        have hzv := HZ8.out
        exact DFr.wide dSub_ok (DFr.keep dSub_ok E8.out fun q h1 _ _ => by rw [Below.heap_setCell _ _ _ _ (by dsimp only; omega), Below.heap_setCell _ _ _ _ (by dsimp only; omega)]) (by omega) (by simp [World.setCell]; omega)

    · obtain ⟨g, rfl⟩ := hfo
      have hcap := (show hSub.Fresh _ _ _ _ _ _ from D4.out.1).cap
      rw [HUL.out] at hcap
      have IN := (show hSub.Fresh _ _ _ _ _ _ from D4.out.1).in
      have IT : Hid (hSub.In w4.heap.size w4 (some ⟨g, 0, none⟩) (us.take k)) := IN.take k
      have IDe : Hid (hSub.In w4.heap.size w4 (some ⟨g, k * 5, none⟩) (us.drop k)) := by
        have h := IN.drop k
        rw [Nat.zero_add] at h
        exact h
      have IDn : Hid (c = k → hSub.In w4.heap.size w4 (some ⟨g, 0, none⟩) (us.drop k)) := fun h => .inl (List.drop_eq_nil_of_le (by rw [HUL.out]; omega))
      have HCELL : Hid (∀ j, j < ts.length → w4.cell? ⟨g, j * 5, none⟩ = some (.int .i64 (el us j).1)) := fun j hj => (hd_at D4.out (by rw [HUL.out]; exact hj)).1.1
      have hkc : (k : Int) ≤ (c : Int) := by have := HKN.out; omega
      clear IN
      have a0 := A4.out.c 0 rfl
      have a1 := A4.out.c 1 rfl
      go_wp2
      go_loop [10] (fun i => ∃ j : Nat, j ≤ k ∧ i = .int .i64 j) (fun i => k - (intOf i).toNat)
      case atStart => exact ⟨0, Nat.zero_le _, rfl⟩
      case round =>
        obtain ⟨j, hj, rfl⟩ := hrel
        have hkn := HKN.out
        have hj0 : (0 : Int) ≤ (j : Int) := by omega
        rcases Nat.lt_or_ge j k with hjk | hjk
        · have hjt : j < ts.length := by omega
          have hjn : decide ((j : Int) < (ts.length : Int)) = true := by simp; omega
          have hji : (j : Int) < (ts.length : Int) := by omega
          have hcell := HCELL.out j hjt
          obtain ⟨zd, hzd⟩ : ∃ z, z = (el us j).1 := ⟨_, rfl⟩
          rw [← hzd] at hcell
          have hlt : decide (zd < id) = true := by
            have h := HPL.out.2.1 j hjk
            rw [← HU.out, el_val (by rw [HUL.out]; exact hjt)] at h
            simp only [decide_eq_true_eq]; rw [hzd]; exact h
          clear hzd
          go_wp2
          go_round
          case rel => exact ⟨j + 1, by omega, by go_num⟩
          case measure => simp [intOf]; omega
        · obtain rfl : k = j := by omega
          by_cases hjt : k < ts.length
          · have hjn : decide ((k : Int) < (ts.length : Int)) = true := by simp; omega
            have hji : (k : Int) < (ts.length : Int) := by omega
            have hcell := HCELL.out k hjt
            obtain ⟨zd, hzd⟩ : ∃ z, z = (el us k).1 := ⟨_, rfl⟩
            rw [← hzd] at hcell
            have hlt : decide (zd < id) = false := by
              have h := HPL.out.2.2 (by rw [HLM.out]; exact hjt)
              rw [← HU.out, el_val (by rw [HUL.out]; exact hjt)] at h
              have h2 : id ≤ (el us k).1 := h
              simp; omega
            clear hzd
            have hck : ¬ (c = k) := by have := HKN.out; omega
            have ID := hid IDe.out
            clear IDn IDe
            have hB0s : w.heap.size < w4.heap.size := A4.out.size
            have hll1 : ([] : List LSub).length + (us.take k).length ≤ 4194304 := by simp; omega
            have hkl : (us.take k).length = k := by rw [List.length_take, HUL.out]; have := HKN.out; omega
            have hlI : (us.take k ++ [((id, sz, dr, 0, (none, 0, [])) : LSub)] ++ us.drop k).length = ts.length + 1 := by simp [HUL.out]; have := HKN.out; omega
            have hk0 : (0 : Int) ≤ (k : Int) := by omega
            have hkt : (k : Int) ≤ (ts.length : Int) := by have := HKN.out; omega
            have HKL := hid hkl
            have HLI := hid hlI
            have hdl : (us.drop k).length = ts.length - k := by rw [List.length_drop, HUL.out]
            have HDL := hid hdl
            clear hkl hlI hdl
            go_upto_region 15 with (first
              | (at_builtin; have _z := O6; refine Kind.app2 hSub_ok w6 rfl (.tmp 63) (.tmp 67) rfl w4.heap.size v2 (us.take k ++ [((id, sz, dr, 0, (none, 0, [])) : LSub)]) rfl O6.out hs6 _ (us.drop k) _ _ rfl HDL.out _ ID6.out (by rw [HDL.out]; simp [HKL.out]; omega) ?_; intro v3 w7 hO7 hb7 hG7 hn7; have B7 := hid (B6.out.trans hb7); obtain ⟨go, qc, hv, _, hF7⟩ := Kind.Own.fresh (xs := (us.take k ++ [((id, sz, dr, 0, (none, 0, [])) : LSub)] ++ us.drop k)) hO7; rw [HLI.out] at hv; subst hv; have F7 := hid hF7; have A7 := hid (A4.out.later B7.out); have a70 := A7.out.c 0 rfl; have a71 := A7.out.c 1 rfl; have af71 := A7.out.f 1 rfl; clear hO7 hG7 hn7 hb7 a60 a61 O6 ID6 B6)
              | (at_builtin; have _z := O5; refine Kind.app hSub_ok (w5.alloc (.cells #[.int .i64 id, .int .i64 sz, .bool dr, .int .i64 0, .slice none 0 0] 36)) rfl (.tmp 56) (.tmp 61) rfl w4.heap.size v1 (us.take k) rfl O5.out (by simp; omega) (some ⟨w5.heap.size, 0, none⟩) [((id, sz, dr, 0, (none, 0, [])) : LSub)] 1 1 rfl rfl (by simp) _ N5.out (by rw [HKL.out]; simp; omega) ?_; intro v2 w6 hO6 hb6 hG6 hn6; have B6 := hid (B5.out.trans hb6); have O6 := hid hO6; have A6 := A4.out.later B6.out; have a60 := A6.c 0 rfl; have a61 := A6.c 1 rfl; have ID6 := hid (ID.out.below B6.out); have hs6 : w4.heap.size ≤ w6.heap.size := B6.out.size; clear hO6 hG6 hn6 hb6 A6 O5 N5 B5)
              | (at_builtin; (fail_if_success (have _g := hs5)); refine Kind.app2 hSub_ok w4 rfl (.tmp 50) (.tmp 54) rfl w4.heap.size (.slice none 0 0) [] rfl (Kind.Own.nil _ _ _) (Nat.le_refl _) _ (us.take k) _ _ rfl HKL.out _ IT.out hll1 ?_; intro v1 w5 hO5 hb5 hG5 hn5; have O5 : Hid (hSub.Own w4.heap.size (w5.alloc (.cells #[.int .i64 id, .int .i64 sz, .bool dr, .int .i64 0, .slice none 0 0] 36)) v1 (us.take k)) := (Kind.Own.below (xs := us.take k) hO5 (below1 w5 (.cells #[.int .i64 id, .int .i64 sz, .bool dr, .int .i64 0, .slice none 0 0] 36))); have B5 := hid (hb5.trans ((below1 w5 (.cells #[.int .i64 id, .int .i64 sz, .bool dr, .int .i64 0, .slice none 0 0] 36)).mono hb5.size)); have hs5 := hb5.size; have N5 : Hid (hSub.In (w5.heap.size + 1) (w5.alloc (.cells #[.int .i64 id, .int .i64 sz, .bool dr, .int .i64 0, .slice none 0 0] 36)) (some ⟨w5.heap.size, 0, none⟩) [((id, sz, dr, 0, (none, 0, [])) : LSub)]) := hSub_one (by omega) (Bx.new _ _ rfl); clear hO5 hG5 hn5 hb5))
            all_goals
              obtain ⟨w8, hw8⟩ : ∃ V, V = w7.setCell ⟨w.heap.size, 1, none⟩ (.slice go (ts.length + 1) qc) := ⟨_, rfl⟩
              have R7 := hid (R4.out.later B7.out)
              have D7 := hid (D4.out.later dSub_ok B7.out)
              have P8 : Hid (Bx w8 w.heap.size [.int .i64 sd, .slice go (ts.length + 1) qc]) := by rw [Hid, hw8]; exact A7.out.set 1 _
              have R8 : Hid (Bx w8 (w.heap.size + 1) [.int .i64 0, .slice none 0 0]) := by rw [Hid, hw8]; exact R7.out.other (a := ⟨w.heap.size, 1, none⟩) (by dsimp only; omega) _
              have D8 : Hid (DFr dSub w1.heap.size w2.heap.size w8 (some ⟨g, 0, none⟩) c us) := by rw [Hid, hw8]; exact D7.out.keep dSub_ok fun q h1 _ _ => Below.heap_setCell _ _ _ _ (by dsimp only; have := HS.out; omega)
              have F8 : Hid (hSub.Fresh w4.heap.size w7.heap.size w8 go qc (us.take k ++ [((id, sz, dr, 0, (none, 0, [])) : LSub)] ++ us.drop k)) := by rw [Hid, hw8]; exact F7.out.setBelow (a := ⟨w.heap.size, 1, none⟩) hB0s _
              have hB8 : Below w.heap.size w w8 := by rw [hw8]; exact (hB4.trans (B7.out.mono hB4.size)).setCell (p := ⟨w.heap.size, 1, none⟩) (by dsimp only; omega) _
              have hs7 : w4.heap.size ≤ w7.heap.size := B7.out.size
              have hz8 : w8.heap.size = w7.heap.size := by rw [hw8]; simp [World.setCell]
              have HZ8 := hid hz8
              have E8 := hid (ins_fr D8.out (by rw [HUL.out]; exact HKN.out) (F8.out.wide (by omega) (Nat.le_refl _)) (by omega))
              have HV8 := hid (map_ins (id := id) (sz := sz) (dr := dr) (k := k) HU.out)
              have HW8 := hid hw8
              clear hw8 hz8 a70 a71 af71 A7 R7 D7 F7 D8 F8
              rw [← HW8.out]
              have p0 := P8.out.c 0 rfl
              have p1 := P8.out.c 1 rfl
              have r0 := R8.out.c 0 rfl
              have rf0 := R8.out.f 0 rfl
              have r1 := R8.out.c 1 rfl
              have rf1 := R8.out.f 1 rfl
              have rz := R8.out.size
              go_wp2
              refine bodyPost_ret (v := .tuple #[.agg #[.int .i64 sd, .slice go (ts.length + 1) qc], .int .i64 0]) (by simp [results, Try.results27, go_sem, r0, r1]) rfl ?_
              rw [HR.out]
              refine ⟨⟨go, qc, (us.take k ++ [((id, sz, dr, 0, (none, 0, [])) : LSub)] ++ us.drop k), ?_, HV8.out, ?_⟩, (hB8.setCell (p := ⟨w.heap.size + 1, 0, none⟩) (by dsimp only; omega) _).setCell (p := ⟨w.heap.size + 1, 1, none⟩) (by dsimp only; omega) _⟩
              · have := HKN.out
                have e : ((ts.map valSub).take k ++ [((id, sz, dr, 0, []) : PSub)] ++ (ts.map valSub).drop k).length = ts.length + 1 := by simp; omega
                rw [e]
              have hsv := HS.out
              have hzv := HZ8.out
              exact DFr.wide dSub_ok (DFr.keep dSub_ok E8.out fun q h1 _ _ => by rw [Below.heap_setCell _ _ _ _ (by dsimp only; omega), Below.heap_setCell _ _ _ _ (by dsimp only; omega)]) (by omega) (by simp [World.setCell]; omega)

          · have hjn : decide ((k : Int) < (ts.length : Int)) = false := by simp; omega
            have hjm : decide (k < ts.length) = false := by simp; omega
            by_cases hck : c = k
            · have ID := hid (IDn.out hck)
              clear IDn IDe
              have hB0s : w.heap.size < w4.heap.size := A4.out.size
              have hll1 : ([] : List LSub).length + (us.take k).length ≤ 4194304 := by simp; omega
              have hkl : (us.take k).length = k := by rw [List.length_take, HUL.out]; have := HKN.out; omega
              have hlI : (us.take k ++ [((id, sz, dr, 0, (none, 0, [])) : LSub)] ++ us.drop k).length = ts.length + 1 := by simp [HUL.out]; have := HKN.out; omega
              have hk0 : (0 : Int) ≤ (k : Int) := by omega
              have hkt : (k : Int) ≤ (ts.length : Int) := by have := HKN.out; omega
              have HKL := hid hkl
              have HLI := hid hlI
              have hdl : (us.drop k).length = ts.length - k := by rw [List.length_drop, HUL.out]
              have HDL := hid hdl
              clear hkl hlI hdl
              go_upto_region 15 with (first
                | (at_builtin; have _z := O6; refine Kind.app2 hSub_ok w6 rfl (.tmp 63) (.tmp 67) rfl w4.heap.size v2 (us.take k ++ [((id, sz, dr, 0, (none, 0, [])) : LSub)]) rfl O6.out hs6 _ (us.drop k) _ _ rfl HDL.out _ ID6.out (by rw [HDL.out]; simp [HKL.out]; omega) ?_; intro v3 w7 hO7 hb7 hG7 hn7; have B7 := hid (B6.out.trans hb7); obtain ⟨go, qc, hv, _, hF7⟩ := Kind.Own.fresh (xs := (us.take k ++ [((id, sz, dr, 0, (none, 0, [])) : LSub)] ++ us.drop k)) hO7; rw [HLI.out] at hv; subst hv; have F7 := hid hF7; have A7 := hid (A4.out.later B7.out); have a70 := A7.out.c 0 rfl; have a71 := A7.out.c 1 rfl; have af71 := A7.out.f 1 rfl; clear hO7 hG7 hn7 hb7 a60 a61 O6 ID6 B6)
                | (at_builtin; have _z := O5; refine Kind.app hSub_ok (w5.alloc (.cells #[.int .i64 id, .int .i64 sz, .bool dr, .int .i64 0, .slice none 0 0] 36)) rfl (.tmp 56) (.tmp 61) rfl w4.heap.size v1 (us.take k) rfl O5.out (by simp; omega) (some ⟨w5.heap.size, 0, none⟩) [((id, sz, dr, 0, (none, 0, [])) : LSub)] 1 1 rfl rfl (by simp) _ N5.out (by rw [HKL.out]; simp; omega) ?_; intro v2 w6 hO6 hb6 hG6 hn6; have B6 := hid (B5.out.trans hb6); have O6 := hid hO6; have A6 := A4.out.later B6.out; have a60 := A6.c 0 rfl; have a61 := A6.c 1 rfl; have ID6 := hid (ID.out.below B6.out); have hs6 : w4.heap.size ≤ w6.heap.size := B6.out.size; clear hO6 hG6 hn6 hb6 A6 O5 N5 B5)
                | (at_builtin; (fail_if_success (have _g := hs5)); refine Kind.app2 hSub_ok w4 rfl (.tmp 50) (.tmp 54) rfl w4.heap.size (.slice none 0 0) [] rfl (Kind.Own.nil _ _ _) (Nat.le_refl _) _ (us.take k) _ _ rfl HKL.out _ IT.out hll1 ?_; intro v1 w5 hO5 hb5 hG5 hn5; have O5 : Hid (hSub.Own w4.heap.size (w5.alloc (.cells #[.int .i64 id, .int .i64 sz, .bool dr, .int .i64 0, .slice none 0 0] 36)) v1 (us.take k)) := (Kind.Own.below (xs := us.take k) hO5 (below1 w5 (.cells #[.int .i64 id, .int .i64 sz, .bool dr, .int .i64 0, .slice none 0 0] 36))); have B5 := hid (hb5.trans ((below1 w5 (.cells #[.int .i64 id, .int .i64 sz, .bool dr, .int .i64 0, .slice none 0 0] 36)).mono hb5.size)); have hs5 := hb5.size; have N5 : Hid (hSub.In (w5.heap.size + 1) (w5.alloc (.cells #[.int .i64 id, .int .i64 sz, .bool dr, .int .i64 0, .slice none 0 0] 36)) (some ⟨w5.heap.size, 0, none⟩) [((id, sz, dr, 0, (none, 0, [])) : LSub)]) := hSub_one (by omega) (Bx.new _ _ rfl); clear hO5 hG5 hn5 hb5))
              all_goals
                obtain ⟨w8, hw8⟩ : ∃ V, V = w7.setCell ⟨w.heap.size, 1, none⟩ (.slice go (ts.length + 1) qc) := ⟨_, rfl⟩
                have R7 := hid (R4.out.later B7.out)
                have D7 := hid (D4.out.later dSub_ok B7.out)
                have P8 : Hid (Bx w8 w.heap.size [.int .i64 sd, .slice go (ts.length + 1) qc]) := by rw [Hid, hw8]; exact A7.out.set 1 _
                have R8 : Hid (Bx w8 (w.heap.size + 1) [.int .i64 0, .slice none 0 0]) := by rw [Hid, hw8]; exact R7.out.other (a := ⟨w.heap.size, 1, none⟩) (by dsimp only; omega) _
                have D8 : Hid (DFr dSub w1.heap.size w2.heap.size w8 (some ⟨g, 0, none⟩) c us) := by rw [Hid, hw8]; exact D7.out.keep dSub_ok fun q h1 _ _ => Below.heap_setCell _ _ _ _ (by dsimp only; have := HS.out; omega)
                have F8 : Hid (hSub.Fresh w4.heap.size w7.heap.size w8 go qc (us.take k ++ [((id, sz, dr, 0, (none, 0, [])) : LSub)] ++ us.drop k)) := by rw [Hid, hw8]; exact F7.out.setBelow (a := ⟨w.heap.size, 1, none⟩) hB0s _
                have hB8 : Below w.heap.size w w8 := by rw [hw8]; exact (hB4.trans (B7.out.mono hB4.size)).setCell (p := ⟨w.heap.size, 1, none⟩) (by dsimp only; omega) _
                have hs7 : w4.heap.size ≤ w7.heap.size := B7.out.size
                have hz8 : w8.heap.size = w7.heap.size := by rw [hw8]; simp [World.setCell]
                have HZ8 := hid hz8
                have E8 := hid (ins_fr D8.out (by rw [HUL.out]; exact HKN.out) (F8.out.wide (by omega) (Nat.le_refl _)) (by omega))
                have HV8 := hid (map_ins (id := id) (sz := sz) (dr := dr) (k := k) HU.out)
                have HW8 := hid hw8
                clear hw8 hz8 a70 a71 af71 A7 R7 D7 F7 D8 F8
                rw [← HW8.out]
                have p0 := P8.out.c 0 rfl
                have p1 := P8.out.c 1 rfl
                have r0 := R8.out.c 0 rfl
                have rf0 := R8.out.f 0 rfl
                have r1 := R8.out.c 1 rfl
                have rf1 := R8.out.f 1 rfl
                have rz := R8.out.size
                go_wp2
                refine bodyPost_ret (v := .tuple #[.agg #[.int .i64 sd, .slice go (ts.length + 1) qc], .int .i64 0]) (by simp [results, Try.results27, go_sem, r0, r1]) rfl ?_
                rw [HR.out]
                refine ⟨⟨go, qc, (us.take k ++ [((id, sz, dr, 0, (none, 0, [])) : LSub)] ++ us.drop k), ?_, HV8.out, ?_⟩, (hB8.setCell (p := ⟨w.heap.size + 1, 0, none⟩) (by dsimp only; omega) _).setCell (p := ⟨w.heap.size + 1, 1, none⟩) (by dsimp only; omega) _⟩
                · have := HKN.out
                  have e : ((ts.map valSub).take k ++ [((id, sz, dr, 0, []) : PSub)] ++ (ts.map valSub).drop k).length = ts.length + 1 := by simp; omega
                  rw [e]
                have hsv := HS.out
                have hzv := HZ8.out
                exact DFr.wide dSub_ok (DFr.keep dSub_ok E8.out fun q h1 _ _ => by rw [Below.heap_setCell _ _ _ _ (by dsimp only; omega), Below.heap_setCell _ _ _ _ (by dsimp only; omega)]) (by omega) (by simp [World.setCell]; omega)

            · have ID := hid IDe.out
              clear IDn IDe
              have hB0s : w.heap.size < w4.heap.size := A4.out.size
              have hll1 : ([] : List LSub).length + (us.take k).length ≤ 4194304 := by simp; omega
              have hkl : (us.take k).length = k := by rw [List.length_take, HUL.out]; have := HKN.out; omega
              have hlI : (us.take k ++ [((id, sz, dr, 0, (none, 0, [])) : LSub)] ++ us.drop k).length = ts.length + 1 := by simp [HUL.out]; have := HKN.out; omega
              have hk0 : (0 : Int) ≤ (k : Int) := by omega
              have hkt : (k : Int) ≤ (ts.length : Int) := by have := HKN.out; omega
              have HKL := hid hkl
              have HLI := hid hlI
              have hdl : (us.drop k).length = ts.length - k := by rw [List.length_drop, HUL.out]
              have HDL := hid hdl
              clear hkl hlI hdl
              go_upto_region 15 with (first
                | (at_builtin; have _z := O6; refine Kind.app2 hSub_ok w6 rfl (.tmp 63) (.tmp 67) rfl w4.heap.size v2 (us.take k ++ [((id, sz, dr, 0, (none, 0, [])) : LSub)]) rfl O6.out hs6 _ (us.drop k) _ _ rfl HDL.out _ ID6.out (by rw [HDL.out]; simp [HKL.out]; omega) ?_; intro v3 w7 hO7 hb7 hG7 hn7; have B7 := hid (B6.out.trans hb7); obtain ⟨go, qc, hv, _, hF7⟩ := Kind.Own.fresh (xs := (us.take k ++ [((id, sz, dr, 0, (none, 0, [])) : LSub)] ++ us.drop k)) hO7; rw [HLI.out] at hv; subst hv; have F7 := hid hF7; have A7 := hid (A4.out.later B7.out); have a70 := A7.out.c 0 rfl; have a71 := A7.out.c 1 rfl; have af71 := A7.out.f 1 rfl; clear hO7 hG7 hn7 hb7 a60 a61 O6 ID6 B6)
                | (at_builtin; have _z := O5; refine Kind.app hSub_ok (w5.alloc (.cells #[.int .i64 id, .int .i64 sz, .bool dr, .int .i64 0, .slice none 0 0] 36)) rfl (.tmp 56) (.tmp 61) rfl w4.heap.size v1 (us.take k) rfl O5.out (by simp; omega) (some ⟨w5.heap.size, 0, none⟩) [((id, sz, dr, 0, (none, 0, [])) : LSub)] 1 1 rfl rfl (by simp) _ N5.out (by rw [HKL.out]; simp; omega) ?_; intro v2 w6 hO6 hb6 hG6 hn6; have B6 := hid (B5.out.trans hb6); have O6 := hid hO6; have A6 := A4.out.later B6.out; have a60 := A6.c 0 rfl; have a61 := A6.c 1 rfl; have ID6 := hid (ID.out.below B6.out); have hs6 : w4.heap.size ≤ w6.heap.size := B6.out.size; clear hO6 hG6 hn6 hb6 A6 O5 N5 B5)
                | (at_builtin; (fail_if_success (have _g := hs5)); refine Kind.app2 hSub_ok w4 rfl (.tmp 50) (.tmp 54) rfl w4.heap.size (.slice none 0 0) [] rfl (Kind.Own.nil _ _ _) (Nat.le_refl _) _ (us.take k) _ _ rfl HKL.out _ IT.out hll1 ?_; intro v1 w5 hO5 hb5 hG5 hn5; have O5 : Hid (hSub.Own w4.heap.size (w5.alloc (.cells #[.int .i64 id, .int .i64 sz, .bool dr, .int .i64 0, .slice none 0 0] 36)) v1 (us.take k)) := (Kind.Own.below (xs := us.take k) hO5 (below1 w5 (.cells #[.int .i64 id, .int .i64 sz, .bool dr, .int .i64 0, .slice none 0 0] 36))); have B5 := hid (hb5.trans ((below1 w5 (.cells #[.int .i64 id, .int .i64 sz, .bool dr, .int .i64 0, .slice none 0 0] 36)).mono hb5.size)); have hs5 := hb5.size; have N5 : Hid (hSub.In (w5.heap.size + 1) (w5.alloc (.cells #[.int .i64 id, .int .i64 sz, .bool dr, .int .i64 0, .slice none 0 0] 36)) (some ⟨w5.heap.size, 0, none⟩) [((id, sz, dr, 0, (none, 0, [])) : LSub)]) := hSub_one (by omega) (Bx.new _ _ rfl); clear hO5 hG5 hn5 hb5))
              all_goals
                obtain ⟨w8, hw8⟩ : ∃ V, V = w7.setCell ⟨w.heap.size, 1, none⟩ (.slice go (ts.length + 1) qc) := ⟨_, rfl⟩
                have R7 := hid (R4.out.later B7.out)
                have D7 := hid (D4.out.later dSub_ok B7.out)
                have P8 : Hid (Bx w8 w.heap.size [.int .i64 sd, .slice go (ts.length + 1) qc]) := by rw [Hid, hw8]; exact A7.out.set 1 _
                have R8 : Hid (Bx w8 (w.heap.size + 1) [.int .i64 0, .slice none 0 0]) := by rw [Hid, hw8]; exact R7.out.other (a := ⟨w.heap.size, 1, none⟩) (by dsimp only; omega) _
                have D8 : Hid (DFr dSub w1.heap.size w2.heap.size w8 (some ⟨g, 0, none⟩) c us) := by rw [Hid, hw8]; exact D7.out.keep dSub_ok fun q h1 _ _ => Below.heap_setCell _ _ _ _ (by dsimp only; have := HS.out; omega)
                have F8 : Hid (hSub.Fresh w4.heap.size w7.heap.size w8 go qc (us.take k ++ [((id, sz, dr, 0, (none, 0, [])) : LSub)] ++ us.drop k)) := by rw [Hid, hw8]; exact F7.out.setBelow (a := ⟨w.heap.size, 1, none⟩) hB0s _
                have hB8 : Below w.heap.size w w8 := by rw [hw8]; exact (hB4.trans (B7.out.mono hB4.size)).setCell (p := ⟨w.heap.size, 1, none⟩) (by dsimp only; omega) _
                have hs7 : w4.heap.size ≤ w7.heap.size := B7.out.size
                have hz8 : w8.heap.size = w7.heap.size := by rw [hw8]; simp [World.setCell]
                have HZ8 := hid hz8
                have E8 := hid (ins_fr D8.out (by rw [HUL.out]; exact HKN.out) (F8.out.wide (by omega) (Nat.le_refl _)) (by omega))
                have HV8 := hid (map_ins (id := id) (sz := sz) (dr := dr) (k := k) HU.out)
                have HW8 := hid hw8
                clear hw8 hz8 a70 a71 af71 A7 R7 D7 F7 D8 F8
                rw [← HW8.out]
                have p0 := P8.out.c 0 rfl
                have p1 := P8.out.c 1 rfl
                have r0 := R8.out.c 0 rfl
                have rf0 := R8.out.f 0 rfl
                have r1 := R8.out.c 1 rfl
                have rf1 := R8.out.f 1 rfl
                have rz := R8.out.size
                go_wp2
                refine bodyPost_ret (v := .tuple #[.agg #[.int .i64 sd, .slice go (ts.length + 1) qc], .int .i64 0]) (by simp [results, Try.results27, go_sem, r0, r1]) rfl ?_
                rw [HR.out]
                refine ⟨⟨go, qc, (us.take k ++ [((id, sz, dr, 0, (none, 0, [])) : LSub)] ++ us.drop k), ?_, HV8.out, ?_⟩, (hB8.setCell (p := ⟨w.heap.size + 1, 0, none⟩) (by dsimp only; omega) _).setCell (p := ⟨w.heap.size + 1, 1, none⟩) (by dsimp only; omega) _⟩
                · have := HKN.out
                  have e : ((ts.map valSub).take k ++ [((id, sz, dr, 0, []) : PSub)] ++ (ts.map valSub).drop k).length = ts.length + 1 := by simp; omega
                  rw [e]
                have hsv := HS.out
                have hzv := HZ8.out
                exact DFr.wide dSub_ok (DFr.keep dSub_ok E8.out fun q h1 _ _ => by rw [Below.heap_setCell _ _ _ _ (by dsimp only; omega), Below.heap_setCell _ _ _ _ (by dsimp only; omega)]) (by omega) (by simp [World.setCell]; omega)

end Go.Proofs.Ytimkadnnhfllnaa
