
/- HearNext, the specification. No conditions but those written. -/
import Derived.Test.YtimkadnnhfllnaaTx
import Derived.Test.YtimkadnnhfllnaaTu
import Derived.Test.YtimkadnnhfllnaaTe
import Derived.Test.YtimkadnnhfllnaaAo
import Derived.RegionTactic
import Derived.ChangeAlike
namespace Go.Proofs.Ytimkadnnhfllnaa
open Go.RowKit

theorem in_tail {n : Nat} {W : World} {g c : Nat} {x : Int} {r : List Int} (h : kI.In n W (some ⟨g, 0, none⟩) (x :: r)) (hc : (x :: r).length ≤ c) : kI.In n W (if c = 1 then some ⟨g, 0, none⟩ else some ⟨g, 1, none⟩) r := by
  split
  · rename_i h1
    subst h1
    have : r = [] := by simp at hc; exact hc
    exact .inl this
  · obtain ⟨b, off, e, hb, hj⟩ := ints_at h (k := 0) (by simp)
    simp at e
    obtain ⟨rfl, rfl⟩ := e
    refine ints_mk hb fun j hj2 => ?_
    have := hj (j + 1) (by simpa using hj2)
    rw [el_cons] at this
    rw [← this]
    congr 2
    omega
set_option maxRecDepth 10000 in
set_option maxHeartbeats 16000000 in
theorem specHear_any (sd : Int) (ao : Option Addr) (cap : Nat) (ts : List LSub) (id : Int) (w : World) (hl : ts.length ≤ 1048576) (hf : Fits ts) (hz : DIn dSub w.heap.size w ao ts) :
    Calls Try.prog 28 #[.agg #[.int .i64 sd, .slice ao ts.length cap], .int .i64 id] w fun e w' => AnsH w (hearR sd (ts.map valSub) id) e w' := by
  have HZ := hid hz
  have HF := hid hf
  clear hz hf
  obtain ⟨V, hV⟩ : ∃ V, V = (w.alloc (.cells #[.int .i64 sd, .slice ao ts.length cap] 25)).alloc (.cells #[.int .i64 0, .slice none 0 0] 25) := ⟨_, rfl⟩
  have hB0 : Below w.heap.size w V := by rw [hV]; exact below2 _ _ _
  have A0 : Hid (Bx V w.heap.size [.int .i64 sd, .slice ao ts.length cap]) := by rw [hV]; exact (Bx.new [.int .i64 sd, .slice ao ts.length cap] _ rfl).alloc _
  have R0 : Hid (Bx V (w.heap.size + 1) [.int .i64 0, .slice none 0 0]) := by rw [hV]; exact Bx.new [.int .i64 0, .slice none 0 0] _ (by simp)
  have HS : Hid (V.heap.size = w.heap.size + 1 + 1) := by rw [hV]; simp [Hid]
  have HV := hid hV
  have hlm : (ts.map valSub).length = ts.length := by simp
  have HLM := hid hlm
  clear hV hlm
  cases hg : topicB sd (ts.map valSub)
  · have HG := hid hg
    have HR : Hid (hearR sd (ts.map valSub) id = (0, [], 0, 1)) := by rw [Hid, hearR, hg]; rfl
    clear hg
    go_enter Try.func28, Try.ntmps28
    go_wp2_with fail
    rw [← HV.out]
    refine (specGood_is sd ao cap ts V false hl HF.out (HZ.out.later dSub_ok hB0) HG.out).mono ?_
    rintro e w1 ⟨rfl, hb1⟩
    have hB1 := hB0.trans (hb1.mono hB0.size)
    have hV1 := hb1.size
    have A1 := hid (A0.out.later hb1)
    have R1 := hid (R0.out.later hb1)
    have a0 := A1.out.c 0 rfl
    have a1 := A1.out.c 1 rfl
    have r0 := R1.out.c 0 rfl
    have rf0 := R1.out.f 0 rfl
    have r1 := R1.out.c 1 rfl
    have rf1 := R1.out.f 1 rfl
    clear hb1 A0 R0
    have rz := R1.out.size
    go_wp2
    refine bodyPost_ret (v := .tuple #[.agg #[.int .i64 0, .slice none 0 0], .int .i64 0, .int .i64 1]) (by simp [results, Try.results28, go_sem, r0, r1]) rfl ?_
    rw [HR.out]
    exact ⟨⟨none, 0, [], rfl, rfl, DFr.nil _ _ _ _ _⟩, (hB1.setCell (p := ⟨w.heap.size + 1, 0, none⟩) (by dsimp only; omega) _).setCell (p := ⟨w.heap.size + 1, 1, none⟩) (by dsimp only; omega) _⟩
  have HG := hid hg
  clear hg
  cases ht : thB (ts.map valSub) id
  · have HT : Hid (atI (ts.map valSub) id = -1) := by rw [Hid, atI, ht]; rfl
    have HR : Hid (hearR sd (ts.map valSub) id = (sd, ts.map valSub, 0, 4)) := by rw [Hid, hearR, HG.out, ht]; rfl
    clear ht
    go_enter Try.func28, Try.ntmps28
    go_wp2_with fail
    rw [← HV.out]
    refine (specGood_is sd ao cap ts V true hl HF.out (HZ.out.later dSub_ok hB0) HG.out).mono ?_
    rintro e w1 ⟨rfl, hb1⟩
    have hB1 := hB0.trans (hb1.mono hB0.size)
    have hV1 := hb1.size
    have A1 := hid (A0.out.later hb1)
    have R1 := hid (R0.out.later hb1)
    have a0 := A1.out.c 0 rfl
    have a1 := A1.out.c 1 rfl
    have r0 := R1.out.c 0 rfl
    have rf0 := R1.out.f 0 rfl
    have r1 := R1.out.c 1 rfl
    have rf1 := R1.out.f 1 rfl
    clear hb1 A0 R0
    go_wp2_with fail
    refine (l9Own_any sd ao cap ts w1 hl HF.out (HZ.out.later dSub_ok hB1)).mono ?_
    rintro e w2 ⟨⟨o, c, us, rfl, hv2, hD2⟩, hb2⟩
    rw [List.length_map]
    have HU := hid hv2
    have hul := len_val hv2
    have HUL := hid hul
    have A2 := hid (A1.out.later hb2)
    have R2 := hid (R1.out.later hb2)
    have hB2 := hB1.trans (hb2.mono hB1.size)
    have hV2 := Nat.le_trans hV1 hb2.size
    have hs12 : w1.heap.size ≤ w2.heap.size := hb2.size
    obtain ⟨w3, hw3⟩ : ∃ V, V = (w2.setCell ⟨w.heap.size, 0, none⟩ (.int .i64 sd)).setCell ⟨w.heap.size, 1, none⟩ (.slice o ts.length c) := ⟨_, rfl⟩
    have A3 : Hid (Bx w3 w.heap.size [.int .i64 sd, .slice o ts.length c]) := by rw [Hid, hw3]; exact (A2.out.set 0 _).set 1 _
    have R3 : Hid (Bx w3 (w.heap.size + 1) [.int .i64 0, .slice none 0 0]) := by rw [Hid, hw3]; exact (R2.out.other (a := ⟨w.heap.size, 0, none⟩) (by dsimp only; omega) _).other (a := ⟨w.heap.size, 1, none⟩) (by dsimp only; omega) _
    have D3 : Hid (DFr dSub w1.heap.size w2.heap.size w3 o c us) := by rw [Hid, hw3]; exact hD2.keep dSub_ok fun q h1 _ _ => by rw [Below.heap_setCell _ _ _ _ (by dsimp only; have := HS.out; omega), Below.heap_setCell _ _ _ _ (by dsimp only; have := HS.out; omega)]
    have hB3 : Below w.heap.size w w3 := by rw [hw3]; exact (hB2.setCell (p := ⟨w.heap.size, 0, none⟩) (by dsimp only; omega) _).setCell (p := ⟨w.heap.size, 1, none⟩) (by dsimp only; omega) _
    have hz3 : w3.heap.size = w2.heap.size := by rw [hw3]; simp [World.setCell]
    have HZ3 := hid hz3
    have HAt := hid (l9At_is sd o c us id w3 (by rw [hul]; exact hl) (by rw [hv2]; exact (topicB_good HG.out).2.2) (D3.out.in dSub_ok).1)
    rw [hul, hv2] at HAt
    have b0 := A2.out.c 0 rfl
    have bf0 := A2.out.f 0 rfl
    have b1 := A2.out.c 1 rfl
    have bf1 := A2.out.f 1 rfl
    have HW3 := hid hw3
    clear A1 R1 a0 a1 r0 rf0 r1 rf1 hv2 hD2 hul hb2 hB1 hw3 A2 R2 hB2 hz3
    go_wp2_with fail
    rw [← HW3.out]
    clear b0 bf0 b1 bf1
    refine HAt.out.mono ?_
    rintro e w4 ⟨rfl, hb4⟩
    have A4 := hid (A3.out.later hb4)
    have R4 := hid (R3.out.later hb4)
    have D4 := hid (D3.out.later dSub_ok hb4)
    have hB4 := hB3.trans (hb4.mono hB3.size)
    have hs4 : w2.heap.size ≤ w4.heap.size := by rw [← HZ3.out]; exact hb4.size
    clear hb4 A3 R3 D3 hB3 HAt
    rw [HT.out]
    have p0 := A4.out.c 0 rfl
    have p1 := A4.out.c 1 rfl
    have r0 := R4.out.c 0 rfl
    have rf0 := R4.out.f 0 rfl
    have r1 := R4.out.c 1 rfl
    have rf1 := R4.out.f 1 rfl
    have rz := R4.out.size
    go_wp2
    refine bodyPost_ret (v := .tuple #[.agg #[.int .i64 sd, .slice o ts.length c], .int .i64 0, .int .i64 4]) (by simp [results, Try.results28, go_sem, r0, r1]) rfl ?_
    rw [HR.out]
    refine ⟨⟨o, c, us, by rw [HLM.out], HU.out, ?_⟩, (hB4.setCell (p := ⟨w.heap.size + 1, 0, none⟩) (by dsimp only; omega) _).setCell (p := ⟨w.heap.size + 1, 1, none⟩) (by dsimp only; omega) _⟩
    have hsv := HS.out
    exact DFr.wide dSub_ok (DFr.keep dSub_ok D4.out fun q h1 _ _ => by rw [Below.heap_setCell _ _ _ _ (by dsimp only; omega), Below.heap_setCell _ _ _ _ (by dsimp only; omega)]) (by omega) (by simp [World.setCell]; omega)
  have hkl := thB_lt ht
  rw [HLM.out] at hkl
  have hgd := sub_el HG.out (k := pl (ts.map valSub) id) (by rw [HLM.out]; exact hkl)
  have hev := el_val hkl
  have HTH := hid ht
  have HT0 : Hid (atI (ts.map valSub) id = (pl (ts.map valSub) id : Int)) := by rw [Hid, atI, ht]; rfl
  obtain ⟨k, hk⟩ : ∃ k, k = pl (ts.map valSub) id := ⟨_, rfl⟩
  have HK := hid hk
  have HT : Hid (atI (ts.map valSub) id = (k : Int)) := by rw [Hid, HT0.out, hk]
  rw [← hk] at hkl hgd hev
  clear ht hk HT0
  obtain ⟨⟨nd, kap, dr, dp, ⟨qo, qc, q⟩⟩, ey⟩ : ∃ v, v = el ts k := ⟨_, rfl⟩
  rw [← ey] at hev
  rw [hev] at hgd
  have HE : Hid (el (ts.map valSub) k = (nd, kap, dr, dp, q)) := hev
  dsimp only [valSub] at hgd
  have HGD := hid hgd
  have HKL := hid hkl
  clear ey hev hgd hkl
  rcases q with _ | ⟨x, r⟩
  · have HR : Hid (hearR sd (ts.map valSub) id = (sd, ts.map valSub, 0, 3)) := by rw [Hid, hearR, HG.out, HTH.out, ← HK.out, HE.out]; rfl
    go_enter Try.func28, Try.ntmps28
    go_wp2_with fail
    rw [← HV.out]
    refine (specGood_is sd ao cap ts V true hl HF.out (HZ.out.later dSub_ok hB0) HG.out).mono ?_
    rintro e w1 ⟨rfl, hb1⟩
    have hB1 := hB0.trans (hb1.mono hB0.size)
    have hV1 := hb1.size
    have A1 := hid (A0.out.later hb1)
    have R1 := hid (R0.out.later hb1)
    have a0 := A1.out.c 0 rfl
    have a1 := A1.out.c 1 rfl
    have r0 := R1.out.c 0 rfl
    have rf0 := R1.out.f 0 rfl
    have r1 := R1.out.c 1 rfl
    have rf1 := R1.out.f 1 rfl
    clear hb1 A0 R0
    go_wp2_with fail
    refine (l9Own_any sd ao cap ts w1 hl HF.out (HZ.out.later dSub_ok hB1)).mono ?_
    rintro e w2 ⟨⟨o, c, us, rfl, hv2, hD2⟩, hb2⟩
    rw [List.length_map]
    have HU := hid hv2
    have hul := len_val hv2
    have HUL := hid hul
    have A2 := hid (A1.out.later hb2)
    have R2 := hid (R1.out.later hb2)
    have hB2 := hB1.trans (hb2.mono hB1.size)
    have hV2 := Nat.le_trans hV1 hb2.size
    have hs12 : w1.heap.size ≤ w2.heap.size := hb2.size
    obtain ⟨w3, hw3⟩ : ∃ V, V = (w2.setCell ⟨w.heap.size, 0, none⟩ (.int .i64 sd)).setCell ⟨w.heap.size, 1, none⟩ (.slice o ts.length c) := ⟨_, rfl⟩
    have A3 : Hid (Bx w3 w.heap.size [.int .i64 sd, .slice o ts.length c]) := by rw [Hid, hw3]; exact (A2.out.set 0 _).set 1 _
    have R3 : Hid (Bx w3 (w.heap.size + 1) [.int .i64 0, .slice none 0 0]) := by rw [Hid, hw3]; exact (R2.out.other (a := ⟨w.heap.size, 0, none⟩) (by dsimp only; omega) _).other (a := ⟨w.heap.size, 1, none⟩) (by dsimp only; omega) _
    have D3 : Hid (DFr dSub w1.heap.size w2.heap.size w3 o c us) := by rw [Hid, hw3]; exact hD2.keep dSub_ok fun q h1 _ _ => by rw [Below.heap_setCell _ _ _ _ (by dsimp only; have := HS.out; omega), Below.heap_setCell _ _ _ _ (by dsimp only; have := HS.out; omega)]
    have hB3 : Below w.heap.size w w3 := by rw [hw3]; exact (hB2.setCell (p := ⟨w.heap.size, 0, none⟩) (by dsimp only; omega) _).setCell (p := ⟨w.heap.size, 1, none⟩) (by dsimp only; omega) _
    have hz3 : w3.heap.size = w2.heap.size := by rw [hw3]; simp [World.setCell]
    have HZ3 := hid hz3
    have HAt := hid (l9At_is sd o c us id w3 (by rw [hul]; exact hl) (by rw [hv2]; exact (topicB_good HG.out).2.2) (D3.out.in dSub_ok).1)
    rw [hul, hv2] at HAt
    have b0 := A2.out.c 0 rfl
    have bf0 := A2.out.f 0 rfl
    have b1 := A2.out.c 1 rfl
    have bf1 := A2.out.f 1 rfl
    have HW3 := hid hw3
    clear A1 R1 a0 a1 r0 rf0 r1 rf1 hv2 hD2 hul hb2 hB1 hw3 A2 R2 hB2 hz3
    go_wp2_with fail
    rw [← HW3.out]
    clear b0 bf0 b1 bf1
    refine HAt.out.mono ?_
    rintro e w4 ⟨rfl, hb4⟩
    have A4 := hid (A3.out.later hb4)
    have R4 := hid (R3.out.later hb4)
    have D4 := hid (D3.out.later dSub_ok hb4)
    have hB4 := hB3.trans (hb4.mono hB3.size)
    have hs4 : w2.heap.size ≤ w4.heap.size := by rw [← HZ3.out]; exact hb4.size
    clear hb4 A3 R3 D3 hB3 HAt
    rw [HT.out]
    have hku : k < us.length := by rw [HUL.out]; exact HKL.out
    obtain ⟨g, hgo, hgl, hgh, hgs, _⟩ := (show hSub.Fresh _ _ _ _ _ _ from D4.out.1).at (show 0 < us.length by omega)
    subst hgo
    have hue := el_val hku
    rw [HU.out, HE.out] at hue
    have hd := (hd_at D4.out hku).1
    have hfr := (hd_at D4.out hku).2.1
    have hfq : kI.Fresh w1.heap.size w2.heap.size w4 (el us k).2.2.2.2.1 (el us k).2.2.2.2.2.1 (el us k).2.2.2.2.2.2 := D4.out.2.1 k hku
    obtain ⟨⟨nd', kap', dr', dp', ⟨uo, uc, q'⟩⟩, eu⟩ : ∃ v, v = el us k := ⟨_, rfl⟩
    have HEU := hid eu
    rw [← eu] at hue hd hfq
    simp only [valSub, Prod.mk.injEq] at hue
    obtain ⟨rfl, rfl, rfl, rfl, rfl⟩ := hue
    dsimp only at hd hfq
    have HFQ := hid hfq
    obtain ⟨c0, c1, c2, c3, c4⟩ := hd
    have hkl := HKL.out
    have hk0 : (0 : Int) ≤ (k : Int) := by omega
    have hk1 : (k : Int) < (ts.length : Int) := by omega
    have hkn : decide ((k : Int) < 0) = false := by simp
    have a0 := A4.out.c 0 rfl
    have a1 := A4.out.c 1 rfl
    have hku2 := hku
    clear hfq eu hku
    have p0 := A4.out.c 0 rfl
    have p1 := A4.out.c 1 rfl
    have r0 := R4.out.c 0 rfl
    have rf0 := R4.out.f 0 rfl
    have r1 := R4.out.c 1 rfl
    have rf1 := R4.out.f 1 rfl
    have rz := R4.out.size
    go_wp2
    refine bodyPost_ret (v := .tuple #[.agg #[.int .i64 sd, .slice (some ⟨g, 0, none⟩) ts.length c], .int .i64 0, .int .i64 3]) (by simp [results, Try.results28, go_sem, r0, r1]) rfl ?_
    rw [HR.out]
    refine ⟨⟨(some ⟨g, 0, none⟩), c, us, by rw [HLM.out], HU.out, ?_⟩, (hB4.setCell (p := ⟨w.heap.size + 1, 0, none⟩) (by dsimp only; omega) _).setCell (p := ⟨w.heap.size + 1, 1, none⟩) (by dsimp only; omega) _⟩
    have hsv := HS.out
    exact DFr.wide dSub_ok (DFr.keep dSub_ok D4.out fun q h1 _ _ => by rw [Below.heap_setCell _ _ _ _ (by dsimp only; omega), Below.heap_setCell _ _ _ _ (by dsimp only; omega)]) (by omega) (by simp [World.setCell]; omega)
  · have HR : Hid (hearR sd (ts.map valSub) id = (sd, (ts.map valSub).set k (nd, kap, dr, dp, r), x, 0)) := by rw [Hid, hearR, HG.out, HTH.out, ← HK.out, HE.out]; rfl
    go_enter Try.func28, Try.ntmps28
    go_wp2_with fail
    rw [← HV.out]
    refine (specGood_is sd ao cap ts V true hl HF.out (HZ.out.later dSub_ok hB0) HG.out).mono ?_
    rintro e w1 ⟨rfl, hb1⟩
    have hB1 := hB0.trans (hb1.mono hB0.size)
    have hV1 := hb1.size
    have A1 := hid (A0.out.later hb1)
    have R1 := hid (R0.out.later hb1)
    have a0 := A1.out.c 0 rfl
    have a1 := A1.out.c 1 rfl
    have r0 := R1.out.c 0 rfl
    have rf0 := R1.out.f 0 rfl
    have r1 := R1.out.c 1 rfl
    have rf1 := R1.out.f 1 rfl
    clear hb1 A0 R0
    go_wp2_with fail
    refine (l9Own_any sd ao cap ts w1 hl HF.out (HZ.out.later dSub_ok hB1)).mono ?_
    rintro e w2 ⟨⟨o, c, us, rfl, hv2, hD2⟩, hb2⟩
    rw [List.length_map]
    have HU := hid hv2
    have hul := len_val hv2
    have HUL := hid hul
    have A2 := hid (A1.out.later hb2)
    have R2 := hid (R1.out.later hb2)
    have hB2 := hB1.trans (hb2.mono hB1.size)
    have hV2 := Nat.le_trans hV1 hb2.size
    have hs12 : w1.heap.size ≤ w2.heap.size := hb2.size
    obtain ⟨w3, hw3⟩ : ∃ V, V = (w2.setCell ⟨w.heap.size, 0, none⟩ (.int .i64 sd)).setCell ⟨w.heap.size, 1, none⟩ (.slice o ts.length c) := ⟨_, rfl⟩
    have A3 : Hid (Bx w3 w.heap.size [.int .i64 sd, .slice o ts.length c]) := by rw [Hid, hw3]; exact (A2.out.set 0 _).set 1 _
    have R3 : Hid (Bx w3 (w.heap.size + 1) [.int .i64 0, .slice none 0 0]) := by rw [Hid, hw3]; exact (R2.out.other (a := ⟨w.heap.size, 0, none⟩) (by dsimp only; omega) _).other (a := ⟨w.heap.size, 1, none⟩) (by dsimp only; omega) _
    have D3 : Hid (DFr dSub w1.heap.size w2.heap.size w3 o c us) := by rw [Hid, hw3]; exact hD2.keep dSub_ok fun q h1 _ _ => by rw [Below.heap_setCell _ _ _ _ (by dsimp only; have := HS.out; omega), Below.heap_setCell _ _ _ _ (by dsimp only; have := HS.out; omega)]
    have hB3 : Below w.heap.size w w3 := by rw [hw3]; exact (hB2.setCell (p := ⟨w.heap.size, 0, none⟩) (by dsimp only; omega) _).setCell (p := ⟨w.heap.size, 1, none⟩) (by dsimp only; omega) _
    have hz3 : w3.heap.size = w2.heap.size := by rw [hw3]; simp [World.setCell]
    have HZ3 := hid hz3
    have HAt := hid (l9At_is sd o c us id w3 (by rw [hul]; exact hl) (by rw [hv2]; exact (topicB_good HG.out).2.2) (D3.out.in dSub_ok).1)
    rw [hul, hv2] at HAt
    have b0 := A2.out.c 0 rfl
    have bf0 := A2.out.f 0 rfl
    have b1 := A2.out.c 1 rfl
    have bf1 := A2.out.f 1 rfl
    have HW3 := hid hw3
    clear A1 R1 a0 a1 r0 rf0 r1 rf1 hv2 hD2 hul hb2 hB1 hw3 A2 R2 hB2 hz3
    go_wp2_with fail
    rw [← HW3.out]
    clear b0 bf0 b1 bf1
    refine HAt.out.mono ?_
    rintro e w4 ⟨rfl, hb4⟩
    have A4 := hid (A3.out.later hb4)
    have R4 := hid (R3.out.later hb4)
    have D4 := hid (D3.out.later dSub_ok hb4)
    have hB4 := hB3.trans (hb4.mono hB3.size)
    have hs4 : w2.heap.size ≤ w4.heap.size := by rw [← HZ3.out]; exact hb4.size
    clear hb4 A3 R3 D3 hB3 HAt
    rw [HT.out]
    have hku : k < us.length := by rw [HUL.out]; exact HKL.out
    obtain ⟨g, hgo, hgl, hgh, hgs, _⟩ := (show hSub.Fresh _ _ _ _ _ _ from D4.out.1).at (show 0 < us.length by omega)
    subst hgo
    have hue := el_val hku
    rw [HU.out, HE.out] at hue
    have hd := (hd_at D4.out hku).1
    have hfr := (hd_at D4.out hku).2.1
    have hfq : kI.Fresh w1.heap.size w2.heap.size w4 (el us k).2.2.2.2.1 (el us k).2.2.2.2.2.1 (el us k).2.2.2.2.2.2 := D4.out.2.1 k hku
    obtain ⟨⟨nd', kap', dr', dp', ⟨uo, uc, q'⟩⟩, eu⟩ : ∃ v, v = el us k := ⟨_, rfl⟩
    have HEU := hid eu
    rw [← eu] at hue hd hfq
    simp only [valSub, Prod.mk.injEq] at hue
    obtain ⟨rfl, rfl, rfl, rfl, rfl⟩ := hue
    dsimp only at hd hfq
    have HFQ := hid hfq
    obtain ⟨c0, c1, c2, c3, c4⟩ := hd
    have hkl := HKL.out
    have hk0 : (0 : Int) ≤ (k : Int) := by omega
    have hk1 : (k : Int) < (ts.length : Int) := by omega
    have hkn : decide ((k : Int) < 0) = false := by simp
    have a0 := A4.out.c 0 rfl
    have a1 := A4.out.c 1 rfl
    have hku2 := hku
    clear hfq eu hku
    obtain ⟨gq, hgq, hq1, hq2, hq3, _⟩ := HFQ.out.at (by simp)
    subst hgq
    have hcap := HFQ.out.cap
    have IQ := hid (in_tail HFQ.out.in hcap)
    have X0 : w4.cell? ⟨gq, 0, none⟩ = some (.int .i64 x) := by
      obtain ⟨b, off, e, hb, hj⟩ := ints_at HFQ.out.in (k := 0) (by simp)
      simp at e
      obtain ⟨rfl, rfl⟩ := e
      have := hj 0 (by simp)
      rw [el_zero] at this
      simpa using this
    have hrl : r.length ≤ 1048576 := by have h1 := HGD.out.2.1; have h2 := HGD.out.2.2.1; simp at h2; omega
    have hcc : (1 : Int) ≤ (r.length : Int) + 1 := by omega
    have hgB : g ≠ w.heap.size := by have := HS.out; omega
    have hlen0 : ((r.length : Int) + 1 == 0) = false := by simp; omega
    have C0 := (⟨a0, a1⟩ : w4.cell? ⟨w.heap.size, 0, none⟩ = some (.int .i64 sd) ∧ w4.cell? ⟨w.heap.size, 1, none⟩ = some (.slice (some ⟨g, 0, none⟩) ts.length c))
    have AE := A4.out.alloc (.cells #[] 3)
    have CE := (⟨AE.c 0 rfl, AE.c 1 rfl⟩ : (w4.alloc (.cells #[] 3)).cell? ⟨w.heap.size, 0, none⟩ = some (.int .i64 sd) ∧ (w4.alloc (.cells #[] 3)).cell? ⟨w.heap.size, 1, none⟩ = some (.slice (some ⟨g, 0, none⟩) ts.length c))
    have CEd := (⟨AE.c 0 rfl, AE.c 1 rfl⟩ : (w4.alloc (.cells #[] 3)).drew.cell? ⟨w.heap.size, 0, none⟩ = some (.int .i64 sd) ∧ (w4.alloc (.cells #[] 3)).drew.cell? ⟨w.heap.size, 1, none⟩ = some (.slice (some ⟨g, 0, none⟩) ts.length c))
    have hB0s : w.heap.size < w4.heap.size := A4.out.size
    have N1 : Hid (kI.Own w4.heap.size (w4.alloc (.cells #[] 3)).drew (.slice (some ⟨w4.heap.size, 0, none⟩) 0 0) []) := Kind.Own.new kI w4.heap.size w4 (Nat.le_refl _)
    have I1 := hid (IQ.out.below (W' := (w4.alloc (.cells #[] 3)).drew) (below1 w4 (.cells #[] 3)).drew)
    go_wp2
    go_region_held3 (fun Y => Y.cell? ⟨w.heap.size, 0, none⟩ = some (.int .i64 sd) ∧ Y.cell? ⟨w.heap.size, 1, none⟩ = some (.slice (some ⟨g, 0, none⟩) ts.length c))
      (first | (with_reducible exact C0) | (with_reducible exact CE) | (with_reducible exact CEd) | (with_reducible exact P7) | ((refine ⟨?_, ?_⟩ <;> (rw [World.cell?_setCell_other _ _ _ _ (addr_ne (by omega))])); (with_reducible exact P7.1); (with_reducible exact P7.2)) | exact C0)
      (first
        | (refine Kind.appS kI_ok (w4.alloc (.cells #[] 3)).drew (by rfl) (.tmp 34) (.tmp 36) (by rfl) w4.heap.size (.slice (some ⟨w4.heap.size, 0, none⟩) 0 0) [] (by rfl) N1.out (by simp) (if uc = 1 then some ⟨gq, 0, none⟩ else some ⟨gq, 1, none⟩) r r.length (uc - 1) (by rfl) rfl (by intro h; split at h <;> cases h) _ I1.out (by simp; omega) ?_; intro v1 w7 hO7 hb7 hG7 hn7; have hbw : Below w4.heap.size w4 w7 := (below1 w4 (.cells #[] 3)).drew.trans hb7; obtain ⟨go, qc', rfl, _, hF7⟩ := Kind.Own.fresh (xs := r) hO7; have PB7 := hid (A4.out.later hbw); have P7 := (⟨PB7.out.c 0 rfl, PB7.out.c 1 rfl⟩ : w7.cell? ⟨w.heap.size, 0, none⟩ = some (.int .i64 sd) ∧ w7.cell? ⟨w.heap.size, 1, none⟩ = some (.slice (some ⟨g, 0, none⟩) ts.length c)); have R7 := hid (R4.out.later hbw); have D7 := hid (D4.out.later dSub_ok hbw); have hB7 : Below w.heap.size w w7 := hB4.trans (hbw.mono hB4.size); have F7 := hid hF7; have hs7 := hbw.size; have X7 := (hbw.cell (p := ⟨gq, 0, none⟩) hq3).trans X0; have hd := hd_at D7.out hku2; have c7 := hd.1.2.2.2.2; have f7 := hd.2.1 4; clear hO7 hb7 hG7 hn7 hbw hF7 hd))
    clear C0 CE CEd AE N1 I1 IQ
    obtain ⟨W8, hW8⟩ : ∃ V, V = w7.setCell ⟨g, k * 5 + 4, none⟩ (.slice go r.length qc') := ⟨_, rfl⟩
    have D8 : Hid (DFr dSub w1.heap.size w7.heap.size W8 (some ⟨g, 0, none⟩) c (us.set k ((el us k).1, (el us k).2.1, (el us k).2.2.1, (el us k).2.2.2.1, (go, qc', r)))) := by rw [Hid, hW8]; exact DFr.newQ (hi := w4.heap.size) (D7.out.wide dSub_ok (Nat.le_refl _) hs4) hku2 F7.out hs7 (by omega)
    have P8 : Hid (Bx W8 w.heap.size [.int .i64 sd, .slice (some ⟨g, 0, none⟩) ts.length c]) := by rw [Hid, hW8]; exact PB7.out.other (a := ⟨g, k * 5 + 4, none⟩) (by dsimp only; have := HS.out; omega) _
    have R8 : Hid (Bx W8 (w.heap.size + 1) [.int .i64 0, .slice none 0 0]) := by rw [Hid, hW8]; exact R7.out.other (a := ⟨g, k * 5 + 4, none⟩) (by dsimp only; have := HS.out; omega) _
    have hB8 : Below w.heap.size w W8 := by rw [hW8]; exact hB7.setCell (p := ⟨g, k * 5 + 4, none⟩) (by dsimp only; have := HS.out; omega) _
    have hz8 : W8.heap.size = w7.heap.size := by rw [hW8]; simp [World.setCell]
    have HZ8 := hid hz8
    have X8 : W8.cell? ⟨gq, 0, none⟩ = some (.int .i64 x) := by
      rw [hW8, World.cell?_setCell_other _ _ _ _ (addr_ne fun e => ?_)]
      · exact X7
      · subst e
        exact D7.out.head dSub_ok hku2 (b := g) (by rw [← HEU.out]; exact ⟨by simp, rfl⟩) ⟨by omega, rfl⟩
    have HV8 : Hid ((us.set k ((el us k).1, (el us k).2.1, (el us k).2.2.1, (el us k).2.2.2.1, (go, qc', r))).map valSub = (ts.map valSub).set k (nd, kap, dr, dp, r)) := by
      rw [Hid, map_set, HU.out, ← HEU.out]; rfl
    have HW8 := hid hW8
    clear hW8 hz8 D7 PB7 R7 hB7 c7 f7 P7 F7 X7 X0
    rw [← HW8.out]
    have p0 := P8.out.c 0 rfl
    have p1 := P8.out.c 1 rfl
    have r0 := R8.out.c 0 rfl
    have rf0 := R8.out.f 0 rfl
    have r1 := R8.out.c 1 rfl
    have rf1 := R8.out.f 1 rfl
    have rz := R8.out.size
    have hx0 : (0 : Int) < (r.length : Int) + 1 := by omega
    have hgq1 : gq ≠ w.heap.size + 1 := by have := HS.out; omega
    have x9 : ((W8.setCell ⟨w.heap.size + 1, 0, none⟩ (.int .i64 sd)).setCell ⟨w.heap.size + 1, 1, none⟩ (.slice (some ⟨g, 0, none⟩) ts.length c)).cell? ⟨gq, 0, none⟩ = some (.int .i64 x) := (World.cell?_setCell_other _ _ _ _ (addr_ne (Ne.symm hgq1))).trans ((World.cell?_setCell_other _ _ _ _ (addr_ne (Ne.symm hgq1))).trans X8)
    have x9d : ((W8.setCell ⟨w.heap.size + 1, 0, none⟩ (.int .i64 sd)).setCell ⟨w.heap.size + 1, 1, none⟩ (.slice (some ⟨g, 0, none⟩) ts.length c)).drew.cell? ⟨gq, 0, none⟩ = some (.int .i64 x) := x9
    have P9 := ((P8.out.other (a := ⟨w.heap.size + 1, 0, none⟩) (by dsimp only; omega) (.int .i64 sd)).other (a := ⟨w.heap.size + 1, 1, none⟩) (by dsimp only; omega) (.slice (some ⟨g, 0, none⟩) ts.length c))
    have C9 := (⟨p0, p1, X8⟩ : W8.cell? ⟨w.heap.size, 0, none⟩ = some (.int .i64 sd) ∧ W8.cell? ⟨w.heap.size, 1, none⟩ = some (.slice (some ⟨g, 0, none⟩) ts.length c) ∧ W8.cell? ⟨gq, 0, none⟩ = some (.int .i64 x))
    have C9s := (⟨P9.c 0 rfl, P9.c 1 rfl, x9⟩ : ((W8.setCell ⟨w.heap.size + 1, 0, none⟩ (.int .i64 sd)).setCell ⟨w.heap.size + 1, 1, none⟩ (.slice (some ⟨g, 0, none⟩) ts.length c)).cell? ⟨w.heap.size, 0, none⟩ = some (.int .i64 sd) ∧ ((W8.setCell ⟨w.heap.size + 1, 0, none⟩ (.int .i64 sd)).setCell ⟨w.heap.size + 1, 1, none⟩ (.slice (some ⟨g, 0, none⟩) ts.length c)).cell? ⟨w.heap.size, 1, none⟩ = some (.slice (some ⟨g, 0, none⟩) ts.length c) ∧ ((W8.setCell ⟨w.heap.size + 1, 0, none⟩ (.int .i64 sd)).setCell ⟨w.heap.size + 1, 1, none⟩ (.slice (some ⟨g, 0, none⟩) ts.length c)).cell? ⟨gq, 0, none⟩ = some (.int .i64 x))
    have C9d := (⟨P9.c 0 rfl, P9.c 1 rfl, x9⟩ : ((W8.setCell ⟨w.heap.size + 1, 0, none⟩ (.int .i64 sd)).setCell ⟨w.heap.size + 1, 1, none⟩ (.slice (some ⟨g, 0, none⟩) ts.length c)).drew.cell? ⟨w.heap.size, 0, none⟩ = some (.int .i64 sd) ∧ ((W8.setCell ⟨w.heap.size + 1, 0, none⟩ (.int .i64 sd)).setCell ⟨w.heap.size + 1, 1, none⟩ (.slice (some ⟨g, 0, none⟩) ts.length c)).drew.cell? ⟨w.heap.size, 1, none⟩ = some (.slice (some ⟨g, 0, none⟩) ts.length c) ∧ ((W8.setCell ⟨w.heap.size + 1, 0, none⟩ (.int .i64 sd)).setCell ⟨w.heap.size + 1, 1, none⟩ (.slice (some ⟨g, 0, none⟩) ts.length c)).drew.cell? ⟨gq, 0, none⟩ = some (.int .i64 x))
    go_wp2
    all_goals go_region_held3 (fun Y => Y.cell? ⟨w.heap.size, 0, none⟩ = some (.int .i64 sd) ∧ Y.cell? ⟨w.heap.size, 1, none⟩ = some (.slice (some ⟨g, 0, none⟩) ts.length c) ∧ Y.cell? ⟨gq, 0, none⟩ = some (.int .i64 x))
      (first | (with_reducible exact C9) | (with_reducible exact C9s) | (with_reducible exact C9d) | exact C9)
      (fail)
    all_goals
      go_wp2
      refine bodyPost_ret (v := .tuple #[.agg #[.int .i64 sd, .slice (some ⟨g, 0, none⟩) ts.length c], .int .i64 x, .int .i64 0]) (by simp [results, Try.results28, go_sem, r0, r1]) rfl ?_
      rw [HR.out]
      refine ⟨⟨(some ⟨g, 0, none⟩), c, us.set k ((el us k).1, (el us k).2.1, (el us k).2.2.1, (el us k).2.2.2.1, (go, qc', r)), by simp, HV8.out, ?_⟩, ?_⟩
      · have hsv := HS.out
        have hzv := HZ8.out
        exact DFr.wide dSub_ok (DFr.keep dSub_ok D8.out fun q h1 _ _ => by first | (rw [World.heap_drew, Below.heap_setCell _ _ _ _ (by dsimp only; omega), Below.heap_setCell _ _ _ _ (by dsimp only; omega)]) | (show (W8.setCell _ _ |>.setCell _ _).heap[q]? = _; rw [Below.heap_setCell _ _ _ _ (by dsimp only; omega), Below.heap_setCell _ _ _ _ (by dsimp only; omega)])) (by omega) (by simp [World.setCell]; omega)
      · first | exact ((hB8.setCell (p := ⟨w.heap.size + 1, 0, none⟩) (by dsimp only; omega) _).setCell (p := ⟨w.heap.size + 1, 1, none⟩) (by dsimp only; omega) _).drew | exact (hB8.drew.setCell (p := ⟨w.heap.size + 1, 0, none⟩) (by dsimp only; omega) _).setCell (p := ⟨w.heap.size + 1, 1, none⟩) (by dsimp only; omega) _
end Go.Proofs.Ytimkadnnhfllnaa
