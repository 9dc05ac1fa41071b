
/- The walk of the law of MergeFair: it returns true. No conditions but those written. -/
import Derived.Test.YtnjnnilmelmmgaaVe
namespace Go.Proofs.Ytnjnnilmelmmgaa
open Go.RowKit

set_option maxRecDepth 100000 in
set_option maxHeartbeats 16000000 in
theorem lawMerge_any (ao : Option Addr) (cap : Nat) (hs : List Hd) (ts : List (List Int)) (bo : Option Addr) (bcap : Nat) (us : List Int) (w : World) (hl : ts.length ≤ 9223372036854775807) (hle : ∀ l ∈ ts, l.length ≤ 9223372036854775807) (hz : InRR w.heap.size w ao hs ts) (hul : us.length ≤ 9223372036854775807) (hu : kI.In w.heap.size w bo us) :
    Calls Try.prog 8 #[.slice ao ts.length cap, .slice bo us.length bcap] w fun e w' => e = .returned (.bool true) ∧ Below w.heap.size w w' := by
  by_cases hbig : 1048576 < us.length
  · have h1 : decide ((1048576 : Int) < (us.length : Int)) = true := by simp; omega
    clear hbig
    go_enter Try.func8, Try.ntmps8
    go_wp2
    go_ret
    exact ⟨rfl, Below.refl _ _⟩
  have h1 : decide ((1048576 : Int) < (us.length : Int)) = false := by simp; omega
  have k3 : us.length ≤ 1048576 := by omega
  clear hbig
  have hq := mgR_len ts us
  generalize hR : mgR ts us = R at hq
  have HR := hid hR
  clear hR
  obtain ⟨r0, r1⟩ := R
  dsimp only at hq
  have hne1 : (r1 != r1) = false := by simp
  go_enter Try.func8, Try.ntmps8
  go_wp2_with fail
  refine (szIntSS_any ao cap hs ts 1048576 w (by omega) (by omega) hl hle hz).mono ?_
  rintro e wx ⟨⟨z, rfl, _, hr⟩, hws⟩
  rw [hws]; clear hws wx
  rcases hr with hr | ⟨hr0, hr1⟩
  · go_wp2
    go_ret
    exact ⟨rfl, Below.refl _ _⟩
  have k1 : ts.length ≤ 1048576 := by omega
  have k2 : tot ts ≤ 1048576 := by omega
  have hr0' : decide (z < 0) = false := by simpa using hr1
  clear hr0
  have hB0 : Below w.heap.size w w := Below.refl _ _
  go_wp2_with fail
  refine (toIntSS_any ao cap hs ts w k1 k2 (hz.later hB0)).mono ?_
  rintro e w1 ⟨rfl, ⟨g1, hF⟩, hb1⟩
  generalize hgg : (some ⟨w.heap.size, 0, none⟩ : Option Addr) = a1 at hF ⊢
  clear hgg
  have hB1 := hB0.trans (hb1.mono hB0.size)
  have hz1 : w.heap.size ≤ w1.heap.size := hb1.size
  have X11 := hid (hF)
  clear hb1
  clear hF
  go_wp2_with fail
  refine (toIntS_any bo bcap us w1 k3 (hu.later hB1)).mono ?_
  rintro e w2 ⟨rfl, hF, hb2⟩
  generalize hgg : (some ⟨w1.heap.size, 0, none⟩ : Option Addr) = b1 at hF ⊢
  clear hgg
  have hB2 := hB1.trans (hb2.mono hB1.size)
  have hz2 : w1.heap.size ≤ w2.heap.size := hb2.size
  have X12 := hid (X11.out.later hb2)
  have Y12 := hid (hF)
  clear X11 hb2
  clear hF
  go_wp2_with fail
  refine (specMerge_any a1 ts.length g1 ts b1 us.length us w2 k1 k2 X12.out.in Y12.out.in).mono ?_
  rw [HR.out]
  rintro e w3 ⟨⟨oS, cS, rfl, _, hF⟩, hb3⟩
  dsimp only at hF ⊢
  have hB3 := hB2.trans (hb3.mono hB2.size)
  have hz3 : w2.heap.size ≤ w3.heap.size := hb3.size
  have X13 := hid (X12.out.later hb3)
  have Y13 := hid (Y12.out.later hb3)
  have S3 := hid (hF)
  clear X12 Y12 hb3
  clear hF
  clear X13 Y13
  go_wp2_with fail
  refine (toIntSS_any ao cap hs ts w3 k1 k2 (hz.later hB3)).mono ?_
  rintro e w4 ⟨rfl, ⟨g2, hF⟩, hb4⟩
  generalize hgg : (some ⟨w3.heap.size, 0, none⟩ : Option Addr) = a2 at hF ⊢
  clear hgg
  have hB4 := hB3.trans (hb4.mono hB3.size)
  have hz4 : w3.heap.size ≤ w4.heap.size := hb4.size
  have S4 := hid (S3.out.later hb4)
  have X24 := hid (hF)
  clear S3 hb4
  clear hF
  go_wp2_with fail
  refine (toIntS_any bo bcap us w4 k3 (hu.later hB4)).mono ?_
  rintro e w5 ⟨rfl, hF, hb5⟩
  generalize hgg : (some ⟨w4.heap.size, 0, none⟩ : Option Addr) = b2 at hF ⊢
  clear hgg
  have hB5 := hB4.trans (hb5.mono hB4.size)
  have hz5 : w4.heap.size ≤ w5.heap.size := hb5.size
  have S5 := hid (S4.out.later hb5)
  have X25 := hid (X24.out.later hb5)
  have Y25 := hid (hF)
  clear S4 X24 hb5
  clear hF
  go_wp2_with fail
  refine (implMerge_any a2 ts.length g2 ts b2 us.length us w5 k1 k2 X25.out.in (fun j hj => ((X25.out.2.2.1 j hj).2.cap)) Y25.out.in).mono ?_
  rw [HR.out]
  rintro e w6 ⟨⟨oG, cG, rfl, _, hF⟩, hb6⟩
  dsimp only at hF ⊢
  have hB6 := hB5.trans (hb6.mono hB5.size)
  have hz6 : w5.heap.size ≤ w6.heap.size := hb6.size
  have S6 := hid (S5.out.later hb6)
  have X26 := hid (X25.out.later hb6)
  have Y26 := hid (Y25.out.later hb6)
  have G6 := hid (hF)
  clear S5 X25 Y25 hb6
  clear hF
  go_wp2_with fail
  refine (eqIntS_same oG oS cG cS r0 w6 (by omega) G6.out.in S6.out.in).mono ?_
  rintro e w7 ⟨rfl, hb7⟩
  have hB7 := hB6.trans (hb7.mono hB6.size)
  have hz7 : w6.heap.size ≤ w7.heap.size := hb7.size
  have S7 := hid (S6.out.later hb7)
  have X27 := hid (X26.out.later hb7)
  have Y27 := hid (Y26.out.later hb7)
  have G7 := hid (G6.out.later hb7)
  clear S6 X26 Y26 G6 hb7
  go_wp2_with fail
  refine (toIntSS_any ao cap hs ts w7 k1 k2 (hz.later hB7)).mono ?_
  rintro e w8 ⟨rfl, ⟨g3, hF⟩, hb8⟩
  generalize hgg : (some ⟨w7.heap.size, 0, none⟩ : Option Addr) = a3 at hF ⊢
  clear hgg
  have hB8 := hB7.trans (hb8.mono hB7.size)
  have hz8 : w7.heap.size ≤ w8.heap.size := hb8.size
  have S8 := hid (S7.out.later hb8)
  have X28 := hid (X27.out.later hb8)
  have Y28 := hid (Y27.out.later hb8)
  have G8 := hid (G7.out.later hb8)
  have X38 := hid (hF)
  clear S7 X27 Y27 G7 hb8
  clear hF
  go_wp2_with fail
  refine (eqIntSS_same a2 a3 ts.length ts.length g2 g3 ts w8 k1 k2 X28.out.in X38.out.in).mono ?_
  rintro e w9 ⟨rfl, hb9⟩
  have hB9 := hB8.trans (hb9.mono hB8.size)
  have hz9 : w8.heap.size ≤ w9.heap.size := hb9.size
  have S9 := hid (S8.out.later hb9)
  have X29 := hid (X28.out.later hb9)
  have Y29 := hid (Y28.out.later hb9)
  have G9 := hid (G8.out.later hb9)
  have X39 := hid (X38.out.later hb9)
  clear S8 X28 Y28 G8 X38 hb9
  clear X39
  go_wp2_with fail
  refine (toIntS_any bo bcap us w9 k3 (hu.later hB9)).mono ?_
  rintro e w10 ⟨rfl, hF, hb10⟩
  generalize hgg : (some ⟨w9.heap.size, 0, none⟩ : Option Addr) = b3 at hF ⊢
  clear hgg
  have hB10 := hB9.trans (hb10.mono hB9.size)
  have hz10 : w9.heap.size ≤ w10.heap.size := hb10.size
  have S10 := hid (S9.out.later hb10)
  have X210 := hid (X29.out.later hb10)
  have Y210 := hid (Y29.out.later hb10)
  have G10 := hid (G9.out.later hb10)
  have Y310 := hid (hF)
  clear S9 X29 Y29 G9 hb10
  clear hF
  go_wp2_with fail
  refine (eqIntS_same b2 b3 us.length us.length us w10 k3 Y210.out.in Y310.out.in).mono ?_
  rintro e w11 ⟨rfl, hb11⟩
  have hB11 := hB10.trans (hb11.mono hB10.size)
  have hz11 : w10.heap.size ≤ w11.heap.size := hb11.size
  have S11 := hid (S10.out.later hb11)
  have X211 := hid (X210.out.later hb11)
  have Y211 := hid (Y210.out.later hb11)
  have G11 := hid (G10.out.later hb11)
  have Y311 := hid (Y310.out.later hb11)
  clear S10 X210 Y210 G10 Y310 hb11
  clear Y311
  go_wp2_with fail
  refine (markIntSS_any w3.heap.size w4.heap.size a2 ts.length g2 ts 1 w11 k1 k2 (by omega) (by omega) X211.out).mono ?_
  rintro e w12 ⟨rfl, _, hbt⟩
  have hb12 : Between w3.heap.size w4.heap.size w11 w12 := hbt
  have hB12 := hB11.trans ((hb12.below (by omega)).mono (by omega))
  have hz12 : w11.heap.size ≤ w12.heap.size := hb12.size
  have S12 := hid (S11.out.between' hb12 (by omega))
  have Y212 := hid (Y211.out.between' hb12 (by omega))
  have G12 := hid (G11.out.between' hb12 (by omega))
  clear G11 X211 S11 Y211 hb12
  clear hbt
  go_wp2_with fail
  refine (markIntS_any w4.heap.size w5.heap.size b2 us.length us (1 + tot ts) w12 (by omega) (by omega) (by omega) Y212.out).mono ?_
  rintro e w13 ⟨rfl, _, hOz⟩
  have hb13 : Between w4.heap.size w5.heap.size w12 w13 := Y212.out.between hOz
  have hB13 := hB12.trans ((hb13.below (by omega)).mono (by omega))
  have hz13 : w12.heap.size ≤ w13.heap.size := hb13.size
  have S13 := hid (S12.out.between' hb13 (by omega))
  have G13 := hid (G12.out.between' hb13 (by omega))
  clear G12 S12 Y212 hb13
  clear hOz
  have hk0 : decide ((1 : Int) + (tot ts : Int) + (us.length : Int) < 0) = false := by simp; omega
  go_wp2_with fail
  refine (eqIntS_same oG oS cG cS r0 w13 (by omega) G13.out.in S13.out.in).mono ?_
  rintro e w14 ⟨rfl, hb14⟩
  have hB14 := hB13.trans (hb14.mono hB13.size)
  have hz14 : w13.heap.size ≤ w14.heap.size := hb14.size
  have S14 := hid (S13.out.later hb14)
  have G14 := hid (G13.out.later hb14)
  clear S13 G13 hb14
  go_wp2_with fail
  refine (markIntS_any w5.heap.size w6.heap.size oG cG r0 1 w14 (by omega) (by omega) (by omega) G14.out).mono ?_
  rintro e w15 ⟨rfl, hT, hOz⟩
  have hb15 : Between w5.heap.size w6.heap.size w14 w15 := G14.out.between hOz
  have hB15 := hB14.trans ((hb15.below (by omega)).mono (by omega))
  have hz15 : w14.heap.size ≤ w15.heap.size := hb15.size
  have S15 := hid (S14.out.between' hb15 (by omega))
  have G15 := hid (hT)
  clear G14 S14 hb15
  clear hOz hT
  have hmq : (1 + (r0.length : Int) != 1 + (r0.length : Int)) = false := by simp
  go_wp2_with fail
  refine (heldIntS_any oG cG r0.length 1 w15 (by omega) (by omega) (by omega) G15.out.in).mono ?_
  rintro e wx ⟨rfl, hws⟩
  rw [hws]; clear hws wx
  go_wp2_with fail
  refine (toIntSS_any ao cap hs ts w15 k1 k2 (hz.later hB15)).mono ?_
  rintro e w16 ⟨rfl, ⟨g4, hF⟩, hb16⟩
  generalize hgg : (some ⟨w15.heap.size, 0, none⟩ : Option Addr) = a4 at hF ⊢
  clear hgg
  have hB16 := hB15.trans (hb16.mono hB15.size)
  have hz16 : w15.heap.size ≤ w16.heap.size := hb16.size
  have S16 := hid (S15.out.later hb16)
  have G16 := hid (G15.out.later hb16)
  have X416 := hid (hF)
  clear S15 G15 hb16
  clear hF
  go_wp2_with fail
  refine (toIntS_any bo bcap us w16 k3 (hu.later hB16)).mono ?_
  rintro e w17 ⟨rfl, hF, hb17⟩
  generalize hgg : (some ⟨w16.heap.size, 0, none⟩ : Option Addr) = b4 at hF ⊢
  clear hgg
  have hB17 := hB16.trans (hb17.mono hB16.size)
  have hz17 : w16.heap.size ≤ w17.heap.size := hb17.size
  have S17 := hid (S16.out.later hb17)
  have G17 := hid (G16.out.later hb17)
  have X417 := hid (X416.out.later hb17)
  have Y417 := hid (hF)
  clear S16 G16 X416 hb17
  clear hF
  go_wp2_with fail
  refine (implMerge_any a4 ts.length g4 ts b4 us.length us w17 k1 k2 X417.out.in (fun j hj => ((X417.out.2.2.1 j hj).2.cap)) Y417.out.in).mono ?_
  rw [HR.out]
  rintro e w18 ⟨⟨oH, cH, rfl, _, hF⟩, hb18⟩
  dsimp only at hF ⊢
  have hB18 := hB17.trans (hb18.mono hB17.size)
  have hz18 : w17.heap.size ≤ w18.heap.size := hb18.size
  have S18 := hid (S17.out.later hb18)
  have G18 := hid (G17.out.later hb18)
  have X418 := hid (X417.out.later hb18)
  have Y418 := hid (Y417.out.later hb18)
  have H18 := hid (hF)
  clear S17 G17 X417 Y417 hb18
  clear hF
  clear X418 Y418
  go_wp2_with fail
  refine (eqIntS_same oH oS cH cS r0 w18 (by omega) H18.out.in S18.out.in).mono ?_
  rintro e w19 ⟨rfl, hb19⟩
  have hB19 := hB18.trans (hb19.mono hB18.size)
  have hz19 : w18.heap.size ≤ w19.heap.size := hb19.size
  have S19 := hid (S18.out.later hb19)
  have G19 := hid (G18.out.later hb19)
  have H19 := hid (H18.out.later hb19)
  clear S18 G18 H18 hb19
  clear H19 S19
  go_wp2_with fail
  refine (heldIntS_any oG cG r0.length 1 w19 (by omega) (by omega) (by omega) G19.out.in).mono ?_
  rintro e wx ⟨rfl, hws⟩
  rw [hws]; clear hws wx
  go_wp2
  go_ret
  exact ⟨rfl, hB19⟩
end Go.Proofs.Ytnjnnilmelmmgaa
