
/- The walk of the law of CloseIn: it returns true. No conditions but those written. -/
import Derived.Test.YtdjdbcfcccbhpaaPYnLcx
namespace Go.Proofs.Ytdjdbcfcccbhpaa
open Go.RowKit Go.Maps

set_option maxRecDepth 100000 in
set_option maxHeartbeats 16000000 in
theorem lawCloseIn_any (ao : Option Addr) (cap : Nat) (ts : List LChan) (k : Int) (w : World) (hl : ts.length ≤ 9223372036854775807) (hle : ∀ a ∈ ts, (a.2.2.1).2.2.length ≤ 9223372036854775807 ∧ (a.2.2.2.1).2.2.length ≤ 9223372036854775807 ∧ (a.2.2.2.2).2.2.length ≤ 9223372036854775807) (hz : DIn dChan w.heap.size w ao ts) :
    Calls Try.prog 3 #[.agg #[.slice ao ts.length cap], .int .i64 k] w fun e w' => e = .returned (.bool true) ∧ Below w.heap.size w w' := by
  have HZ := hid hz
  have HLE := hid hle
  clear hz hle
  go_enter Try.func3, Try.ntmps3
  go_wp2_with fail
  have hn0 := below1 w (.cells #[.slice ao ts.length cap] 24)
  refine (szHub_le ao cap ts _ hl HLE.out (by exact HZ.out.later dChan_ok hn0)).mono ?_
  rintro e w1 ⟨⟨z, rfl, hz1', hr⟩, hb1⟩
  have A1 := hid ((Bx.new (w := w) (p := w.heap.size) [.slice ao ts.length cap] 24 rfl).later hb1)
  have hB1 := hn0.trans (hb1.mono (by simp))
  have hz1 := hB1.size
  have hA1 := A1.out.size
  clear hb1 hn0
  rcases hr with hr | ⟨hr0, hl2, htt⟩
  · go_wp2
    go_ret
    exact ⟨rfl, hB1⟩
  have HTT := hid htt
  have hz0' : decide (z < 0) = false := by simpa using hr0
  clear htt
  have hrl : (closeR (ts.map valChan) k).1.length ≤ 1048576 := Nat.le_trans (closeR_len _ _) (by rw [List.length_map]; exact hl2)
  have hrt : totP (closeR (ts.map valChan) k).1 ≤ 1048576 := Nat.le_trans (closeR_tot _ _) (by rw [← totChan_P]; exact HTT.out)
  have hrk : (closeR (ts.map valChan) k).2.1.length ≤ 1048576 := Nat.le_trans (closeR_told _ _) (by rw [← totChan_P]; exact HTT.out)
  generalize hR : closeR (ts.map valChan) k = R at hrl hrt hrk
  have HR := hid hR
  clear hR
  obtain ⟨r0, r1, r2⟩ := R
  dsimp only at hrl hrt hrk
  have HRT := hid hrt
  have hne1 : (r2 != r2) = false := by simp
  clear hrt
  have a_0 := A1.out.c 0 rfl
  go_wp2_with fail
  clear a_0
  refine (toHub_any ao cap ts w1 hl2 (fits_of HTT.out) (HZ.out.later dChan_ok hB1)).mono ?_
  rintro e w2 ⟨g2, us2, rfl, hv, hF, hb2⟩
  have HV2 := hid hv
  have HL2 := hid (len_val hv)
  have hB2 := hB1.trans (hb2.mono hB1.size)
  have hz2 : w1.heap.size ≤ w2.heap.size := hb2.size
  have A2 := hid (A1.out.later hb2)
  have X22 := hid (FrHub.of hF)
  clear A1 hb2
  clear hF hv
  go_wp2_with fail
  refine (specCloseIn_of g2 ts.length us2 ts k w2 HL2.out HV2.out hl2 HTT.out X22.out.in).mono ?_
  rw [HR.out]
  rintro e w3 ⟨⟨oS, cS, usS, woS, wcS, rfl, hv, hW, hF⟩, hb3⟩
  have HVS : Hid (usS.map valChan = r0) := hv
  dsimp only at hF hW ⊢
  have hB3 := hB2.trans (hb3.mono hB2.size)
  have hz3 : w2.heap.size ≤ w3.heap.size := hb3.size
  have A3 := hid (A2.out.later hb3)
  have X23 := hid (X22.out.later hb3)
  have S3 := hid (FrH.of hF)
  have WS3 := hid (hW)
  clear A2 X22 hb3
  clear hF hv hW
  clear X23
  have pA0 := A3.out.c 0 rfl
  have pAz := A3.out.size
  obtain ⟨w4, hwn⟩ : ∃ V, V = w3.alloc (.cells #[.slice oS r0.length cS] 28) := ⟨_, rfl⟩
  have hb4 : Below w3.heap.size w3 w4 := by rw [hwn]; exact below1 _ _
  have hB4 := hB3.trans (hb4.mono hB3.size)
  have hz4 : w3.heap.size ≤ w4.heap.size := hb4.size
  have A4 := hid (A3.out.later hb4)
  have S4 := hid (S3.out.later hb4)
  have WS4 := hid (WS3.out.later hb4)
  have D4 : Hid (Bx w4 w3.heap.size [.slice oS r0.length cS]) := by rw [hwn]; exact Bx.new [.slice oS r0.length cS] _ rfl
  have hy4 : w3.heap.size < w4.heap.size := D4.out.size
  have HA4 := hid hwn
  clear hwn A3 S3 WS3 hb4
  go_wp2_with fail
  clear pA0 pAz
  rw [← HA4.out]
  refine (toHub_any ao cap ts w4 hl2 (fits_of HTT.out) (HZ.out.later dChan_ok hB4)).mono ?_
  rintro e w5 ⟨g5, us5, rfl, hv, hF, hb5⟩
  have HV5 := hid hv
  have HL5 := hid (len_val hv)
  have hB5 := hB4.trans (hb5.mono hB4.size)
  have hz5 : w4.heap.size ≤ w5.heap.size := hb5.size
  have A5 := hid (A4.out.later hb5)
  have S5 := hid (S4.out.later hb5)
  have WS5 := hid (WS4.out.later hb5)
  have D5 := hid (D4.out.later hb5)
  have X55 := hid (FrHub.of hF)
  clear A4 S4 WS4 D4 hb5
  clear hF hv
  obtain ⟨w6, hwn⟩ : ∃ V, V = w5.alloc (.cells #[.slice (some ⟨g5, 0, none⟩) ts.length ts.length] 28) := ⟨_, rfl⟩
  have hb6 : Below w5.heap.size w5 w6 := by rw [hwn]; exact below1 _ _
  have hB6 := hB5.trans (hb6.mono hB5.size)
  have hz6 : w5.heap.size ≤ w6.heap.size := hb6.size
  have A6 := hid (A5.out.later hb6)
  have S6 := hid (S5.out.later hb6)
  have WS6 := hid (WS5.out.later hb6)
  have D6 := hid (D5.out.later hb6)
  have X56 := hid (X55.out.later hb6)
  have P6 : Hid (Bx w6 w5.heap.size [.slice (some ⟨g5, 0, none⟩) ts.length ts.length]) := by rw [hwn]; exact Bx.new [.slice (some ⟨g5, 0, none⟩) ts.length ts.length] _ rfl
  have hy6 : w5.heap.size < w6.heap.size := P6.out.size
  have HA6 := hid hwn
  clear hwn A5 S5 WS5 D5 X55 hb6
  go_wp2_with fail
  rw [← HA6.out]
  refine (implCloseIn_of g5 ts.length us5 ts k w6 HL5.out HV5.out hl2 HTT.out X56.out.in).mono ?_
  rw [HR.out]
  rintro e w7 ⟨⟨mG, oG, cG, usG, woG, wcG, rfl, hv, hm1, hm2, hW, hF⟩, hb7⟩
  have HVG : Hid (usG.map valChan = r0) := hv
  dsimp only at hF hW ⊢
  have hMG : w6.heap.size ≤ mG ∧ mG ≤ w7.heap.size := ⟨hm1, hm2⟩
  have hB7 := hB6.trans (hb7.mono hB6.size)
  have hz7 : w6.heap.size ≤ w7.heap.size := hb7.size
  have A7 := hid (A6.out.later hb7)
  have S7 := hid (S6.out.later hb7)
  have WS7 := hid (WS6.out.later hb7)
  have D7 := hid (D6.out.later hb7)
  have X57 := hid (X56.out.later hb7)
  have P7 := hid (P6.out.later hb7)
  have G7 := hid (FrH.of hF)
  have WG7 := hid (hW)
  clear A6 S6 WS6 D6 X56 P6 hb7
  clear hF hv hW hm1 hm2
  have pD0 := D7.out.c 0 rfl
  have pDz := D7.out.size
  obtain ⟨w8, hwn⟩ : ∃ V, V = w7.alloc (.cells #[.slice oG r0.length cG] 28) := ⟨_, rfl⟩
  have hb8 : Below w7.heap.size w7 w8 := by rw [hwn]; exact below1 _ _
  have hB8 := hB7.trans (hb8.mono hB7.size)
  have hz8 : w7.heap.size ≤ w8.heap.size := hb8.size
  have A8 := hid (A7.out.later hb8)
  have S8 := hid (S7.out.later hb8)
  have WS8 := hid (WS7.out.later hb8)
  have D8 := hid (D7.out.later hb8)
  have X58 := hid (X57.out.later hb8)
  have P8 := hid (P7.out.later hb8)
  have G8 := hid (G7.out.later hb8)
  have WG8 := hid (WG7.out.later hb8)
  have K8 : Hid (Bx w8 w7.heap.size [.slice oG r0.length cG]) := by rw [hwn]; exact Bx.new [.slice oG r0.length cG] _ rfl
  have hy8 : w7.heap.size < w8.heap.size := K8.out.size
  have HA8 := hid hwn
  clear hwn A7 S7 WS7 D7 X57 P7 G7 WG7 hb8
  go_wp2_with fail
  clear pD0 pDz
  rw [← HA8.out]
  refine (eqHub_of oG oS cG cS usG usS r0 w8 HVG.out HVS.out hrl HRT.out G8.out.in S8.out.in).mono ?_
  rintro e w9 ⟨rfl, hb9⟩
  have hB9 := hB8.trans (hb9.mono hB8.size)
  have hz9 : w8.heap.size ≤ w9.heap.size := hb9.size
  have A9 := hid (A8.out.later hb9)
  have S9 := hid (S8.out.later hb9)
  have WS9 := hid (WS8.out.later hb9)
  have D9 := hid (D8.out.later hb9)
  have X59 := hid (X58.out.later hb9)
  have P9 := hid (P8.out.later hb9)
  have G9 := hid (G8.out.later hb9)
  have WG9 := hid (WG8.out.later hb9)
  have K9 := hid (K8.out.later hb9)
  clear A8 S8 WS8 D8 X58 P8 G8 WG8 K8 hb9
  go_wp2_with fail
  refine (eqWokenS_same woG woS wcG wcS r1 w9 hrk WG9.out.in WS9.out.in).mono ?_
  rintro e w10 ⟨rfl, hb10⟩
  have hB10 := hB9.trans (hb10.mono hB9.size)
  have hz10 : w9.heap.size ≤ w10.heap.size := hb10.size
  have A10 := hid (A9.out.later hb10)
  have S10 := hid (S9.out.later hb10)
  have WS10 := hid (WS9.out.later hb10)
  have D10 := hid (D9.out.later hb10)
  have X510 := hid (X59.out.later hb10)
  have P10 := hid (P9.out.later hb10)
  have G10 := hid (G9.out.later hb10)
  have WG10 := hid (WG9.out.later hb10)
  have K10 := hid (K9.out.later hb10)
  clear A9 S9 WS9 D9 X59 P9 G9 WG9 K9 hb10
  have a_0 := A10.out.c 0 rfl
  have p_0 := P10.out.c 0 rfl
  go_wp2
  go_region_with (first
    | (go_at_call 6; refine (toHub_any ao cap ts _ hl2 (fits_of HTT.out) (by exact HZ.out.later dChan_ok hB10.drew)).mono ?_; rintro e wy ⟨gy, usy, rfl, hvy, hFy, hby⟩; have hbo : Below w10.heap.size w10 wy := (Below.refl w10.heap.size w10).drew.trans hby; have By : Bx wy w5.heap.size [.slice (some ⟨g5, 0, none⟩) ts.length ts.length] := P10.out.later hbo; have y0 := By.c 0 rfl; have Fy : Hid (usy.map valChan = ts.map valChan ∧ DIn dChan wy.heap.size wy (some ⟨g5, 0, none⟩) us5 ∧ DIn dChan wy.heap.size wy (some ⟨gy, 0, none⟩) usy) := ⟨hvy, (X510.out.later hbo).in, hFy.in dChan_ok⟩; clear hby hFy hvy)
    | (go_at_call 8; refine (eqHub_len HL5.out (len_val Fy.out.1) (eqHub_same (some ⟨g5, 0, none⟩) (some ⟨gy, 0, none⟩) ts.length ts.length us5 usy _ (by rw [HL5.out]; exact hl2) (fits_val (fits_of HTT.out) HV5.out) (HV5.out.trans Fy.out.1.symm) (by exact Fy.out.2.1) (by exact Fy.out.2.2))).mono ?_; rintro e w11 ⟨rfl, hbz⟩; have hbq : Below w10.heap.size w10 w11 := hbo.trans (hbz.mono hbo.size); have hB11 : Below w.heap.size w w11 := hB10.trans (hbq.mono hB10.size); have hz11 : w10.heap.size ≤ w11.heap.size := hbq.size; have A11 := hid (A10.out.later hbq); have S11 := hid (S10.out.later hbq); have WS11 := hid (WS10.out.later hbq); have D11 := hid (D10.out.later hbq); have X511 := hid (X510.out.later hbq); have P11 := hid (P10.out.later hbq); have G11 := hid (G10.out.later hbq); have WG11 := hid (WG10.out.later hbq); have K11 := hid (K10.out.later hbq); clear hbz hbq))
  all_goals
    clear a_0 p_0 y0 By Fy hbo A10 S10 WS10 D10 X510 P10 G10 WG10 K10
    have p_0 := P11.out.c 0 rfl
    go_wp2_with fail
    clear p_0
    refine (markHub_of (w4.heap.size) w5.heap.size g5 ts.length ts.length us5 1 w11 HL5.out (by rw [HL5.out]; exact hl2) (by rw [tot_val HV5.out]; exact HTT.out) (by omega) (by omega) X511.out).mono ?_
    rintro e w12 ⟨⟨kk, rfl, hkk1, hkk2⟩, hbt⟩
    have hb12 : Between w4.heap.size w5.heap.size w11 w12 := hbt
    have hB12 := hB11.trans ((hb12.below (by omega)).mono (by omega))
    have hz12 : w11.heap.size ≤ w12.heap.size := hb12.size
    have A12 := hid (A11.out.between hb12 (by omega))
    have S12 := hid (S11.out.between' hb12 (by omega))
    have WS12 := hid (WS11.out.between' hb12 (by omega))
    have D12 := hid (D11.out.between hb12 (by omega))
    have P12 := hid (P11.out.between hb12 (by omega))
    have G12 := hid (G11.out.between' hb12 (by omega))
    have WG12 := hid (WG11.out.between' hb12 (by omega))
    have K12 := hid (K11.out.between hb12 (by omega))
    clear A11 S11 P11 X511 D11 WS11 K11 G11 WG11 hb12
    clear hbt
    have hk0 : decide (kk < 0) = false := by simp; omega
    have k_0 := K12.out.c 0 rfl
    have d_0 := D12.out.c 0 rfl
    go_wp2_with fail
    clear k_0 d_0
    refine (eqHub_of oG oS cG cS usG usS r0 w12 HVG.out HVS.out hrl HRT.out G12.out.in S12.out.in).mono ?_
    rintro e w13 ⟨rfl, hb13⟩
    have hB13 := hB12.trans (hb13.mono hB12.size)
    have hz13 : w12.heap.size ≤ w13.heap.size := hb13.size
    have A13 := hid (A12.out.later hb13)
    have S13 := hid (S12.out.later hb13)
    have WS13 := hid (WS12.out.later hb13)
    have D13 := hid (D12.out.later hb13)
    have P13 := hid (P12.out.later hb13)
    have G13 := hid (G12.out.later hb13)
    have WG13 := hid (WG12.out.later hb13)
    have K13 := hid (K12.out.later hb13)
    clear A12 S12 WS12 D12 P12 G12 WG12 K12 hb13
    go_wp2_with fail
    refine (eqWokenS_same woG woS wcG wcS r1 w13 hrk WG13.out.in WS13.out.in).mono ?_
    rintro e w14 ⟨rfl, hb14⟩
    have hB14 := hB13.trans (hb14.mono hB13.size)
    have hz14 : w13.heap.size ≤ w14.heap.size := hb14.size
    have A14 := hid (A13.out.later hb14)
    have S14 := hid (S13.out.later hb14)
    have WS14 := hid (WS13.out.later hb14)
    have D14 := hid (D13.out.later hb14)
    have P14 := hid (P13.out.later hb14)
    have G14 := hid (G13.out.later hb14)
    have WG14 := hid (WG13.out.later hb14)
    have K14 := hid (K13.out.later hb14)
    clear A13 S13 WS13 D13 P13 G13 WG13 K13 hb14
    have k_0 := K14.out.c 0 rfl
    go_wp2_with fail
    clear k_0
    refine (markHub_ex (mG) w7.heap.size oG cG usG r0 1 w14 HVG.out hrl HRT.out (by omega) (by omega) G14.out).mono ?_
    rintro e w15 ⟨rfl, hT, hbt⟩
    have hb15 : Between mG w7.heap.size w14 w15 := hbt
    have hB15 := hB14.trans ((hb15.below (by omega)).mono (by omega))
    have hz15 : w14.heap.size ≤ w15.heap.size := hb15.size
    have A15 := hid (A14.out.between hb15 (by omega))
    have S15 := hid (S14.out.between' hb15 (by omega))
    have WS15 := hid (WS14.out.between' hb15 (by omega))
    have D15 := hid (D14.out.between hb15 (by omega))
    have P15 := hid (P14.out.between hb15 (by omega))
    have WG15 := hid (WG14.out.between' hb15 (by omega))
    have K15 := hid (K14.out.between hb15 (by omega))
    have G15 := hid (hT)
    clear A14 S14 P14 D14 WS14 K14 G14 WG14 hb15
    clear hbt hT
    have hend : 1 ≤ endC 1 usG ∧ endC 1 usG ≤ 8000000 := by have h1 := endC_is 1 usG; have h2 : totChan usG ≤ 1048576 := (by rw [totChan_P, HVG.out]; exact HRT.out); have h3 : usG.length ≤ 1048576 := (by have := congrArg List.length HVG.out; simp at this; omega); omega
    generalize hmm : endC 1 usG = mm at hend ⊢
    have HMM := hid hmm
    clear hmm
    have hm0 : decide (mm < 0) = false := by simp; omega
    have k_0 := K15.out.c 0 rfl
    go_wp2_with fail
    clear k_0
    refine (markWokenS_any (w6.heap.size) mG woG wcG r1 mm w15 (by omega) (by omega) (by omega) WG15.out).mono ?_
    rintro e w16 ⟨rfl, hT, hOn⟩
    have hb16 : Between w6.heap.size mG w15 w16 := WG15.out.between hOn
    have hB16 := hB15.trans ((hb16.below (by omega)).mono (by omega))
    have hz16 : w15.heap.size ≤ w16.heap.size := hb16.size
    have A16 := hid (A15.out.between hb16 (by omega))
    have S16 := hid (S15.out.between' hb16 (by omega))
    have WS16 := hid (WS15.out.between' hb16 (by omega))
    have D16 := hid (D15.out.between hb16 (by omega))
    have P16 := hid (P15.out.between hb16 (by omega))
    have G16 := hid (G15.out.between' hb16 (by omega))
    have K16 := hid (K15.out.between hb16 (by omega))
    have WG16 := hid (hT)
    clear A15 S15 P15 D15 WS15 K15 G15 WG15 hb16
    clear hOn hT
    have hm2 : decide (mm + 4 * (r1.length : Int) < 0) = false := by simp; omega
    have hm3 : (mm + 4 * (r1.length : Int) != mm + 4 * (r1.length : Int)) = false := by simp
    have k_0 := K16.out.c 0 rfl
    go_wp2_with fail
    clear k_0
    refine (heldHub_ex oG cG usG r0 1 w16 HVG.out hrl HRT.out (by omega) (by omega) G16.out.in).mono ?_
    rw [HMM.out]
    rintro e w17 ⟨rfl, hb17⟩
    have hB17 := hB16.trans (hb17.mono hB16.size)
    have hz17 : w16.heap.size ≤ w17.heap.size := hb17.size
    have A17 := hid (A16.out.later hb17)
    have S17 := hid (S16.out.later hb17)
    have WS17 := hid (WS16.out.later hb17)
    have D17 := hid (D16.out.later hb17)
    have P17 := hid (P16.out.later hb17)
    have G17 := hid (G16.out.later hb17)
    have WG17 := hid (WG16.out.later hb17)
    have K17 := hid (K16.out.later hb17)
    clear A16 S16 WS16 D16 P16 G16 WG16 K16 hb17
    go_wp2_with fail
    refine (heldWokenS_any woG wcG r1.length mm w17 (by omega) (by omega) (by omega) WG17.out.in).mono ?_
    rintro e wx ⟨rfl, hwx⟩
    rw [hwx]; clear hwx wx
    have a_0 := A17.out.c 0 rfl
    go_wp2_with fail
    clear a_0
    refine (toHub_any ao cap ts w17 hl2 (fits_of HTT.out) (HZ.out.later dChan_ok hB17)).mono ?_
    rintro e w18 ⟨g7, us7, rfl, hv, hF, hb18⟩
    have HV7 := hid hv
    have HL7 := hid (len_val hv)
    have hB18 := hB17.trans (hb18.mono hB17.size)
    have hz18 : w17.heap.size ≤ w18.heap.size := hb18.size
    have A18 := hid (A17.out.later hb18)
    have S18 := hid (S17.out.later hb18)
    have WS18 := hid (WS17.out.later hb18)
    have D18 := hid (D17.out.later hb18)
    have P18 := hid (P17.out.later hb18)
    have G18 := hid (G17.out.later hb18)
    have WG18 := hid (WG17.out.later hb18)
    have K18 := hid (K17.out.later hb18)
    have X718 := hid (FrHub.of hF)
    clear A17 S17 WS17 D17 P17 G17 WG17 K17 hb18
    clear hF hv
    go_wp2_with fail
    refine (implCloseIn_of g7 ts.length us7 ts k w18 HL7.out HV7.out hl2 HTT.out X718.out.in).mono ?_
    rw [HR.out]
    rintro e w19 ⟨⟨mH, oH, cH, usH, woH, wcH, rfl, hv, hm1, hm2, hW, hF⟩, hb19⟩
    have HVH : Hid (usH.map valChan = r0) := hv
    dsimp only at hF hW ⊢
    have hMH : w18.heap.size ≤ mH ∧ mH ≤ w19.heap.size := ⟨hm1, hm2⟩
    have hB19 := hB18.trans (hb19.mono hB18.size)
    have hz19 : w18.heap.size ≤ w19.heap.size := hb19.size
    have A19 := hid (A18.out.later hb19)
    have S19 := hid (S18.out.later hb19)
    have WS19 := hid (WS18.out.later hb19)
    have D19 := hid (D18.out.later hb19)
    have P19 := hid (P18.out.later hb19)
    have G19 := hid (G18.out.later hb19)
    have WG19 := hid (WG18.out.later hb19)
    have K19 := hid (K18.out.later hb19)
    have X719 := hid (X718.out.later hb19)
    have H19 := hid (FrH.of hF)
    have WH19 := hid (hW)
    clear A18 S18 WS18 D18 P18 G18 WG18 K18 X718 hb19
    clear hF hv hW hm1 hm2
    clear X719
    have pD0 := D19.out.c 0 rfl
    have pDz := D19.out.size
    obtain ⟨w20, hwn⟩ : ∃ V, V = w19.alloc (.cells #[.slice oH r0.length cH] 28) := ⟨_, rfl⟩
    have hb20 : Below w19.heap.size w19 w20 := by rw [hwn]; exact below1 _ _
    have hB20 := hB19.trans (hb20.mono hB19.size)
    have hz20 : w19.heap.size ≤ w20.heap.size := hb20.size
    have A20 := hid (A19.out.later hb20)
    have S20 := hid (S19.out.later hb20)
    have WS20 := hid (WS19.out.later hb20)
    have D20 := hid (D19.out.later hb20)
    have P20 := hid (P19.out.later hb20)
    have G20 := hid (G19.out.later hb20)
    have WG20 := hid (WG19.out.later hb20)
    have K20 := hid (K19.out.later hb20)
    have H20 := hid (H19.out.later hb20)
    have WH20 := hid (WH19.out.later hb20)
    have J20 : Hid (Bx w20 w19.heap.size [.slice oH r0.length cH]) := by rw [hwn]; exact Bx.new [.slice oH r0.length cH] _ rfl
    have hy20 : w19.heap.size < w20.heap.size := J20.out.size
    have HA20 := hid hwn
    clear hwn A19 S19 WS19 D19 P19 G19 WG19 K19 H19 WH19 hb20
    go_wp2_with fail
    clear pD0 pDz
    rw [← HA20.out]
    refine (eqHub_of oH oS cH cS usH usS r0 w20 HVH.out HVS.out hrl HRT.out H20.out.in S20.out.in).mono ?_
    rintro e w21 ⟨rfl, hb21⟩
    have hB21 := hB20.trans (hb21.mono hB20.size)
    have hz21 : w20.heap.size ≤ w21.heap.size := hb21.size
    have A21 := hid (A20.out.later hb21)
    have S21 := hid (S20.out.later hb21)
    have WS21 := hid (WS20.out.later hb21)
    have D21 := hid (D20.out.later hb21)
    have P21 := hid (P20.out.later hb21)
    have G21 := hid (G20.out.later hb21)
    have WG21 := hid (WG20.out.later hb21)
    have K21 := hid (K20.out.later hb21)
    have H21 := hid (H20.out.later hb21)
    have WH21 := hid (WH20.out.later hb21)
    have J21 := hid (J20.out.later hb21)
    clear A20 S20 WS20 D20 P20 G20 WG20 K20 H20 WH20 J20 hb21
    go_wp2_with fail
    refine (eqWokenS_same woH woS wcH wcS r1 w21 hrk WH21.out.in WS21.out.in).mono ?_
    rintro e w22 ⟨rfl, hb22⟩
    have hB22 := hB21.trans (hb22.mono hB21.size)
    have hz22 : w21.heap.size ≤ w22.heap.size := hb22.size
    have A22 := hid (A21.out.later hb22)
    have S22 := hid (S21.out.later hb22)
    have WS22 := hid (WS21.out.later hb22)
    have D22 := hid (D21.out.later hb22)
    have P22 := hid (P21.out.later hb22)
    have G22 := hid (G21.out.later hb22)
    have WG22 := hid (WG21.out.later hb22)
    have K22 := hid (K21.out.later hb22)
    have H22 := hid (H21.out.later hb22)
    have WH22 := hid (WH21.out.later hb22)
    have J22 := hid (J21.out.later hb22)
    clear A21 S21 WS21 D21 P21 G21 WG21 K21 H21 WH21 J21 hb22
    clear H22 S22 J22 D22 WH22 WS22
    have k_0 := K22.out.c 0 rfl
    go_wp2_with fail
    clear k_0
    refine (heldHub_ex oG cG usG r0 1 w22 HVG.out hrl HRT.out (by omega) (by omega) G22.out.in).mono ?_
    rw [HMM.out]
    rintro e w23 ⟨rfl, hb23⟩
    have hB23 := hB22.trans (hb23.mono hB22.size)
    have hz23 : w22.heap.size ≤ w23.heap.size := hb23.size
    have A23 := hid (A22.out.later hb23)
    have P23 := hid (P22.out.later hb23)
    have G23 := hid (G22.out.later hb23)
    have WG23 := hid (WG22.out.later hb23)
    have K23 := hid (K22.out.later hb23)
    clear A22 P22 G22 WG22 K22 hb23
    go_wp2_with fail
    refine (heldWokenS_any woG wcG r1.length mm w23 (by omega) (by omega) (by omega) WG23.out.in).mono ?_
    rintro e wx ⟨rfl, hwx⟩
    rw [hwx]; clear hwx wx
    go_wp2
    go_ret
    exact ⟨rfl, hB23⟩
end Go.Proofs.Ytdjdbcfcccbhpaa
