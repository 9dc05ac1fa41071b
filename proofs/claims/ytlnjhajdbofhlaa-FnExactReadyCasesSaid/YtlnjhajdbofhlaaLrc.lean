
/- The walk of the law of ReadyCases: it returns true. No conditions but those written. -/
import Derived.Test.YtlnjhajdbofhlaaSe
namespace Go.Proofs.Ytlnjhajdbofhlaa
open Go.RowKit

set_option maxRecDepth 100000 in
set_option maxHeartbeats 16000000 in
theorem lawReady_any (ao : Option Addr) (cap : Nat) (ts : List LChan) (qo : Option Addr) (qc : Nat) (l : List (Int × Bool × Int)) (w : World) (hl : ts.length ≤ 9223372036854775807) (hle : ∀ a ∈ ts, (a.2.2.1).2.2.length ≤ 9223372036854775807 ∧ (a.2.2.2.1).2.2.length ≤ 9223372036854775807 ∧ (a.2.2.2.2).2.2.length ≤ 9223372036854775807) (hz : DIn dChan w.heap.size w ao ts) (hq : l.length ≤ 9223372036854775807) (hzq : kQ.In w.heap.size w qo l) :
    Calls Try.prog 8 #[.agg #[.slice ao ts.length cap], .slice qo l.length qc] w fun e w' => e = .returned (.bool true) ∧ Below w.heap.size w w' := by
  have HZ := hid hz
  have HLE := hid hle
  clear hz hle
  have HQ := hid hzq
  clear hzq
  generalize hR : readyR (ts.map valChan) l = R
  have HR := hid hR
  clear hR
  obtain ⟨r0, r1⟩ := R
  have hne1 : (r1 != r1) = false := by simp
  go_enter Try.func8, Try.ntmps8
  go_wp2_with fail
  have hn0 := below1 w (.cells #[.slice ao ts.length cap] 51)
  refine (szHub_le ao cap ts _ hl HLE.out (by exact HZ.out.later dChan_ok hn0)).mono ?_
  rintro e w1 ⟨⟨z, rfl, hz1', hr⟩, hb1⟩
  have A1 := hid ((Bx.new (w := w) (p := w.heap.size) [.slice ao ts.length cap] 51 rfl).later hb1)
  have hB1 := hn0.trans (hb1.mono (by simp))
  have hz1 := hB1.size
  have hA1 := A1.out.size
  clear hb1 hn0
  rcases hr with hr | ⟨hr0, hl2, htt⟩
  · go_wp2
    go_ret
    exact ⟨rfl, hB1⟩
  have HTT := hid htt
  have hz0' : decide (z < 0) = false := by simpa using hr0
  clear htt
  go_wp2_with fail
  refine (szCaseS_any qo l.length qc z _ hr0 hz1' hq).mono ?_
  rintro e wz ⟨⟨r, rfl, hr1, hr2⟩, hwz⟩
  rw [hwz]; clear hwz wz
  rcases hr2 with hr2 | ⟨hr2, hr3⟩
  · go_wp2
    go_ret
    exact ⟨rfl, hB1⟩
  have hq1 : l.length ≤ 1048576 := by omega
  have hr3' : decide (r < 0) = false := by simpa using hr3
  have hql := readyR_len (ps := ts.map valChan) hq1
  rw [HR.out] at hql
  dsimp only at hql
  clear hr2 hr3
  have a_0 := A1.out.c 0 rfl
  go_wp2_with fail
  clear a_0
  refine (toHub_any ao cap ts w1 hl2 (fits_of HTT.out) (HZ.out.later dChan_ok hB1)).mono ?_
  rintro e w2 ⟨g2, us2, rfl, hv, hF, hb2⟩
  have HV2 := hid hv
  have HL2 := hid (len_val hv)
  have hB2 := hB1.trans (hb2.mono hB1.size)
  have hz2 : w1.heap.size ≤ w2.heap.size := hb2.size
  have A2 := hid (A1.out.later hb2)
  have X22 := hid (FrHub.of hF)
  clear A1 hb2
  clear hF hv
  go_wp2_with fail
  refine (toCaseS_any qo qc l w2 hq1 (HQ.out.later hB2)).mono ?_
  rintro e w3 ⟨rfl, hF, hb3⟩
  generalize hgg : (some ⟨w2.heap.size, 0, none⟩ : Option Addr) = q2 at hF ⊢
  clear hgg
  have hB3 := hB2.trans (hb3.mono hB2.size)
  have hz3 : w2.heap.size ≤ w3.heap.size := hb3.size
  have A3 := hid (A2.out.later hb3)
  have X23 := hid (X22.out.later hb3)
  have Y23 := hid (hF)
  clear A2 X22 hb3
  clear hF
  go_wp2_with fail
  refine (specReady_of g2 ts.length us2 ts q2 l.length l w3 HL2.out HV2.out hl2 HTT.out hq1 (Nat.le_refl _) X23.out.in Y23.out.in).mono ?_
  rw [HR.out]
  rintro e w4 ⟨⟨oS, cS, rfl, hF⟩, hb4⟩
  dsimp only at hF ⊢
  have hB4 := hB3.trans (hb4.mono hB3.size)
  have hz4 : w3.heap.size ≤ w4.heap.size := hb4.size
  have A4 := hid (A3.out.later hb4)
  have X24 := hid (X23.out.later hb4)
  have Y24 := hid (Y23.out.later hb4)
  have S4 := hid (hF)
  clear A3 X23 Y23 hb4
  clear hF
  clear X24 Y24
  have a_0 := A4.out.c 0 rfl
  go_wp2_with fail
  clear a_0
  refine (toHub_any ao cap ts w4 hl2 (fits_of HTT.out) (HZ.out.later dChan_ok hB4)).mono ?_
  rintro e w5 ⟨g5, us5, rfl, hv, hF, hb5⟩
  have HV5 := hid hv
  have HL5 := hid (len_val hv)
  have hB5 := hB4.trans (hb5.mono hB4.size)
  have hz5 : w4.heap.size ≤ w5.heap.size := hb5.size
  have A5 := hid (A4.out.later hb5)
  have S5 := hid (S4.out.later hb5)
  have X55 := hid (FrHub.of hF)
  clear A4 S4 hb5
  clear hF hv
  obtain ⟨w6, hwn⟩ : ∃ V, V = w5.alloc (.cells #[.slice (some ⟨g5, 0, none⟩) ts.length ts.length] 56) := ⟨_, rfl⟩
  have hb6 : Below w5.heap.size w5 w6 := by rw [hwn]; exact below1 _ _
  have hB6 := hB5.trans (hb6.mono hB5.size)
  have hz6 : w5.heap.size ≤ w6.heap.size := hb6.size
  have A6 := hid (A5.out.later hb6)
  have S6 := hid (S5.out.later hb6)
  have X56 := hid (X55.out.later hb6)
  have P6 : Hid (Bx w6 w5.heap.size [.slice (some ⟨g5, 0, none⟩) ts.length ts.length]) := by rw [hwn]; exact Bx.new [.slice (some ⟨g5, 0, none⟩) ts.length ts.length] _ rfl
  have hy6 : w5.heap.size < w6.heap.size := P6.out.size
  have HA6 := hid hwn
  clear hwn A5 S5 X55 hb6
  go_wp2_with fail
  rw [← HA6.out]
  refine (toCaseS_any qo qc l w6 hq1 (HQ.out.later hB6)).mono ?_
  rintro e w7 ⟨rfl, hF, hb7⟩
  generalize hgg : (some ⟨w6.heap.size, 0, none⟩ : Option Addr) = q5 at hF ⊢
  clear hgg
  have hB7 := hB6.trans (hb7.mono hB6.size)
  have hz7 : w6.heap.size ≤ w7.heap.size := hb7.size
  have A7 := hid (A6.out.later hb7)
  have S7 := hid (S6.out.later hb7)
  have X57 := hid (X56.out.later hb7)
  have P7 := hid (P6.out.later hb7)
  have Y57 := hid (hF)
  clear A6 S6 X56 P6 hb7
  clear hF
  have p_0 := P7.out.c 0 rfl
  go_wp2_with fail
  clear p_0
  refine (implReady_of g5 ts.length us5 ts q5 l.length l w7 HL5.out HV5.out hl2 HTT.out hq1 (Nat.le_refl _) X57.out.in Y57.out.in).mono ?_
  rw [HR.out]
  rintro e w8 ⟨⟨oG, cG, rfl, hF⟩, hb8⟩
  dsimp only at hF ⊢
  have hB8 := hB7.trans (hb8.mono hB7.size)
  have hz8 : w7.heap.size ≤ w8.heap.size := hb8.size
  have A8 := hid (A7.out.later hb8)
  have S8 := hid (S7.out.later hb8)
  have X58 := hid (X57.out.later hb8)
  have P8 := hid (P7.out.later hb8)
  have Y58 := hid (Y57.out.later hb8)
  have G8 := hid (hF)
  clear A7 S7 X57 P7 Y57 hb8
  clear hF
  go_wp2_with fail
  refine (eqIntS_same oG oS cG cS r0 w8 hql G8.out.in S8.out.in).mono ?_
  rintro e w9 ⟨rfl, hb9⟩
  have hB9 := hB8.trans (hb9.mono hB8.size)
  have hz9 : w8.heap.size ≤ w9.heap.size := hb9.size
  have A9 := hid (A8.out.later hb9)
  have S9 := hid (S8.out.later hb9)
  have X59 := hid (X58.out.later hb9)
  have P9 := hid (P8.out.later hb9)
  have Y59 := hid (Y58.out.later hb9)
  have G9 := hid (G8.out.later hb9)
  clear A8 S8 X58 P8 Y58 G8 hb9
  have a_0 := A9.out.c 0 rfl
  have p_0 := P9.out.c 0 rfl
  go_wp2
  go_region_with (first
    | (go_at_call 28; refine (toHub_any ao cap ts _ hl2 (fits_of HTT.out) (by exact HZ.out.later dChan_ok hB9.drew)).mono ?_; rintro e wy ⟨gy, usy, rfl, hvy, hFy, hby⟩; have hbo : Below w9.heap.size w9 wy := (Below.refl w9.heap.size w9).drew.trans hby; have By : Bx wy w5.heap.size [.slice (some ⟨g5, 0, none⟩) ts.length ts.length] := P9.out.later hbo; have y0 := By.c 0 rfl; have Fy : Hid (usy.map valChan = ts.map valChan ∧ DIn dChan wy.heap.size wy (some ⟨g5, 0, none⟩) us5 ∧ DIn dChan wy.heap.size wy (some ⟨gy, 0, none⟩) usy) := ⟨hvy, (X59.out.later hbo).in, hFy.in dChan_ok⟩; clear hby hFy hvy)
    | (go_at_call 30; refine (eqHub_len HL5.out (len_val Fy.out.1) (eqHub_same (some ⟨g5, 0, none⟩) (some ⟨gy, 0, none⟩) ts.length ts.length us5 usy _ (by rw [HL5.out]; exact hl2) (fits_val (fits_of HTT.out) HV5.out) (HV5.out.trans Fy.out.1.symm) (by exact Fy.out.2.1) (by exact Fy.out.2.2))).mono ?_; rintro e w10 ⟨rfl, hbz⟩; have hbq : Below w9.heap.size w9 w10 := hbo.trans (hbz.mono hbo.size); have hB10 : Below w.heap.size w w10 := hB9.trans (hbq.mono hB9.size); have hz10 : w9.heap.size ≤ w10.heap.size := hbq.size; have A10 := hid (A9.out.later hbq); have S10 := hid (S9.out.later hbq); have X510 := hid (X59.out.later hbq); have P10 := hid (P9.out.later hbq); have Y510 := hid (Y59.out.later hbq); have G10 := hid (G9.out.later hbq); clear hbz hbq))
  all_goals
    clear a_0 p_0 y0 By Fy hbo A9 S9 X59 P9 Y59 G9
    go_wp2_with fail
    refine (toCaseS_any qo qc l w10 hq1 (HQ.out.later hB10)).mono ?_
    rintro e w11 ⟨rfl, hF, hb11⟩
    generalize hgg : (some ⟨w10.heap.size, 0, none⟩ : Option Addr) = q6 at hF ⊢
    clear hgg
    have hB11 := hB10.trans (hb11.mono hB10.size)
    have hz11 : w10.heap.size ≤ w11.heap.size := hb11.size
    have A11 := hid (A10.out.later hb11)
    have S11 := hid (S10.out.later hb11)
    have X511 := hid (X510.out.later hb11)
    have P11 := hid (P10.out.later hb11)
    have Y511 := hid (Y510.out.later hb11)
    have G11 := hid (G10.out.later hb11)
    have Y611 := hid (hF)
    clear A10 S10 X510 P10 Y510 G10 hb11
    clear hF
    go_wp2_with fail
    refine (eqCaseS_same q5 q6 l.length l.length l w11 hq1 Y511.out.in Y611.out.in).mono ?_
    rintro e w12 ⟨rfl, hb12⟩
    have hB12 := hB11.trans (hb12.mono hB11.size)
    have hz12 : w11.heap.size ≤ w12.heap.size := hb12.size
    have A12 := hid (A11.out.later hb12)
    have S12 := hid (S11.out.later hb12)
    have X512 := hid (X511.out.later hb12)
    have P12 := hid (P11.out.later hb12)
    have Y512 := hid (Y511.out.later hb12)
    have G12 := hid (G11.out.later hb12)
    have Y612 := hid (Y611.out.later hb12)
    clear A11 S11 X511 P11 Y511 G11 Y611 hb12
    clear Y612
    have p_0 := P12.out.c 0 rfl
    go_wp2_with fail
    clear p_0
    refine (markHub_of (w4.heap.size) w5.heap.size g5 ts.length ts.length us5 1 w12 HL5.out (by rw [HL5.out]; exact hl2) (by rw [tot_val HV5.out]; exact HTT.out) (by omega) (by omega) X512.out).mono ?_
    rintro e w13 ⟨⟨kk, rfl, hkk1, hkk2⟩, hbt⟩
    have hb13 : Between w4.heap.size w5.heap.size w12 w13 := hbt
    have hB13 := hB12.trans ((hb13.below (by omega)).mono (by omega))
    have hz13 : w12.heap.size ≤ w13.heap.size := hb13.size
    have A13 := hid (A12.out.between hb13 (by omega))
    have S13 := hid (S12.out.between' hb13 (by omega))
    have P13 := hid (P12.out.between hb13 (by omega))
    have Y513 := hid (Y512.out.between' hb13 (by omega))
    have G13 := hid (G12.out.between' hb13 (by omega))
    clear A12 G12 P12 X512 S12 Y512 hb13
    clear hbt
    go_wp2_with fail
    refine (markCaseS_any (w6.heap.size) w7.heap.size q5 l.length l kk w13 (by omega) (by omega) (by omega) Y513.out).mono ?_
    rintro e w14 ⟨rfl, hOz⟩
    have hb14 : Between w6.heap.size w7.heap.size w13 w14 := Y513.out.between hOz
    have hB14 := hB13.trans ((hb14.below (by omega)).mono (by omega))
    have hz14 : w13.heap.size ≤ w14.heap.size := hb14.size
    have A14 := hid (A13.out.between hb14 (by omega))
    have S14 := hid (S13.out.between' hb14 (by omega))
    have P14 := hid (P13.out.between hb14 (by omega))
    have G14 := hid (G13.out.between' hb14 (by omega))
    clear A13 G13 P13 S13 Y513 hb14
    clear hOz
    have hk0 : decide (kk + 3 * (l.length : Int) < 0) = false := by simp; omega
    go_wp2_with fail
    refine (eqIntS_same oG oS cG cS r0 w14 hql G14.out.in S14.out.in).mono ?_
    rintro e w15 ⟨rfl, hb15⟩
    have hB15 := hB14.trans (hb15.mono hB14.size)
    have hz15 : w14.heap.size ≤ w15.heap.size := hb15.size
    have A15 := hid (A14.out.later hb15)
    have S15 := hid (S14.out.later hb15)
    have P15 := hid (P14.out.later hb15)
    have G15 := hid (G14.out.later hb15)
    clear A14 S14 P14 G14 hb15
    go_wp2_with fail
    refine (markIntS_any (w7.heap.size) w8.heap.size oG cG r0 1 w15 (by omega) (by omega) (by omega) G15.out).mono ?_
    rintro e w16 ⟨rfl, hT, hOz⟩
    have hb16 : Between w7.heap.size w8.heap.size w15 w16 := G15.out.between hOz
    have hB16 := hB15.trans ((hb16.below (by omega)).mono (by omega))
    have hz16 : w15.heap.size ≤ w16.heap.size := hb16.size
    have A16 := hid (A15.out.between hb16 (by omega))
    have S16 := hid (S15.out.between' hb16 (by omega))
    have P16 := hid (P15.out.between hb16 (by omega))
    have G16 := hid (hT)
    clear A15 G15 P15 S15 hb16
    clear hOz hT
    have hmq : (1 + (r0.length : Int) != 1 + (r0.length : Int)) = false := by simp
    go_wp2_with fail
    refine (heldIntS_any oG cG r0.length 1 w16 (by omega) (by omega) (by omega) G16.out.in).mono ?_
    rintro e wx ⟨rfl, hws⟩
    rw [hws]; clear hws wx
    have a_0 := A16.out.c 0 rfl
    go_wp2_with fail
    clear a_0
    refine (toHub_any ao cap ts w16 hl2 (fits_of HTT.out) (HZ.out.later dChan_ok hB16)).mono ?_
    rintro e w17 ⟨g7, us7, rfl, hv, hF, hb17⟩
    have HV7 := hid hv
    have HL7 := hid (len_val hv)
    have hB17 := hB16.trans (hb17.mono hB16.size)
    have hz17 : w16.heap.size ≤ w17.heap.size := hb17.size
    have A17 := hid (A16.out.later hb17)
    have S17 := hid (S16.out.later hb17)
    have P17 := hid (P16.out.later hb17)
    have G17 := hid (G16.out.later hb17)
    have X717 := hid (FrHub.of hF)
    clear A16 S16 P16 G16 hb17
    clear hF hv
    go_wp2_with fail
    refine (toCaseS_any qo qc l w17 hq1 (HQ.out.later hB17)).mono ?_
    rintro e w18 ⟨rfl, hF, hb18⟩
    generalize hgg : (some ⟨w17.heap.size, 0, none⟩ : Option Addr) = q7 at hF ⊢
    clear hgg
    have hB18 := hB17.trans (hb18.mono hB17.size)
    have hz18 : w17.heap.size ≤ w18.heap.size := hb18.size
    have A18 := hid (A17.out.later hb18)
    have S18 := hid (S17.out.later hb18)
    have P18 := hid (P17.out.later hb18)
    have G18 := hid (G17.out.later hb18)
    have X718 := hid (X717.out.later hb18)
    have Y718 := hid (hF)
    clear A17 S17 P17 G17 X717 hb18
    clear hF
    go_wp2_with fail
    refine (implReady_of g7 ts.length us7 ts q7 l.length l w18 HL7.out HV7.out hl2 HTT.out hq1 (Nat.le_refl _) X718.out.in Y718.out.in).mono ?_
    rw [HR.out]
    rintro e w19 ⟨⟨oH, cH, rfl, hF⟩, hb19⟩
    dsimp only at hF ⊢
    have hB19 := hB18.trans (hb19.mono hB18.size)
    have hz19 : w18.heap.size ≤ w19.heap.size := hb19.size
    have A19 := hid (A18.out.later hb19)
    have S19 := hid (S18.out.later hb19)
    have P19 := hid (P18.out.later hb19)
    have G19 := hid (G18.out.later hb19)
    have X719 := hid (X718.out.later hb19)
    have Y719 := hid (Y718.out.later hb19)
    have H19 := hid (hF)
    clear A18 S18 P18 G18 X718 Y718 hb19
    clear hF
    clear X719 Y719
    go_wp2_with fail
    refine (eqIntS_same oH oS cH cS r0 w19 hql H19.out.in S19.out.in).mono ?_
    rintro e w20 ⟨rfl, hb20⟩
    have hB20 := hB19.trans (hb20.mono hB19.size)
    have hz20 : w19.heap.size ≤ w20.heap.size := hb20.size
    have A20 := hid (A19.out.later hb20)
    have S20 := hid (S19.out.later hb20)
    have P20 := hid (P19.out.later hb20)
    have G20 := hid (G19.out.later hb20)
    have H20 := hid (H19.out.later hb20)
    clear A19 S19 P19 G19 H19 hb20
    clear H20 S20
    go_wp2_with fail
    refine (heldIntS_any oG cG r0.length 1 w20 (by omega) (by omega) (by omega) G20.out.in).mono ?_
    rintro e wx ⟨rfl, hws⟩
    rw [hws]; clear hws wx
    go_wp2
    go_ret
    exact ⟨rfl, hB20⟩
end Go.Proofs.Ytlnjhajdbofhlaa
