
/- The walk of the law of Subscribe: it returns true. No conditions but those written. -/
import Derived.Test.YtjkmpgianjkohaaSb
import Derived.Test.YtjkmpgianjkohaaTo
import Derived.Test.YtjkmpgianjkohaaLgt
namespace Go.Proofs.Ytjkmpgianjkohaa
open Go.RowKit

theorem markTopic_ts (sd : Int) (lo hi g : Nat) (us ts : List LSub) (k0 : Int) (w : World) (hv : us.map valSub = ts.map valSub) (hl : ts.length ≤ 1048576) (ht : totSub ts ≤ 1048576) (hk0 : 0 ≤ k0) (hk1 : k0 ≤ 8000000) (hF : FrH lo hi w (some ⟨g, 0, none⟩) ts.length us) :
    Calls Try.prog 13 #[.agg #[.int .i64 sd, .slice (some ⟨g, 0, none⟩) ts.length ts.length], .int .i64 k0] w fun e w' => (∃ kk : Int, e = .returned (.int .i64 kk) ∧ k0 ≤ kk ∧ kk ≤ k0 + 5242880) ∧ Between lo hi w w' := by
  have h := markTopic_of sd lo hi (some ⟨g, 0, none⟩) ts.length us (ts.map valSub) k0 w hv (by simpa using hl) (by rw [← totSub_P]; exact ht) hk0 hk1 hF
  rw [List.length_map] at h; exact h
theorem totP_app (a b : List PSub) : totP (a ++ b) = totP a + totP b := by simp [totP]
theorem subR_len (sd : Int) (ps : List PSub) (id sz : Int) (dr : Bool) : (subR sd ps id sz dr).2.1.length ≤ max ps.length 11 := by
  unfold subR
  split
  · rename_i hg
    have hl : ps.length ≤ 10 := (topicB_good (by simp at hg; exact hg.1)).2.1
    split
    · exact Nat.le_max_left _ _
    · split
      · exact Nat.le_max_left _ _
      · refine Nat.le_trans ?_ (Nat.le_max_right _ _)
        have := (pl_is ps id).1
        simp; omega
  · simp
theorem subR_tot (sd : Int) (ps : List PSub) (id sz : Int) (dr : Bool) : totP (subR sd ps id sz dr).2.1 ≤ totP ps := by
  unfold subR
  split
  · split
    · exact Nat.le_refl _
    · split
      · exact Nat.le_refl _
      · dsimp only
        have h : totP ps = totP (ps.take (pl ps id)) + totP (ps.drop (pl ps id)) := by rw [← totP_app, List.take_append_drop]
        rw [totP_app, totP_app, h]
        simp [totP]
  · exact Nat.zero_le _
theorem implSubs_of (sd : Int) (g n : Nat) (us ts : List LSub) (id sz : Int) (dr : Bool) (w : World) (hn : us.length = n) (hv : us.map valSub = ts.map valSub) (hl : ts.length ≤ 1048576) (ht : totSub ts ≤ 1048576) (hz : DIn dSub w.heap.size w (some ⟨g, 0, none⟩) us) :
    Calls Try.prog 12 #[.agg #[.int .i64 sd, .slice (some ⟨g, 0, none⟩) n n], .int .i64 id, .int .i64 sz, .bool dr] w fun e w' => AnsS w (subR sd (ts.map valSub) id sz dr) e w' := by
  subst hn
  rw [← hv]
  exact implSubs_any sd _ _ us id sz dr w (by rw [len_val hv]; exact hl) (fits_val ht hv) hz
theorem specSubs_of (sd : Int) (g n : Nat) (us ts : List LSub) (id sz : Int) (dr : Bool) (w : World) (hn : us.length = n) (hv : us.map valSub = ts.map valSub) (hl : ts.length ≤ 1048576) (ht : totSub ts ≤ 1048576) (hz : DIn dSub w.heap.size w (some ⟨g, 0, none⟩) us) :
    Calls Try.prog 11 #[.agg #[.int .i64 sd, .slice (some ⟨g, 0, none⟩) n n], .int .i64 id, .int .i64 sz, .bool dr] w fun e w' => AnsS w (subR sd (ts.map valSub) id sz dr) e w' := by
  subst hn
  rw [← hv]
  exact specSubs_any sd _ _ us id sz dr w (by rw [len_val hv]; exact hl) (fits_val ht hv) hz
set_option maxRecDepth 100000 in
set_option maxHeartbeats 16000000 in
theorem lawSub_any (sd : Int) (ao : Option Addr) (cap : Nat) (ts : List LSub) (id sz : Int) (dr : Bool) (w : World) (hl : ts.length ≤ 9223372036854775807) (hle : ∀ a ∈ ts, (a.2.2.2.2).2.2.length ≤ 9223372036854775807) (hz : DIn dSub w.heap.size w ao ts) :
    Calls Try.prog 4 #[.agg #[.int .i64 sd, .slice ao ts.length cap], .int .i64 id, .int .i64 sz, .bool dr] w fun e w' => e = .returned (.bool true) ∧ Below w.heap.size w w' := by
  have HZ := hid hz
  have HLE := hid hle
  clear hz hle
  go_enter Try.func4, Try.ntmps4
  go_wp2_with fail
  have hn0 := below1 w (.cells #[.int .i64 sd, .slice ao ts.length cap] 24)
  refine (szTopic_le sd ao cap ts _ hl HLE.out (by exact HZ.out.later dSub_ok hn0)).mono ?_
  rintro e w1 ⟨⟨z, rfl, hz1', hr⟩, hb1⟩
  have A1 := hid ((Bx.new (w := w) (p := w.heap.size) [.int .i64 sd, .slice ao ts.length cap] 24 rfl).later hb1)
  have hB1 := hn0.trans (hb1.mono (by simp))
  have hz1 := hB1.size
  have hA1 := A1.out.size
  clear hb1 hn0
  rcases hr with hr | ⟨hr0, hl2, htt⟩
  · go_wp2
    go_ret
    exact ⟨rfl, hB1⟩
  have HTT := hid htt
  have hz0' : decide (z < 0) = false := by simpa using hr0
  clear htt
  have hrl : (subR sd (ts.map valSub) id sz dr).2.1.length ≤ 1048576 := Nat.le_trans (subR_len _ _ _ _ _) (by rw [List.length_map]; exact Nat.max_le.2 ⟨hl2, by omega⟩)
  have hrt : totP (subR sd (ts.map valSub) id sz dr).2.1 ≤ 1048576 := Nat.le_trans (subR_tot _ _ _ _ _) (by rw [← totSub_P]; exact HTT.out)
  generalize hR : subR sd (ts.map valSub) id sz dr = R at hrl hrt
  have HR := hid hR
  clear hR
  obtain ⟨rs, r0, rc⟩ := R
  dsimp only at hrl hrt
  have HRT := hid hrt
  clear hrt
  have hne_rc : (rc != rc) = false := by simp
  have a_0 := A1.out.c 0 rfl
  have a_1 := A1.out.c 1 rfl
  go_wp2_with fail
  clear a_0 a_1
  refine (toTopic_any sd ao cap ts w1 hl2 (fits_of HTT.out) (HZ.out.later dSub_ok hB1)).mono ?_
  rintro e w2 ⟨g2, us2, rfl, hv, hF, hb2⟩
  have HV2 := hid hv
  have HL2 := hid (len_val hv)
  have hB2 := hB1.trans (hb2.mono hB1.size)
  have hz2 : w1.heap.size ≤ w2.heap.size := hb2.size
  have A2 := hid (A1.out.later hb2)
  have X22 := hid (FrH.of hF)
  clear A1 hb2
  clear hF hv
  go_wp2_with fail
  refine (specSubs_of sd g2 ts.length us2 ts id sz dr w2 HL2.out HV2.out hl2 HTT.out X22.out.in).mono ?_
  rw [HR.out]
  rintro e w3 ⟨⟨oS, cS, usS, rfl, hv, hF⟩, hb3⟩
  have HVS : Hid (usS.map valSub = r0) := hv
  dsimp only at hF ⊢
  have hB3 := hB2.trans (hb3.mono hB2.size)
  have hz3 : w2.heap.size ≤ w3.heap.size := hb3.size
  have A3 := hid (A2.out.later hb3)
  have X23 := hid (X22.out.later hb3)
  have S3 := hid (FrH.of hF)
  clear A2 X22 hb3
  clear hF hv
  clear X23
  have pA0 := A3.out.c 0 rfl
  have pA1 := A3.out.c 1 rfl
  have pAz := A3.out.size
  obtain ⟨w4, hwn⟩ : ∃ V, V = w3.alloc (.cells #[.int .i64 rs, .slice oS r0.length cS] 29) := ⟨_, rfl⟩
  have hb4 : Below w3.heap.size w3 w4 := by rw [hwn]; exact below1 _ _
  have hB4 := hB3.trans (hb4.mono hB3.size)
  have hz4 : w3.heap.size ≤ w4.heap.size := hb4.size
  have A4 := hid (A3.out.later hb4)
  have S4 := hid (S3.out.later hb4)
  have D4 : Hid (Bx w4 w3.heap.size [.int .i64 rs, .slice oS r0.length cS]) := by rw [hwn]; exact Bx.new [.int .i64 rs, .slice oS r0.length cS] _ rfl
  have hy4 : w3.heap.size < w4.heap.size := D4.out.size
  have HA4 := hid hwn
  clear hwn A3 S3 hb4
  go_wp2_with fail
  clear pA0 pA1 pAz
  rw [← HA4.out]
  refine (toTopic_any sd ao cap ts w4 hl2 (fits_of HTT.out) (HZ.out.later dSub_ok hB4)).mono ?_
  rintro e w5 ⟨g5, us5, rfl, hv, hF, hb5⟩
  have HV5 := hid hv
  have HL5 := hid (len_val hv)
  have hB5 := hB4.trans (hb5.mono hB4.size)
  have hz5 : w4.heap.size ≤ w5.heap.size := hb5.size
  have A5 := hid (A4.out.later hb5)
  have S5 := hid (S4.out.later hb5)
  have D5 := hid (D4.out.later hb5)
  have X55 := hid (FrH.of hF)
  clear A4 S4 D4 hb5
  clear hF hv
  obtain ⟨w6, hwn⟩ : ∃ V, V = w5.alloc (.cells #[.int .i64 sd, .slice (some ⟨g5, 0, none⟩) ts.length ts.length] 29) := ⟨_, rfl⟩
  have hb6 : Below w5.heap.size w5 w6 := by rw [hwn]; exact below1 _ _
  have hB6 := hB5.trans (hb6.mono hB5.size)
  have hz6 : w5.heap.size ≤ w6.heap.size := hb6.size
  have A6 := hid (A5.out.later hb6)
  have S6 := hid (S5.out.later hb6)
  have D6 := hid (D5.out.later hb6)
  have X56 := hid (X55.out.later hb6)
  have P6 : Hid (Bx w6 w5.heap.size [.int .i64 sd, .slice (some ⟨g5, 0, none⟩) ts.length ts.length]) := by rw [hwn]; exact Bx.new [.int .i64 sd, .slice (some ⟨g5, 0, none⟩) ts.length ts.length] _ rfl
  have hy6 : w5.heap.size < w6.heap.size := P6.out.size
  have HA6 := hid hwn
  clear hwn A5 S5 D5 X55 hb6
  go_wp2_with fail
  rw [← HA6.out]
  refine (implSubs_of sd g5 ts.length us5 ts id sz dr w6 HL5.out HV5.out hl2 HTT.out X56.out.in).mono ?_
  rw [HR.out]
  rintro e w7 ⟨⟨oG, cG, usG, rfl, hv, hF⟩, hb7⟩
  have HVG : Hid (usG.map valSub = r0) := hv
  dsimp only at hF ⊢
  have hB7 := hB6.trans (hb7.mono hB6.size)
  have hz7 : w6.heap.size ≤ w7.heap.size := hb7.size
  have A7 := hid (A6.out.later hb7)
  have S7 := hid (S6.out.later hb7)
  have D7 := hid (D6.out.later hb7)
  have X57 := hid (X56.out.later hb7)
  have P7 := hid (P6.out.later hb7)
  have G7 := hid (FrH.of hF)
  clear A6 S6 D6 X56 P6 hb7
  clear hF hv
  have pD0 := D7.out.c 0 rfl
  have pD1 := D7.out.c 1 rfl
  have pDz := D7.out.size
  obtain ⟨w8, hwn⟩ : ∃ V, V = w7.alloc (.cells #[.int .i64 rs, .slice oG r0.length cG] 29) := ⟨_, rfl⟩
  have hb8 : Below w7.heap.size w7 w8 := by rw [hwn]; exact below1 _ _
  have hB8 := hB7.trans (hb8.mono hB7.size)
  have hz8 : w7.heap.size ≤ w8.heap.size := hb8.size
  have A8 := hid (A7.out.later hb8)
  have S8 := hid (S7.out.later hb8)
  have D8 := hid (D7.out.later hb8)
  have X58 := hid (X57.out.later hb8)
  have P8 := hid (P7.out.later hb8)
  have G8 := hid (G7.out.later hb8)
  have K8 : Hid (Bx w8 w7.heap.size [.int .i64 rs, .slice oG r0.length cG]) := by rw [hwn]; exact Bx.new [.int .i64 rs, .slice oG r0.length cG] _ rfl
  have hy8 : w7.heap.size < w8.heap.size := K8.out.size
  have HA8 := hid hwn
  clear hwn A7 S7 D7 X57 P7 G7 hb8
  go_wp2_with fail
  clear pD0 pD1 pDz
  rw [← HA8.out]
  refine (eqTopic_of rs oG oS cG cS usG usS r0 w8 HVG.out HVS.out hrl HRT.out G8.out.in S8.out.in).mono ?_
  rintro e w9 ⟨rfl, hb9⟩
  have hB9 := hB8.trans (hb9.mono hB8.size)
  have hz9 : w8.heap.size ≤ w9.heap.size := hb9.size
  have A9 := hid (A8.out.later hb9)
  have S9 := hid (S8.out.later hb9)
  have D9 := hid (D8.out.later hb9)
  have X59 := hid (X58.out.later hb9)
  have P9 := hid (P8.out.later hb9)
  have G9 := hid (G8.out.later hb9)
  have K9 := hid (K8.out.later hb9)
  clear A8 S8 D8 X58 P8 G8 K8 hb9
  have a_0 := A9.out.c 0 rfl
  have a_1 := A9.out.c 1 rfl
  have p_0 := P9.out.c 0 rfl
  have p_1 := P9.out.c 1 rfl
  go_wp2
  go_region_with (first
    | (go_at_call 8; refine (toTopic_any sd ao cap ts _ hl2 (fits_of HTT.out) (by exact HZ.out.later dSub_ok hB9.drew)).mono ?_; rintro e wy ⟨gy, usy, rfl, hvy, hFy, hby⟩; have hbo : Below w9.heap.size w9 wy := (Below.refl w9.heap.size w9).drew.trans hby; have By : Bx wy w5.heap.size [.int .i64 sd, .slice (some ⟨g5, 0, none⟩) ts.length ts.length] := P9.out.later hbo; have y0 := By.c 0 rfl; have y1 := By.c 1 rfl; have Fy : Hid (usy.map valSub = ts.map valSub ∧ DIn dSub wy.heap.size wy (some ⟨g5, 0, none⟩) us5 ∧ DIn dSub wy.heap.size wy (some ⟨gy, 0, none⟩) usy) := ⟨hvy, (X59.out.later hbo).in, hFy.in dSub_ok⟩; clear hby hFy hvy)
    | (go_at_call 10; refine (eqTopic_ts (us := us5) (us2 := usy) HV5.out Fy.out.1 hl2 HTT.out (by exact Fy.out.2.1) (by exact Fy.out.2.2)).mono ?_; rintro e w10 ⟨rfl, hbz⟩; have hbq : Below w9.heap.size w9 w10 := hbo.trans (hbz.mono hbo.size); have hB10 : Below w.heap.size w w10 := hB9.trans (hbq.mono hB9.size); have hz10 : w9.heap.size ≤ w10.heap.size := hbq.size; have A10 := hid (A9.out.later hbq); have S10 := hid (S9.out.later hbq); have D10 := hid (D9.out.later hbq); have X510 := hid (X59.out.later hbq); have P10 := hid (P9.out.later hbq); have G10 := hid (G9.out.later hbq); have K10 := hid (K9.out.later hbq); clear hbz hbq))
  all_goals
    clear a_0 a_1 p_0 p_1 y0 y1 By Fy hbo A9 S9 D9 X59 P9 G9 K9
    have p_0 := P10.out.c 0 rfl
    have p_1 := P10.out.c 1 rfl
    go_wp2_with fail
    clear p_0 p_1
    refine (markTopic_ts sd (w4.heap.size) w5.heap.size g5 us5 ts 1 w10 HV5.out hl2 HTT.out (by omega) (by omega) X510.out).mono ?_
    rintro e w11 ⟨⟨kk, rfl, hkk1, hkk2⟩, hbt⟩
    have hb11 : Between w4.heap.size w5.heap.size w10 w11 := hbt
    have hB11 := hB10.trans ((hb11.below (by omega)).mono (by omega))
    have hz11 : w10.heap.size ≤ w11.heap.size := hb11.size
    have A11 := hid (A10.out.between hb11 (by omega))
    have S11 := hid (S10.out.between' hb11 (by omega))
    have D11 := hid (D10.out.between hb11 (by omega))
    have P11 := hid (P10.out.between hb11 (by omega))
    have G11 := hid (G10.out.between' hb11 (by omega))
    have K11 := hid (K10.out.between hb11 (by omega))
    clear D10 K10 A10 P10 X510 S10 G10 hb11
    clear hbt
    have hk0 : decide (kk < 0) = false := by simp; omega
    have k_0 := K11.out.c 0 rfl
    have k_1 := K11.out.c 1 rfl
    have d_0 := D11.out.c 0 rfl
    have d_1 := D11.out.c 1 rfl
    go_wp2_with fail
    clear k_0 k_1 d_0 d_1
    refine (eqTopic_of rs oG oS cG cS usG usS r0 w11 HVG.out HVS.out hrl HRT.out G11.out.in S11.out.in).mono ?_
    rintro e w12 ⟨rfl, hb12⟩
    have hB12 := hB11.trans (hb12.mono hB11.size)
    have hz12 : w11.heap.size ≤ w12.heap.size := hb12.size
    have A12 := hid (A11.out.later hb12)
    have S12 := hid (S11.out.later hb12)
    have D12 := hid (D11.out.later hb12)
    have P12 := hid (P11.out.later hb12)
    have G12 := hid (G11.out.later hb12)
    have K12 := hid (K11.out.later hb12)
    clear A11 S11 D11 P11 G11 K11 hb12
    have k_0 := K12.out.c 0 rfl
    have k_1 := K12.out.c 1 rfl
    go_wp2_with fail
    clear k_0 k_1
    refine (markTopic_ex rs (w6.heap.size) w7.heap.size oG cG usG r0 1 w12 HVG.out hrl HRT.out (by omega) (by omega) G12.out).mono ?_
    rintro e w13 ⟨rfl, hT, hbt⟩
    have hb13 : Between w6.heap.size w7.heap.size w12 w13 := hbt
    have hB13 := hB12.trans ((hb13.below (by omega)).mono (by omega))
    have hz13 : w12.heap.size ≤ w13.heap.size := hb13.size
    have A13 := hid (A12.out.between hb13 (by omega))
    have S13 := hid (S12.out.between' hb13 (by omega))
    have D13 := hid (D12.out.between hb13 (by omega))
    have P13 := hid (P12.out.between hb13 (by omega))
    have K13 := hid (K12.out.between hb13 (by omega))
    have G13 := hid (hT)
    clear D12 K12 A12 P12 S12 G12 hb13
    clear hbt hT
    have hend := (endC_is 1 usG).1
    have hm0 : decide (endC 1 usG < 0) = false := by simp; omega
    have hm1 : (endC 1 usG != endC 1 usG) = false := by simp
    generalize hmm : endC 1 usG = mm at hend hm0 hm1 ⊢
    have HMM := hid hmm
    clear hmm
    have k_0 := K13.out.c 0 rfl
    have k_1 := K13.out.c 1 rfl
    go_wp2_with fail
    clear k_0 k_1
    refine (heldTopic_ex rs oG cG usG r0 1 w13 HVG.out hrl HRT.out (by omega) (by omega) G13.out.in).mono ?_
    rw [HMM.out]
    rintro e w14 ⟨rfl, hb14⟩
    have hB14 := hB13.trans (hb14.mono hB13.size)
    have hz14 : w13.heap.size ≤ w14.heap.size := hb14.size
    have A14 := hid (A13.out.later hb14)
    have S14 := hid (S13.out.later hb14)
    have D14 := hid (D13.out.later hb14)
    have P14 := hid (P13.out.later hb14)
    have G14 := hid (G13.out.later hb14)
    have K14 := hid (K13.out.later hb14)
    clear A13 S13 D13 P13 G13 K13 hb14
    have a_0 := A14.out.c 0 rfl
    have a_1 := A14.out.c 1 rfl
    go_wp2_with fail
    clear a_0 a_1
    refine (toTopic_any sd ao cap ts w14 hl2 (fits_of HTT.out) (HZ.out.later dSub_ok hB14)).mono ?_
    rintro e w15 ⟨g7, us7, rfl, hv, hF, hb15⟩
    have HV7 := hid hv
    have HL7 := hid (len_val hv)
    have hB15 := hB14.trans (hb15.mono hB14.size)
    have hz15 : w14.heap.size ≤ w15.heap.size := hb15.size
    have A15 := hid (A14.out.later hb15)
    have S15 := hid (S14.out.later hb15)
    have D15 := hid (D14.out.later hb15)
    have P15 := hid (P14.out.later hb15)
    have G15 := hid (G14.out.later hb15)
    have K15 := hid (K14.out.later hb15)
    have X715 := hid (FrH.of hF)
    clear A14 S14 D14 P14 G14 K14 hb15
    clear hF hv
    go_wp2_with fail
    refine (implSubs_of sd g7 ts.length us7 ts id sz dr w15 HL7.out HV7.out hl2 HTT.out X715.out.in).mono ?_
    rw [HR.out]
    rintro e w16 ⟨⟨oH, cH, usH, rfl, hv, hF⟩, hb16⟩
    have HVH : Hid (usH.map valSub = r0) := hv
    dsimp only at hF ⊢
    have hB16 := hB15.trans (hb16.mono hB15.size)
    have hz16 : w15.heap.size ≤ w16.heap.size := hb16.size
    have A16 := hid (A15.out.later hb16)
    have S16 := hid (S15.out.later hb16)
    have D16 := hid (D15.out.later hb16)
    have P16 := hid (P15.out.later hb16)
    have G16 := hid (G15.out.later hb16)
    have K16 := hid (K15.out.later hb16)
    have X716 := hid (X715.out.later hb16)
    have H16 := hid (FrH.of hF)
    clear A15 S15 D15 P15 G15 K15 X715 hb16
    clear hF hv
    clear X716
    have pD0 := D16.out.c 0 rfl
    have pD1 := D16.out.c 1 rfl
    have pDz := D16.out.size
    obtain ⟨w17, hwn⟩ : ∃ V, V = w16.alloc (.cells #[.int .i64 rs, .slice oH r0.length cH] 29) := ⟨_, rfl⟩
    have hb17 : Below w16.heap.size w16 w17 := by rw [hwn]; exact below1 _ _
    have hB17 := hB16.trans (hb17.mono hB16.size)
    have hz17 : w16.heap.size ≤ w17.heap.size := hb17.size
    have A17 := hid (A16.out.later hb17)
    have S17 := hid (S16.out.later hb17)
    have D17 := hid (D16.out.later hb17)
    have P17 := hid (P16.out.later hb17)
    have G17 := hid (G16.out.later hb17)
    have K17 := hid (K16.out.later hb17)
    have H17 := hid (H16.out.later hb17)
    have J17 : Hid (Bx w17 w16.heap.size [.int .i64 rs, .slice oH r0.length cH]) := by rw [hwn]; exact Bx.new [.int .i64 rs, .slice oH r0.length cH] _ rfl
    have hy17 : w16.heap.size < w17.heap.size := J17.out.size
    have HA17 := hid hwn
    clear hwn A16 S16 D16 P16 G16 K16 H16 hb17
    go_wp2_with fail
    clear pD0 pD1 pDz
    rw [← HA17.out]
    refine (eqTopic_of rs oH oS cH cS usH usS r0 w17 HVH.out HVS.out hrl HRT.out H17.out.in S17.out.in).mono ?_
    rintro e w18 ⟨rfl, hb18⟩
    have hB18 := hB17.trans (hb18.mono hB17.size)
    have hz18 : w17.heap.size ≤ w18.heap.size := hb18.size
    have A18 := hid (A17.out.later hb18)
    have S18 := hid (S17.out.later hb18)
    have D18 := hid (D17.out.later hb18)
    have P18 := hid (P17.out.later hb18)
    have G18 := hid (G17.out.later hb18)
    have K18 := hid (K17.out.later hb18)
    have H18 := hid (H17.out.later hb18)
    have J18 := hid (J17.out.later hb18)
    clear A17 S17 D17 P17 G17 K17 H17 J17 hb18
    clear H18 S18 J18 D18
    have k_0 := K18.out.c 0 rfl
    have k_1 := K18.out.c 1 rfl
    go_wp2_with fail
    clear k_0 k_1
    refine (heldTopic_ex rs oG cG usG r0 1 w18 HVG.out hrl HRT.out (by omega) (by omega) G18.out.in).mono ?_
    rw [HMM.out]
    rintro e w19 ⟨rfl, hb19⟩
    have hB19 := hB18.trans (hb19.mono hB18.size)
    have hz19 : w18.heap.size ≤ w19.heap.size := hb19.size
    have A19 := hid (A18.out.later hb19)
    have P19 := hid (P18.out.later hb19)
    have G19 := hid (G18.out.later hb19)
    have K19 := hid (K18.out.later hb19)
    clear A18 P18 G18 K18 hb19
    go_wp2
    go_ret
    exact ⟨rfl, hB19⟩
end Go.Proofs.Ytjkmpgianjkohaa
