
/- The walk of the law of WaitingOn: it returns true. No conditions but those written. -/
import Derived.Test.YtjkmpgianjkohaaTw
import Derived.Test.YtjkmpgianjkohaaLgt
namespace Go.Proofs.Ytjkmpgianjkohaa
open Go.RowKit

theorem implWait_of (sd : Int) (g n : Nat) (us ts : List LSub) (w : World) (hn : us.length = n) (hv : us.map valSub = ts.map valSub) (hl : ts.length ≤ 1048576) (ht : totSub ts ≤ 1048576) (hz : DIn dSub w.heap.size w (some ⟨g, 0, none⟩) us) :
    Calls Try.prog 16 #[.agg #[.int .i64 sd, .slice (some ⟨g, 0, none⟩) n n]] w fun e w' => AnsIB w (waitR sd (ts.map valSub)) e w' := by
  subst hn
  rw [← hv]
  exact implWait_any sd _ _ us w (by rw [len_val hv]; exact hl) (fits_val ht hv) hz
theorem specWait_of (sd : Int) (g n : Nat) (us ts : List LSub) (w : World) (hn : us.length = n) (hv : us.map valSub = ts.map valSub) (hl : ts.length ≤ 1048576) (ht : totSub ts ≤ 1048576) (hz : DIn dSub w.heap.size w (some ⟨g, 0, none⟩) us) :
    Calls Try.prog 15 #[.agg #[.int .i64 sd, .slice (some ⟨g, 0, none⟩) n n]] w fun e w' => AnsIB w (waitR sd (ts.map valSub)) e w' := by
  subst hn
  rw [← hv]
  exact specWait_any sd _ _ us w (by rw [len_val hv]; exact hl) (fits_val ht hv) hz
theorem waitR_len (sd : Int) (ps : List PSub) : (waitR sd ps).1.length ≤ ps.length := by
  unfold waitR; split
  · exact waitI_le _
  · simp
theorem markTopic_ts (sd : Int) (lo hi g : Nat) (us ts : List LSub) (k0 : Int) (w : World) (hv : us.map valSub = ts.map valSub) (hl : ts.length ≤ 1048576) (ht : totSub ts ≤ 1048576) (hk0 : 0 ≤ k0) (hk1 : k0 ≤ 8000000) (hF : FrH lo hi w (some ⟨g, 0, none⟩) ts.length us) :
    Calls Try.prog 13 #[.agg #[.int .i64 sd, .slice (some ⟨g, 0, none⟩) ts.length ts.length], .int .i64 k0] w fun e w' => (∃ kk : Int, e = .returned (.int .i64 kk) ∧ k0 ≤ kk ∧ kk ≤ k0 + 5242880) ∧ Between lo hi w w' := by
  have h := markTopic_of sd lo hi (some ⟨g, 0, none⟩) ts.length us (ts.map valSub) k0 w hv (by simpa using hl) (by rw [← totSub_P]; exact ht) hk0 hk1 hF
  rw [List.length_map] at h; exact h
set_option maxRecDepth 100000 in
set_option maxHeartbeats 16000000 in
theorem lawWait_any (sd : Int) (ao : Option Addr) (cap : Nat) (ts : List LSub) (w : World) (hl : ts.length ≤ 9223372036854775807) (hle : ∀ a ∈ ts, (a.2.2.2.2).2.2.length ≤ 9223372036854775807) (hz : DIn dSub w.heap.size w ao ts) :
    Calls Try.prog 5 #[.agg #[.int .i64 sd, .slice ao ts.length cap]] w fun e w' => e = .returned (.bool true) ∧ Below w.heap.size w w' := by
  have HZ := hid hz
  have HLE := hid hle
  clear hz hle
  generalize hR : waitR sd (ts.map valSub) = R
  have HR := hid hR
  clear hR
  obtain ⟨r0, r1⟩ := R
  have hne1 : (r1 != r1) = false := by simp
  go_enter Try.func5, Try.ntmps5
  go_wp2_with fail
  have hn0 := below1 w (.cells #[.int .i64 sd, .slice ao ts.length cap] 24)
  refine (szTopic_le sd ao cap ts _ hl HLE.out (by exact HZ.out.later dSub_ok hn0)).mono ?_
  rintro e w1 ⟨⟨z, rfl, hz1', hr⟩, hb1⟩
  have A1 := hid ((Bx.new (w := w) (p := w.heap.size) [.int .i64 sd, .slice ao ts.length cap] 24 rfl).later hb1)
  have hB1 := hn0.trans (hb1.mono (by simp))
  have hz1 := hB1.size
  have hA1 := A1.out.size
  clear hb1 hn0
  rcases hr with hr | ⟨hr0, hl2, htt⟩
  · go_wp2
    go_ret
    exact ⟨rfl, hB1⟩
  have HTT := hid htt
  have hz0' : decide (z < 0) = false := by simpa using hr0
  clear htt
  have hql : (waitR sd (ts.map valSub)).1.length ≤ 1048576 := Nat.le_trans (waitR_len _ _) (by simpa using hl2)
  rw [HR.out] at hql
  dsimp only at hql
  have a_0 := A1.out.c 0 rfl
  have a_1 := A1.out.c 1 rfl
  go_wp2_with fail
  clear a_0 a_1
  refine (toTopic_any sd ao cap ts w1 hl2 (fits_of HTT.out) (HZ.out.later dSub_ok hB1)).mono ?_
  rintro e w2 ⟨g2, us2, rfl, hv, hF, hb2⟩
  have HV2 := hid hv
  have HL2 := hid (len_val hv)
  have hB2 := hB1.trans (hb2.mono hB1.size)
  have hz2 : w1.heap.size ≤ w2.heap.size := hb2.size
  have A2 := hid (A1.out.later hb2)
  have X22 := hid (FrH.of hF)
  clear A1 hb2
  clear hF hv
  go_wp2_with fail
  refine (specWait_of sd g2 ts.length us2 ts w2 HL2.out HV2.out hl2 HTT.out X22.out.in).mono ?_
  rw [HR.out]
  rintro e w3 ⟨⟨oS, cS, rfl, hF⟩, hb3⟩
  dsimp only at hF ⊢
  have hB3 := hB2.trans (hb3.mono hB2.size)
  have hz3 : w2.heap.size ≤ w3.heap.size := hb3.size
  have A3 := hid (A2.out.later hb3)
  have X23 := hid (X22.out.later hb3)
  have S3 := hid (hF)
  clear A2 X22 hb3
  clear hF
  clear X23
  have a_0 := A3.out.c 0 rfl
  have a_1 := A3.out.c 1 rfl
  go_wp2_with fail
  clear a_0 a_1
  refine (toTopic_any sd ao cap ts w3 hl2 (fits_of HTT.out) (HZ.out.later dSub_ok hB3)).mono ?_
  rintro e w4 ⟨g5, us5, rfl, hv, hF, hb4⟩
  have HV5 := hid hv
  have HL5 := hid (len_val hv)
  have hB4 := hB3.trans (hb4.mono hB3.size)
  have hz4 : w3.heap.size ≤ w4.heap.size := hb4.size
  have A4 := hid (A3.out.later hb4)
  have S4 := hid (S3.out.later hb4)
  have X54 := hid (FrH.of hF)
  clear A3 S3 hb4
  clear hF hv
  obtain ⟨w5, hwn⟩ : ∃ V, V = w4.alloc (.cells #[.int .i64 sd, .slice (some ⟨g5, 0, none⟩) ts.length ts.length] 29) := ⟨_, rfl⟩
  have hb5 : Below w4.heap.size w4 w5 := by rw [hwn]; exact below1 _ _
  have hB5 := hB4.trans (hb5.mono hB4.size)
  have hz5 : w4.heap.size ≤ w5.heap.size := hb5.size
  have A5 := hid (A4.out.later hb5)
  have S5 := hid (S4.out.later hb5)
  have X55 := hid (X54.out.later hb5)
  have P5 : Hid (Bx w5 w4.heap.size [.int .i64 sd, .slice (some ⟨g5, 0, none⟩) ts.length ts.length]) := by rw [hwn]; exact Bx.new [.int .i64 sd, .slice (some ⟨g5, 0, none⟩) ts.length ts.length] _ rfl
  have hy5 : w4.heap.size < w5.heap.size := P5.out.size
  have HA5 := hid hwn
  clear hwn A4 S4 X54 hb5
  go_wp2_with fail
  rw [← HA5.out]
  refine (implWait_of sd g5 ts.length us5 ts w5 HL5.out HV5.out hl2 HTT.out X55.out.in).mono ?_
  rw [HR.out]
  rintro e w6 ⟨⟨oG, cG, rfl, hF⟩, hb6⟩
  dsimp only at hF ⊢
  have hB6 := hB5.trans (hb6.mono hB5.size)
  have hz6 : w5.heap.size ≤ w6.heap.size := hb6.size
  have A6 := hid (A5.out.later hb6)
  have S6 := hid (S5.out.later hb6)
  have X56 := hid (X55.out.later hb6)
  have P6 := hid (P5.out.later hb6)
  have G6 := hid (hF)
  clear A5 S5 X55 P5 hb6
  clear hF
  go_wp2_with fail
  refine (eqIntS_same oG oS cG cS r0 w6 hql G6.out.in S6.out.in).mono ?_
  rintro e w7 ⟨rfl, hb7⟩
  have hB7 := hB6.trans (hb7.mono hB6.size)
  have hz7 : w6.heap.size ≤ w7.heap.size := hb7.size
  have A7 := hid (A6.out.later hb7)
  have S7 := hid (S6.out.later hb7)
  have X57 := hid (X56.out.later hb7)
  have P7 := hid (P6.out.later hb7)
  have G7 := hid (G6.out.later hb7)
  clear A6 S6 X56 P6 G6 hb7
  have a_0 := A7.out.c 0 rfl
  have a_1 := A7.out.c 1 rfl
  have p_0 := P7.out.c 0 rfl
  have p_1 := P7.out.c 1 rfl
  go_wp2
  go_region_with (first
    | (go_at_call 8; refine (toTopic_any sd ao cap ts _ hl2 (fits_of HTT.out) (by exact HZ.out.later dSub_ok hB7.drew)).mono ?_; rintro e wy ⟨gy, usy, rfl, hvy, hFy, hby⟩; have hbo : Below w7.heap.size w7 wy := (Below.refl w7.heap.size w7).drew.trans hby; have By : Bx wy w4.heap.size [.int .i64 sd, .slice (some ⟨g5, 0, none⟩) ts.length ts.length] := P7.out.later hbo; have y0 := By.c 0 rfl; have y1 := By.c 1 rfl; have Fy : Hid (usy.map valSub = ts.map valSub ∧ DIn dSub wy.heap.size wy (some ⟨g5, 0, none⟩) us5 ∧ DIn dSub wy.heap.size wy (some ⟨gy, 0, none⟩) usy) := ⟨hvy, (X57.out.later hbo).in, hFy.in dSub_ok⟩; clear hby hFy hvy)
    | (go_at_call 10; refine (eqTopic_ts (us := us5) (us2 := usy) HV5.out Fy.out.1 hl2 HTT.out (by exact Fy.out.2.1) (by exact Fy.out.2.2)).mono ?_; rintro e w8 ⟨rfl, hbz⟩; have hbq : Below w7.heap.size w7 w8 := hbo.trans (hbz.mono hbo.size); have hB8 : Below w.heap.size w w8 := hB7.trans (hbq.mono hB7.size); have hz8 : w7.heap.size ≤ w8.heap.size := hbq.size; have A8 := hid (A7.out.later hbq); have S8 := hid (S7.out.later hbq); have X58 := hid (X57.out.later hbq); have P8 := hid (P7.out.later hbq); have G8 := hid (G7.out.later hbq); clear hbz hbq))
  all_goals
    clear a_0 a_1 p_0 p_1 y0 y1 By Fy hbo A7 S7 X57 P7 G7
    have p_0 := P8.out.c 0 rfl
    have p_1 := P8.out.c 1 rfl
    go_wp2_with fail
    clear p_0 p_1
    refine (markTopic_ts sd (w3.heap.size) w4.heap.size g5 us5 ts 1 w8 HV5.out hl2 HTT.out (by omega) (by omega) X58.out).mono ?_
    rintro e w9 ⟨⟨kk, rfl, hkk1, hkk2⟩, hbt⟩
    have hb9 : Between w3.heap.size w4.heap.size w8 w9 := hbt
    have hB9 := hB8.trans ((hb9.below (by omega)).mono (by omega))
    have hz9 : w8.heap.size ≤ w9.heap.size := hb9.size
    have A9 := hid (A8.out.between hb9 (by omega))
    have S9 := hid (S8.out.between' hb9 (by omega))
    have P9 := hid (P8.out.between hb9 (by omega))
    have G9 := hid (G8.out.between' hb9 (by omega))
    clear A8 X58 P8 G8 S8 hb9
    clear hbt
    have hk0 : decide (kk < 0) = false := by simp; omega
    go_wp2_with fail
    refine (eqIntS_same oG oS cG cS r0 w9 hql G9.out.in S9.out.in).mono ?_
    rintro e w10 ⟨rfl, hb10⟩
    have hB10 := hB9.trans (hb10.mono hB9.size)
    have hz10 : w9.heap.size ≤ w10.heap.size := hb10.size
    have A10 := hid (A9.out.later hb10)
    have S10 := hid (S9.out.later hb10)
    have P10 := hid (P9.out.later hb10)
    have G10 := hid (G9.out.later hb10)
    clear A9 S9 P9 G9 hb10
    go_wp2_with fail
    refine (markIntS_any (w5.heap.size) w6.heap.size oG cG r0 1 w10 (by omega) (by omega) (by omega) G10.out).mono ?_
    rintro e w11 ⟨rfl, hT, hOz⟩
    have hb11 : Between w5.heap.size w6.heap.size w10 w11 := G10.out.between hOz
    have hB11 := hB10.trans ((hb11.below (by omega)).mono (by omega))
    have hz11 : w10.heap.size ≤ w11.heap.size := hb11.size
    have A11 := hid (A10.out.between hb11 (by omega))
    have S11 := hid (S10.out.between' hb11 (by omega))
    have P11 := hid (P10.out.between hb11 (by omega))
    have G11 := hid (hT)
    clear S10 A10 G10 P10 hb11
    clear hOz hT
    have hmq : (1 + (r0.length : Int) != 1 + (r0.length : Int)) = false := by simp
    go_wp2_with fail
    refine (heldIntS_any oG cG r0.length 1 w11 (by omega) (by omega) (by omega) G11.out.in).mono ?_
    rintro e wx ⟨rfl, hws⟩
    rw [hws]; clear hws wx
    have a_0 := A11.out.c 0 rfl
    have a_1 := A11.out.c 1 rfl
    go_wp2_with fail
    clear a_0 a_1
    refine (toTopic_any sd ao cap ts w11 hl2 (fits_of HTT.out) (HZ.out.later dSub_ok hB11)).mono ?_
    rintro e w12 ⟨g7, us7, rfl, hv, hF, hb12⟩
    have HV7 := hid hv
    have HL7 := hid (len_val hv)
    have hB12 := hB11.trans (hb12.mono hB11.size)
    have hz12 : w11.heap.size ≤ w12.heap.size := hb12.size
    have A12 := hid (A11.out.later hb12)
    have S12 := hid (S11.out.later hb12)
    have P12 := hid (P11.out.later hb12)
    have G12 := hid (G11.out.later hb12)
    have X712 := hid (FrH.of hF)
    clear A11 S11 P11 G11 hb12
    clear hF hv
    go_wp2_with fail
    refine (implWait_of sd g7 ts.length us7 ts w12 HL7.out HV7.out hl2 HTT.out X712.out.in).mono ?_
    rw [HR.out]
    rintro e w13 ⟨⟨oH, cH, rfl, hF⟩, hb13⟩
    dsimp only at hF ⊢
    have hB13 := hB12.trans (hb13.mono hB12.size)
    have hz13 : w12.heap.size ≤ w13.heap.size := hb13.size
    have A13 := hid (A12.out.later hb13)
    have S13 := hid (S12.out.later hb13)
    have P13 := hid (P12.out.later hb13)
    have G13 := hid (G12.out.later hb13)
    have X713 := hid (X712.out.later hb13)
    have H13 := hid (hF)
    clear A12 S12 P12 G12 X712 hb13
    clear hF
    clear X713
    go_wp2_with fail
    refine (eqIntS_same oH oS cH cS r0 w13 hql H13.out.in S13.out.in).mono ?_
    rintro e w14 ⟨rfl, hb14⟩
    have hB14 := hB13.trans (hb14.mono hB13.size)
    have hz14 : w13.heap.size ≤ w14.heap.size := hb14.size
    have A14 := hid (A13.out.later hb14)
    have S14 := hid (S13.out.later hb14)
    have P14 := hid (P13.out.later hb14)
    have G14 := hid (G13.out.later hb14)
    have H14 := hid (H13.out.later hb14)
    clear A13 S13 P13 G13 H13 hb14
    clear H14 S14
    go_wp2_with fail
    refine (heldIntS_any oG cG r0.length 1 w14 (by omega) (by omega) (by omega) G14.out.in).mono ?_
    rintro e wx ⟨rfl, hws⟩
    rw [hws]; clear hws wx
    go_wp2
    go_ret
    exact ⟨rfl, hB14⟩
end Go.Proofs.Ytjkmpgianjkohaa
