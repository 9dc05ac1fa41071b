
/- The walk of the law of Publish: it returns true. No conditions but those written. -/
import Derived.Test.YtdghlgpkcpndjaaYc
import Derived.Test.YtdghlgpkcpndjaaYe
import Derived.Test.YtdghlgpkcpndjaaTo
import Derived.Test.YtdghlgpkcpndjaaTn
import Derived.Test.YtdghlgpkcpndjaaLgt
namespace Go.Proofs.Ytdghlgpkcpndjaa
open Go.RowKit

theorem markTopic_ts (sd : Int) (lo hi g : Nat) (us ts : List LSub) (k0 : Int) (w : World) (hv : us.map valSub = ts.map valSub) (hl : ts.length ≤ 1048576) (ht : totSub ts ≤ 1048576) (hk0 : 0 ≤ k0) (hk1 : k0 ≤ 8000000) (hF : FrH lo hi w (some ⟨g, 0, none⟩) ts.length us) :
    Calls Try.prog 21 #[.agg #[.int .i64 sd, .slice (some ⟨g, 0, none⟩) ts.length ts.length], .int .i64 k0] w fun e w' => (∃ kk : Int, e = .returned (.int .i64 kk) ∧ k0 ≤ kk ∧ kk ≤ k0 + 5242880) ∧ Between lo hi w w' := by
  have h := markTopic_of sd lo hi (some ⟨g, 0, none⟩) ts.length us (ts.map valSub) k0 w hv (by simpa using hl) (by rw [← totSub_P]; exact ht) hk0 hk1 hF
  rw [List.length_map] at h; exact h
theorem totP_le20 : ∀ (qs : List PSub), (∀ p ∈ qs, p.2.2.2.2.length ≤ 20) → totP qs ≤ 20 * qs.length
  | [], _ => by simp [totP]
  | p :: r, h => by
    have h1 := h p (by simp)
    have h2 := totP_le20 r fun q hq => h q (by simp [hq])
    simp only [totP, List.map_cons, List.sum_cons, List.length_cons] at h2 ⊢
    omega
theorem sayP_20 {sd : Int} {ps : List PSub} {v : Int} (h : topicB sd ps = true) : ∀ p ∈ ps.map (sayP v), p.2.2.2.2.length ≤ 20 := by
  intro p hp
  obtain ⟨a, ha, rfl⟩ := List.mem_map.1 hp
  obtain ⟨k, hk, rfl⟩ := List.mem_iff_getElem.1 ha
  have hs := sub_el h hk
  rw [el_at hk] at hs
  have h1 := sayP_len (v := v) hs.2.2.1 hs.1
  have h2 := hs.2.1
  omega
theorem pubR_len (sd : Int) (ps : List PSub) (v : Int) (h : ps.length ≤ 1048576) : (pubR sd ps v).2.1.length ≤ 1048576 := by
  unfold pubR
  split
  · split
    · simp
    · split
      · simp; omega
      · exact h
  · simp
theorem pubR_tot (sd : Int) (ps : List PSub) (v : Int) (h : totP ps ≤ 1048576) : totP (pubR sd ps v).2.1 ≤ 1048576 := by
  unfold pubR
  split
  · rename_i hg
    split
    · simp [totP]
    · split
      · have h1 := totP_le20 _ (sayP_20 (v := v) hg)
        have h2 := (topicB_good hg).2.1
        rw [List.length_map] at h1
        dsimp only
        omega
      · exact h
  · simp [totP]
theorem pubR_int (sd : Int) (ps : List PSub) (v : Int) (h : ps.length ≤ 1048576) (_ : totP ps ≤ 1048576) : (pubR sd ps v).2.2.1.length ≤ 1048576 := by
  unfold pubR
  split
  · split
    · simp
    · split
      · exact Nat.le_trans (losI_le ps) h
      · exact Nat.le_trans (waitI_le ps) h
  · simp
theorem implPubl_of (sd : Int) (g n : Nat) (us ts : List LSub) (id : Int) (w : World) (hn : us.length = n) (hv : us.map valSub = ts.map valSub) (hl : ts.length ≤ 1048576) (ht : totSub ts ≤ 1048576) (hz : DIn dSub w.heap.size w (some ⟨g, 0, none⟩) us) :
    Calls Try.prog 8 #[.agg #[.int .i64 sd, .slice (some ⟨g, 0, none⟩) n n], .int .i64 id] w fun e w' => AnsU w (pubR sd (ts.map valSub) id) e w' := by
  subst hn
  rw [← hv]
  exact implPubl_any sd _ _ us id w (by rw [len_val hv]; exact hl) (fits_val ht hv) hz
theorem specPubl_of (sd : Int) (g n : Nat) (us ts : List LSub) (id : Int) (w : World) (hn : us.length = n) (hv : us.map valSub = ts.map valSub) (hl : ts.length ≤ 1048576) (ht : totSub ts ≤ 1048576) (hz : DIn dSub w.heap.size w (some ⟨g, 0, none⟩) us) :
    Calls Try.prog 9 #[.agg #[.int .i64 sd, .slice (some ⟨g, 0, none⟩) n n], .int .i64 id] w fun e w' => AnsU w (pubR sd (ts.map valSub) id) e w' := by
  subst hn
  rw [← hv]
  exact specPubl_any sd _ _ us id w (by rw [len_val hv]; exact hl) (fits_val ht hv) hz
set_option maxRecDepth 100000 in
set_option maxHeartbeats 16000000 in
theorem lawPub_any (sd : Int) (ao : Option Addr) (cap : Nat) (ts : List LSub) (id : Int) (w : World) (hl : ts.length ≤ 9223372036854775807) (hle : ∀ a ∈ ts, (a.2.2.2.2).2.2.length ≤ 9223372036854775807) (hz : DIn dSub w.heap.size w ao ts) :
    Calls Try.prog 5 #[.agg #[.int .i64 sd, .slice ao ts.length cap], .int .i64 id] w fun e w' => e = .returned (.bool true) ∧ Below w.heap.size w w' := by
  have HZ := hid hz
  have HLE := hid hle
  clear hz hle
  go_enter Try.func5, Try.ntmps5
  go_wp2_with fail
  have hn0 := below1 w (.cells #[.int .i64 sd, .slice ao ts.length cap] 43)
  refine (szTopic_le sd ao cap ts _ hl HLE.out (by exact HZ.out.later dSub_ok hn0)).mono ?_
  rintro e w1 ⟨⟨z, rfl, hz1', hr⟩, hb1⟩
  have A1 := hid ((Bx.new (w := w) (p := w.heap.size) [.int .i64 sd, .slice ao ts.length cap] 43 rfl).later hb1)
  have hB1 := hn0.trans (hb1.mono (by simp))
  have hz1 := hB1.size
  have hA1 := A1.out.size
  clear hb1 hn0
  rcases hr with hr | ⟨hr0, hl2, htt⟩
  · go_wp2
    go_ret
    exact ⟨rfl, hB1⟩
  have HTT := hid htt
  have hz0' : decide (z < 0) = false := by simpa using hr0
  clear htt
  have hpl : (ts.map valSub).length ≤ 1048576 := by rw [List.length_map]; exact hl2
  have hpt : totP (ts.map valSub) ≤ 1048576 := by rw [← totSub_P]; exact HTT.out
  have hrl : (pubR sd (ts.map valSub) id).2.1.length ≤ 1048576 := pubR_len _ _ _ hpl
  have hrt : totP (pubR sd (ts.map valSub) id).2.1 ≤ 1048576 := pubR_tot _ _ _ hpt
  have hil : (pubR sd (ts.map valSub) id).2.2.1.length ≤ 1048576 := pubR_int _ _ _ hpl hpt
  generalize hR : pubR sd (ts.map valSub) id = R at hrl hrt hil
  have HR := hid hR
  clear hR hpl hpt
  obtain ⟨rs, r0, ri, rc⟩ := R
  dsimp only at hrl hrt hil
  have HRT := hid hrt
  clear hrt
  have hne_rc : (rc != rc) = false := by simp
  have a_0 := A1.out.c 0 rfl
  have a_1 := A1.out.c 1 rfl
  go_wp2_with fail
  clear a_0 a_1
  refine (toTopic_any sd ao cap ts w1 hl2 (fits_of HTT.out) (HZ.out.later dSub_ok hB1)).mono ?_
  rintro e w2 ⟨g2, us2, rfl, hv, hF, hb2⟩
  have HV2 := hid hv
  have HL2 := hid (len_val hv)
  have hB2 := hB1.trans (hb2.mono hB1.size)
  have hz2 : w1.heap.size ≤ w2.heap.size := hb2.size
  have A2 := hid (A1.out.later hb2)
  have X22 := hid (FrH.of hF)
  clear A1 hb2
  clear hF hv
  go_wp2_with fail
  refine (specPubl_of sd g2 ts.length us2 ts id w2 HL2.out HV2.out hl2 HTT.out X22.out.in).mono ?_
  rw [HR.out]
  rintro e w3 ⟨⟨oS, cS, usS, oQ, cQ, rfl, hv, hF, hI, hAP⟩, hb3⟩
  have HVS : Hid (usS.map valSub = r0) := hv
  have APS := hid hAP
  dsimp only at hF hI ⊢
  have hB3 := hB2.trans (hb3.mono hB2.size)
  have hz3 : w2.heap.size ≤ w3.heap.size := hb3.size
  have A3 := hid (A2.out.later hb3)
  have X23 := hid (X22.out.later hb3)
  have S3 := hid (FrH.of hF)
  have Q3 := hid (hI)
  clear A2 X22 hb3
  clear hF hv hI hAP
  clear X23
  have pA0 := A3.out.c 0 rfl
  have pA1 := A3.out.c 1 rfl
  have pAz := A3.out.size
  obtain ⟨w4, hwn⟩ : ∃ V, V = w3.alloc (.cells #[.int .i64 rs, .slice oS r0.length cS] 25) := ⟨_, rfl⟩
  have hb4 : Below w3.heap.size w3 w4 := by rw [hwn]; exact below1 _ _
  have hB4 := hB3.trans (hb4.mono hB3.size)
  have hz4 : w3.heap.size ≤ w4.heap.size := hb4.size
  have A4 := hid (A3.out.later hb4)
  have S4 := hid (S3.out.later hb4)
  have Q4 := hid (Q3.out.later hb4)
  have D4 : Hid (Bx w4 w3.heap.size [.int .i64 rs, .slice oS r0.length cS]) := by rw [hwn]; exact Bx.new [.int .i64 rs, .slice oS r0.length cS] _ rfl
  have hy4 : w3.heap.size < w4.heap.size := D4.out.size
  have HA4 := hid hwn
  clear hwn A3 S3 Q3 hb4
  go_wp2_with fail
  clear pA0 pA1 pAz
  rw [← HA4.out]
  refine (toTopic_any sd ao cap ts w4 hl2 (fits_of HTT.out) (HZ.out.later dSub_ok hB4)).mono ?_
  rintro e w5 ⟨g5, us5, rfl, hv, hF, hb5⟩
  have HV5 := hid hv
  have HL5 := hid (len_val hv)
  have hB5 := hB4.trans (hb5.mono hB4.size)
  have hz5 : w4.heap.size ≤ w5.heap.size := hb5.size
  have A5 := hid (A4.out.later hb5)
  have S5 := hid (S4.out.later hb5)
  have Q5 := hid (Q4.out.later hb5)
  have D5 := hid (D4.out.later hb5)
  have X55 := hid (FrH.of hF)
  clear A4 S4 Q4 D4 hb5
  clear hF hv
  obtain ⟨w6, hwn⟩ : ∃ V, V = w5.alloc (.cells #[.int .i64 sd, .slice (some ⟨g5, 0, none⟩) ts.length ts.length] 25) := ⟨_, rfl⟩
  have hb6 : Below w5.heap.size w5 w6 := by rw [hwn]; exact below1 _ _
  have hB6 := hB5.trans (hb6.mono hB5.size)
  have hz6 : w5.heap.size ≤ w6.heap.size := hb6.size
  have A6 := hid (A5.out.later hb6)
  have S6 := hid (S5.out.later hb6)
  have Q6 := hid (Q5.out.later hb6)
  have D6 := hid (D5.out.later hb6)
  have X56 := hid (X55.out.later hb6)
  have P6 : Hid (Bx w6 w5.heap.size [.int .i64 sd, .slice (some ⟨g5, 0, none⟩) ts.length ts.length]) := by rw [hwn]; exact Bx.new [.int .i64 sd, .slice (some ⟨g5, 0, none⟩) ts.length ts.length] _ rfl
  have hy6 : w5.heap.size < w6.heap.size := P6.out.size
  have HA6 := hid hwn
  clear hwn A5 S5 Q5 D5 X55 hb6
  go_wp2_with fail
  rw [← HA6.out]
  refine (implPubl_of sd g5 ts.length us5 ts id w6 HL5.out HV5.out hl2 HTT.out X56.out.in).mono ?_
  rw [HR.out]
  rintro e w7 ⟨⟨oG, cG, usG, oI, cI, rfl, hv, hF, hI, hAP⟩, hb7⟩
  have HVG : Hid (usG.map valSub = r0) := hv
  have APG := hid hAP
  dsimp only at hF hI ⊢
  have hB7 := hB6.trans (hb7.mono hB6.size)
  have hz7 : w6.heap.size ≤ w7.heap.size := hb7.size
  have A7 := hid (A6.out.later hb7)
  have S7 := hid (S6.out.later hb7)
  have Q7 := hid (Q6.out.later hb7)
  have D7 := hid (D6.out.later hb7)
  have X57 := hid (X56.out.later hb7)
  have P7 := hid (P6.out.later hb7)
  have G7 := hid (FrH.of hF)
  have I7 := hid (hI)
  clear A6 S6 Q6 D6 X56 P6 hb7
  clear hF hv hI hAP
  have pD0 := D7.out.c 0 rfl
  have pD1 := D7.out.c 1 rfl
  have pDz := D7.out.size
  obtain ⟨w8, hwn⟩ : ∃ V, V = w7.alloc (.cells #[.int .i64 rs, .slice oG r0.length cG] 25) := ⟨_, rfl⟩
  have hb8 : Below w7.heap.size w7 w8 := by rw [hwn]; exact below1 _ _
  have hB8 := hB7.trans (hb8.mono hB7.size)
  have hz8 : w7.heap.size ≤ w8.heap.size := hb8.size
  have A8 := hid (A7.out.later hb8)
  have S8 := hid (S7.out.later hb8)
  have Q8 := hid (Q7.out.later hb8)
  have D8 := hid (D7.out.later hb8)
  have X58 := hid (X57.out.later hb8)
  have P8 := hid (P7.out.later hb8)
  have G8 := hid (G7.out.later hb8)
  have I8 := hid (I7.out.later hb8)
  have K8 : Hid (Bx w8 w7.heap.size [.int .i64 rs, .slice oG r0.length cG]) := by rw [hwn]; exact Bx.new [.int .i64 rs, .slice oG r0.length cG] _ rfl
  have hy8 : w7.heap.size < w8.heap.size := K8.out.size
  have HA8 := hid hwn
  clear hwn A7 S7 Q7 D7 X57 P7 G7 I7 hb8
  go_wp2_with fail
  clear pD0 pD1 pDz
  rw [← HA8.out]
  refine (eqTopic_of rs oG oS cG cS usG usS r0 w8 HVG.out HVS.out hrl HRT.out G8.out.in S8.out.in).mono ?_
  rintro e w9 ⟨rfl, hb9⟩
  have hB9 := hB8.trans (hb9.mono hB8.size)
  have hz9 : w8.heap.size ≤ w9.heap.size := hb9.size
  have A9 := hid (A8.out.later hb9)
  have S9 := hid (S8.out.later hb9)
  have Q9 := hid (Q8.out.later hb9)
  have D9 := hid (D8.out.later hb9)
  have X59 := hid (X58.out.later hb9)
  have P9 := hid (P8.out.later hb9)
  have G9 := hid (G8.out.later hb9)
  have I9 := hid (I8.out.later hb9)
  have K9 := hid (K8.out.later hb9)
  clear A8 S8 Q8 D8 X58 P8 G8 I8 K8 hb9
  go_wp2_with fail
  refine (eqIntS_same oI oQ cI cQ ri w9 hil I9.out.in Q9.out.in).mono ?_
  rintro e w10 ⟨rfl, hb10⟩
  have hB10 := hB9.trans (hb10.mono hB9.size)
  have hz10 : w9.heap.size ≤ w10.heap.size := hb10.size
  have A10 := hid (A9.out.later hb10)
  have S10 := hid (S9.out.later hb10)
  have Q10 := hid (Q9.out.later hb10)
  have D10 := hid (D9.out.later hb10)
  have X510 := hid (X59.out.later hb10)
  have P10 := hid (P9.out.later hb10)
  have G10 := hid (G9.out.later hb10)
  have I10 := hid (I9.out.later hb10)
  have K10 := hid (K9.out.later hb10)
  clear A9 S9 Q9 D9 X59 P9 G9 I9 K9 hb10
  have a_0 := A10.out.c 0 rfl
  have a_1 := A10.out.c 1 rfl
  have p_0 := P10.out.c 0 rfl
  have p_1 := P10.out.c 1 rfl
  go_wp2
  go_region_with (first
    | (go_at_call 17; refine (toTopic_any sd ao cap ts _ hl2 (fits_of HTT.out) (by exact HZ.out.later dSub_ok hB10.drew)).mono ?_; rintro e wy ⟨gy, usy, rfl, hvy, hFy, hby⟩; have hbo : Below w10.heap.size w10 wy := (Below.refl w10.heap.size w10).drew.trans hby; have By : Bx wy w5.heap.size [.int .i64 sd, .slice (some ⟨g5, 0, none⟩) ts.length ts.length] := P10.out.later hbo; have y0 := By.c 0 rfl; have y1 := By.c 1 rfl; have Fy : Hid (usy.map valSub = ts.map valSub ∧ DIn dSub wy.heap.size wy (some ⟨g5, 0, none⟩) us5 ∧ DIn dSub wy.heap.size wy (some ⟨gy, 0, none⟩) usy) := ⟨hvy, (X510.out.later hbo).in, hFy.in dSub_ok⟩; clear hby hFy hvy)
    | (go_at_call 19; refine (eqTopic_ts (us := us5) (us2 := usy) HV5.out Fy.out.1 hl2 HTT.out (by exact Fy.out.2.1) (by exact Fy.out.2.2)).mono ?_; rintro e w11 ⟨rfl, hbz⟩; have hbq : Below w10.heap.size w10 w11 := hbo.trans (hbz.mono hbo.size); have hB11 : Below w.heap.size w w11 := hB10.trans (hbq.mono hB10.size); have hz11 : w10.heap.size ≤ w11.heap.size := hbq.size; have A11 := hid (A10.out.later hbq); have S11 := hid (S10.out.later hbq); have Q11 := hid (Q10.out.later hbq); have D11 := hid (D10.out.later hbq); have X511 := hid (X510.out.later hbq); have P11 := hid (P10.out.later hbq); have G11 := hid (G10.out.later hbq); have I11 := hid (I10.out.later hbq); have K11 := hid (K10.out.later hbq); clear hbz hbq))
  all_goals
    clear a_0 a_1 p_0 p_1 y0 y1 By Fy hbo A10 S10 Q10 D10 X510 P10 G10 I10 K10
    have p_0 := P11.out.c 0 rfl
    have p_1 := P11.out.c 1 rfl
    go_wp2_with fail
    clear p_0 p_1
    refine (markTopic_ts sd (w4.heap.size) w5.heap.size g5 us5 ts 1 w11 HV5.out hl2 HTT.out (by omega) (by omega) X511.out).mono ?_
    rintro e w12 ⟨⟨kk, rfl, hkk1, hkk2⟩, hbt⟩
    have hb12 : Between w4.heap.size w5.heap.size w11 w12 := hbt
    have hB12 := hB11.trans ((hb12.below (by omega)).mono (by omega))
    have hz12 : w11.heap.size ≤ w12.heap.size := hb12.size
    have A12 := hid (A11.out.between hb12 (by omega))
    have S12 := hid (S11.out.between' hb12 (by omega))
    have Q12 := hid (Q11.out.between' hb12 (by omega))
    have D12 := hid (D11.out.between hb12 (by omega))
    have P12 := hid (P11.out.between hb12 (by omega))
    have G12 := hid (G11.out.between' hb12 (by omega))
    have I12 := hid (I11.out.between' hb12 (by omega))
    have K12 := hid (K11.out.between hb12 (by omega))
    clear G11 I11 A11 S11 X511 K11 Q11 D11 P11 hb12
    clear hbt
    have hk0 : decide (kk < 0) = false := by simp; omega
    have k_0 := K12.out.c 0 rfl
    have k_1 := K12.out.c 1 rfl
    have d_0 := D12.out.c 0 rfl
    have d_1 := D12.out.c 1 rfl
    go_wp2_with fail
    clear k_0 k_1 d_0 d_1
    refine (eqTopic_of rs oG oS cG cS usG usS r0 w12 HVG.out HVS.out hrl HRT.out G12.out.in S12.out.in).mono ?_
    rintro e w13 ⟨rfl, hb13⟩
    have hB13 := hB12.trans (hb13.mono hB12.size)
    have hz13 : w12.heap.size ≤ w13.heap.size := hb13.size
    have A13 := hid (A12.out.later hb13)
    have S13 := hid (S12.out.later hb13)
    have Q13 := hid (Q12.out.later hb13)
    have D13 := hid (D12.out.later hb13)
    have P13 := hid (P12.out.later hb13)
    have G13 := hid (G12.out.later hb13)
    have I13 := hid (I12.out.later hb13)
    have K13 := hid (K12.out.later hb13)
    clear A12 S12 Q12 D12 P12 G12 I12 K12 hb13
    go_wp2_with fail
    refine (eqIntS_same oI oQ cI cQ ri w13 hil I13.out.in Q13.out.in).mono ?_
    rintro e w14 ⟨rfl, hb14⟩
    have hB14 := hB13.trans (hb14.mono hB13.size)
    have hz14 : w13.heap.size ≤ w14.heap.size := hb14.size
    have A14 := hid (A13.out.later hb14)
    have S14 := hid (S13.out.later hb14)
    have Q14 := hid (Q13.out.later hb14)
    have D14 := hid (D13.out.later hb14)
    have P14 := hid (P13.out.later hb14)
    have G14 := hid (G13.out.later hb14)
    have I14 := hid (I13.out.later hb14)
    have K14 := hid (K13.out.later hb14)
    clear A13 S13 Q13 D13 P13 G13 I13 K13 hb14
    have k_0 := K14.out.c 0 rfl
    have k_1 := K14.out.c 1 rfl
    go_wp2_with fail
    clear k_0 k_1
    refine (markTopic_ex2 rs (w6.heap.size) w7.heap.size oG cG usG r0 1 w14 HVG.out hrl HRT.out (by omega) (by omega) G14.out).mono ?_
    rintro e w15 ⟨rfl, hT, hbt, hOD⟩
    have hb15 : Between w6.heap.size w7.heap.size w14 w15 := hbt
    have hB15 := hB14.trans ((hb15.below (by omega)).mono (by omega))
    have hz15 : w14.heap.size ≤ w15.heap.size := hb15.size
    have A15 := hid (A14.out.between hb15 (by omega))
    have S15 := hid (S14.out.between' hb15 (by omega))
    have Q15 := hid (Q14.out.between' hb15 (by omega))
    have D15 := hid (D14.out.between hb15 (by omega))
    have P15 := hid (P14.out.between hb15 (by omega))
    have K15 := hid (K14.out.between hb15 (by omega))
    have I15 := hid (ints_kept I14.out (show DFr dSub _ _ _ _ _ _ from G14.out) hOD APG.out)
    have G15 := hid (hT)
    clear A14 S14 Q14 D14 P14 G14 I14 K14 hb15
    clear hbt hT hOD
    have APM := hid (APG.out.mark 1)
    have hend := (endC_is 1 usG).1
    have hend2 : endC 1 usG ≤ 5242881 := by have h1 := (endC_is 1 usG).2; have h2 := len_ps HVG.out; have h3 := tot_ps HVG.out; have h4 := HRT.out; omega
    have hm0 : decide (endC 1 usG < 0) = false := by simp; omega
    generalize hmm : endC 1 usG = mm at hend hend2 hm0 ⊢
    have HMM := hid hmm
    clear hmm
    go_wp2_with fail
    refine (markIntS_any (w6.heap.size) w7.heap.size oI cI ri mm w15 (by omega) (by omega) (by omega) I15.out).mono ?_
    rintro e w16 ⟨rfl, hT, hOz⟩
    have hb16 : Between w6.heap.size w7.heap.size w15 w16 := I15.out.between hOz
    have hB16 := hB15.trans ((hb16.below (by omega)).mono (by omega))
    have hz16 : w15.heap.size ≤ w16.heap.size := hb16.size
    have A16 := hid (A15.out.between hb16 (by omega))
    have S16 := hid (S15.out.between' hb16 (by omega))
    have Q16 := hid (Q15.out.between' hb16 (by omega))
    have D16 := hid (D15.out.between hb16 (by omega))
    have P16 := hid (P15.out.between hb16 (by omega))
    have K16 := hid (K15.out.between hb16 (by omega))
    have G16 := hid (FrH.of (subs_kept (show DFr dSub _ _ _ _ _ _ from G15.out) I15.out hOz APM.out))
    have I16 := hid (hT)
    clear A15 S15 Q15 D15 P15 G15 I15 K15 hb16
    clear hOz hT
    have hmq : (mm + (ri.length : Int) != mm + (ri.length : Int)) = false := by simp
    have hmq0 : decide (mm + (ri.length : Int) < 0) = false := by simp; omega
    have k_0 := K16.out.c 0 rfl
    have k_1 := K16.out.c 1 rfl
    go_wp2_with fail
    clear k_0 k_1
    refine (heldTopic_ex rs oG cG usG r0 1 w16 HVG.out hrl HRT.out (by omega) (by omega) G16.out.in).mono ?_
    rw [HMM.out]
    rintro e w17 ⟨rfl, hb17⟩
    have hB17 := hB16.trans (hb17.mono hB16.size)
    have hz17 : w16.heap.size ≤ w17.heap.size := hb17.size
    have A17 := hid (A16.out.later hb17)
    have S17 := hid (S16.out.later hb17)
    have Q17 := hid (Q16.out.later hb17)
    have D17 := hid (D16.out.later hb17)
    have P17 := hid (P16.out.later hb17)
    have G17 := hid (G16.out.later hb17)
    have I17 := hid (I16.out.later hb17)
    have K17 := hid (K16.out.later hb17)
    clear A16 S16 Q16 D16 P16 G16 I16 K16 hb17
    go_wp2_with fail
    refine (heldIntS_any oI cI ri.length mm w17 (by omega) (by omega) (by omega) I17.out.in).mono ?_
    rintro e wx ⟨rfl, hws⟩
    rw [hws]; clear hws wx
    have a_0 := A17.out.c 0 rfl
    have a_1 := A17.out.c 1 rfl
    go_wp2_with fail
    clear a_0 a_1
    refine (toTopic_any sd ao cap ts w17 hl2 (fits_of HTT.out) (HZ.out.later dSub_ok hB17)).mono ?_
    rintro e w18 ⟨g7, us7, rfl, hv, hF, hb18⟩
    have HV7 := hid hv
    have HL7 := hid (len_val hv)
    have hB18 := hB17.trans (hb18.mono hB17.size)
    have hz18 : w17.heap.size ≤ w18.heap.size := hb18.size
    have A18 := hid (A17.out.later hb18)
    have S18 := hid (S17.out.later hb18)
    have Q18 := hid (Q17.out.later hb18)
    have D18 := hid (D17.out.later hb18)
    have P18 := hid (P17.out.later hb18)
    have G18 := hid (G17.out.later hb18)
    have I18 := hid (I17.out.later hb18)
    have K18 := hid (K17.out.later hb18)
    have X718 := hid (FrH.of hF)
    clear A17 S17 Q17 D17 P17 G17 I17 K17 hb18
    clear hF hv
    go_wp2_with fail
    refine (implPubl_of sd g7 ts.length us7 ts id w18 HL7.out HV7.out hl2 HTT.out X718.out.in).mono ?_
    rw [HR.out]
    rintro e w19 ⟨⟨oH, cH, usH, oU, cU, rfl, hv, hF, hI, hAP⟩, hb19⟩
    have HVH : Hid (usH.map valSub = r0) := hv
    have APH := hid hAP
    dsimp only at hF hI ⊢
    have hB19 := hB18.trans (hb19.mono hB18.size)
    have hz19 : w18.heap.size ≤ w19.heap.size := hb19.size
    have A19 := hid (A18.out.later hb19)
    have S19 := hid (S18.out.later hb19)
    have Q19 := hid (Q18.out.later hb19)
    have D19 := hid (D18.out.later hb19)
    have P19 := hid (P18.out.later hb19)
    have G19 := hid (G18.out.later hb19)
    have I19 := hid (I18.out.later hb19)
    have K19 := hid (K18.out.later hb19)
    have X719 := hid (X718.out.later hb19)
    have H19 := hid (FrH.of hF)
    have U19 := hid (hI)
    clear A18 S18 Q18 D18 P18 G18 I18 K18 X718 hb19
    clear hF hv hI hAP
    clear X719
    have pD0 := D19.out.c 0 rfl
    have pD1 := D19.out.c 1 rfl
    have pDz := D19.out.size
    obtain ⟨w20, hwn⟩ : ∃ V, V = w19.alloc (.cells #[.int .i64 rs, .slice oH r0.length cH] 25) := ⟨_, rfl⟩
    have hb20 : Below w19.heap.size w19 w20 := by rw [hwn]; exact below1 _ _
    have hB20 := hB19.trans (hb20.mono hB19.size)
    have hz20 : w19.heap.size ≤ w20.heap.size := hb20.size
    have A20 := hid (A19.out.later hb20)
    have S20 := hid (S19.out.later hb20)
    have Q20 := hid (Q19.out.later hb20)
    have D20 := hid (D19.out.later hb20)
    have P20 := hid (P19.out.later hb20)
    have G20 := hid (G19.out.later hb20)
    have I20 := hid (I19.out.later hb20)
    have K20 := hid (K19.out.later hb20)
    have H20 := hid (H19.out.later hb20)
    have U20 := hid (U19.out.later hb20)
    have J20 : Hid (Bx w20 w19.heap.size [.int .i64 rs, .slice oH r0.length cH]) := by rw [hwn]; exact Bx.new [.int .i64 rs, .slice oH r0.length cH] _ rfl
    have hy20 : w19.heap.size < w20.heap.size := J20.out.size
    have HA20 := hid hwn
    clear hwn A19 S19 Q19 D19 P19 G19 I19 K19 H19 U19 hb20
    go_wp2_with fail
    clear pD0 pD1 pDz
    rw [← HA20.out]
    refine (eqTopic_of rs oH oS cH cS usH usS r0 w20 HVH.out HVS.out hrl HRT.out H20.out.in S20.out.in).mono ?_
    rintro e w21 ⟨rfl, hb21⟩
    have hB21 := hB20.trans (hb21.mono hB20.size)
    have hz21 : w20.heap.size ≤ w21.heap.size := hb21.size
    have A21 := hid (A20.out.later hb21)
    have S21 := hid (S20.out.later hb21)
    have Q21 := hid (Q20.out.later hb21)
    have D21 := hid (D20.out.later hb21)
    have P21 := hid (P20.out.later hb21)
    have G21 := hid (G20.out.later hb21)
    have I21 := hid (I20.out.later hb21)
    have K21 := hid (K20.out.later hb21)
    have H21 := hid (H20.out.later hb21)
    have U21 := hid (U20.out.later hb21)
    have J21 := hid (J20.out.later hb21)
    clear A20 S20 Q20 D20 P20 G20 I20 K20 H20 U20 J20 hb21
    go_wp2_with fail
    refine (eqIntS_same oU oQ cU cQ ri w21 hil U21.out.in Q21.out.in).mono ?_
    rintro e w22 ⟨rfl, hb22⟩
    have hB22 := hB21.trans (hb22.mono hB21.size)
    have hz22 : w21.heap.size ≤ w22.heap.size := hb22.size
    have A22 := hid (A21.out.later hb22)
    have S22 := hid (S21.out.later hb22)
    have Q22 := hid (Q21.out.later hb22)
    have D22 := hid (D21.out.later hb22)
    have P22 := hid (P21.out.later hb22)
    have G22 := hid (G21.out.later hb22)
    have I22 := hid (I21.out.later hb22)
    have K22 := hid (K21.out.later hb22)
    have H22 := hid (H21.out.later hb22)
    have U22 := hid (U21.out.later hb22)
    have J22 := hid (J21.out.later hb22)
    clear A21 S21 Q21 D21 P21 G21 I21 K21 H21 U21 J21 hb22
    clear H22 S22 J22 D22 U22 Q22
    have k_0 := K22.out.c 0 rfl
    have k_1 := K22.out.c 1 rfl
    go_wp2_with fail
    clear k_0 k_1
    refine (heldTopic_ex rs oG cG usG r0 1 w22 HVG.out hrl HRT.out (by omega) (by omega) G22.out.in).mono ?_
    rw [HMM.out]
    rintro e w23 ⟨rfl, hb23⟩
    have hB23 := hB22.trans (hb23.mono hB22.size)
    have hz23 : w22.heap.size ≤ w23.heap.size := hb23.size
    have A23 := hid (A22.out.later hb23)
    have P23 := hid (P22.out.later hb23)
    have G23 := hid (G22.out.later hb23)
    have I23 := hid (I22.out.later hb23)
    have K23 := hid (K22.out.later hb23)
    clear A22 P22 G22 I22 K22 hb23
    go_wp2_with fail
    refine (heldIntS_any oI cI ri.length mm w23 (by omega) (by omega) (by omega) I23.out.in).mono ?_
    rintro e wx ⟨rfl, hws⟩
    rw [hws]; clear hws wx
    go_wp2
    go_ret
    exact ⟨rfl, hB23⟩
end Go.Proofs.Ytdghlgpkcpndjaa
