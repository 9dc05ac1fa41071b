
/- The walk of the law of FailChild: it returns true. No conditions but those written. -/
import Derived.Test.YtbpacibfboldcaaDoorFn
namespace Go.Proofs.YtbpacibfboldcaaDoor
open Go.RowKit

set_option maxRecDepth 100000 in
set_option maxHeartbeats 16000000 in
theorem lawFailC_any (kd : Int) (mr : Int) (wi : Int) (up : Int) (ch : Int) (ov : Bool) (ro : Option Addr) (rc : Nat) (r : List (Bool)) (fo : Option Addr) (fc : Nat) (f : List (Int)) (c t : Int) (w : World) (hlr : r.length ≤ 9223372036854775807) (hlf : f.length ≤ 9223372036854775807) (hz : InKeeper w.heap.size w ro r fo f) (h0 : 0 < w.heap.size) (hg : w.cell? ⟨0, 0, none⟩ = some (.iface 104 (.agg #[.pointer (some ⟨1, 84, none⟩)]))) :
    Calls Tryd.prog 3 #[.agg #[.int .i64 kd, .int .i64 mr, .int .i64 wi, .int .i64 up, .int .i64 ch, .slice ro r.length rc, .slice fo f.length fc, .bool ov], .int .i64 c, .int .i64 t] w fun e w' => e = .returned (.bool true) ∧ Below w.heap.size w w' := by
  have HZ := hid hz
  have HG := hid hg
  clear hz hg
  go_enter Tryd.func3, Tryd.ntmps3
  go_wp2_with fail
  have hn0 := below1 w (.cells #[.int .i64 kd, .int .i64 mr, .int .i64 wi, .int .i64 up, .int .i64 ch, .slice ro r.length rc, .slice fo f.length fc, .bool ov] 25)
  refine (szKeeper_any kd mr wi up ch ov ro r.length rc fo f.length fc _ hlr hlf).mono ?_
  rintro e w1 ⟨⟨z, rfl, hr⟩, hb1⟩
  have A1 := hid ((Bx.new (w := w) (p := w.heap.size) [.int .i64 kd, .int .i64 mr, .int .i64 wi, .int .i64 up, .int .i64 ch, .slice ro r.length rc, .slice fo f.length fc, .bool ov] 25 rfl).later hb1)
  have hB1 := hn0.trans (hb1.mono (by simp))
  have hz1 := hB1.size
  have hA1 := A1.out.size
  clear hb1 hn0
  rcases hr with hr | ⟨hr0, hlr2, hlf2⟩
  · go_wp2
    go_ret
    exact ⟨rfl, hB1⟩
  have hz0' : decide (z < 0) = false := by simpa using hr0
  have hrl := failR_len (kd := kd) (mr := mr) (wi := wi) (up := up) (ch := ch) (ov := ov) (c := c) (t := t) hlr2 hlf2
  generalize hR : failR (kd, mr, wi, up, ch, r, f, ov) c t = R at hrl
  have HR := hid hR
  clear hR
  obtain ⟨⟨k1, k2, k3, k4, k5, r', f', ov'⟩, al, rz⟩ := R
  obtain ⟨hr1, hr2, hr3⟩ := hrl
  have hr1' : r'.length ≤ 1048576 := hr1
  have hr2' : f'.length ≤ 1048576 := hr2
  have hr3' : al.length ≤ 1048576 := hr3
  clear hr1 hr2 hr3
  have hne_rz : (rz != rz) = false := by simp
  have a_0 := A1.out.c 0 rfl
  have a_1 := A1.out.c 1 rfl
  have a_2 := A1.out.c 2 rfl
  have a_3 := A1.out.c 3 rfl
  have a_4 := A1.out.c 4 rfl
  have a_5 := A1.out.c 5 rfl
  have a_6 := A1.out.c 6 rfl
  have a_7 := A1.out.c 7 rfl
  go_wp2_with fail
  clear a_0 a_1 a_2 a_3 a_4 a_5 a_6 a_7
  refine (toKeeper_any kd mr wi up ch ov ro rc r fo fc f w1 hlr2 hlf2 (HZ.out.later hB1)).mono ?_
  rintro e w2 ⟨gr2, gf2, rfl, hF, hb2⟩
  have hB2 := hB1.trans (hb2.mono hB1.size)
  have hz2 : w1.heap.size ≤ w2.heap.size := hb2.size
  have A2 := hid (A1.out.later hb2)
  have X22 := hid (hF)
  clear A1 hb2
  clear hF
  go_wp2_with fail
  refine (specFailC_any kd mr wi up ch ov (some ⟨gr2, 0, none⟩) r.length r (some ⟨gf2, 0, none⟩) f.length f c t w2 hlr2 hlf2 X22.out.in).mono ?_
  rw [HR.out]
  rintro e w3 ⟨⟨roS, rcS, foS, fcS, aoQ, acQ, rfl, hF, hA⟩, hb3⟩
  dsimp only at hF hA ⊢
  have hB3 := hB2.trans (hb3.mono hB2.size)
  have hz3 : w2.heap.size ≤ w3.heap.size := hb3.size
  have A3 := hid (A2.out.later hb3)
  have X23 := hid (X22.out.later hb3)
  have S3 := hid (hF)
  have Q3 := hid (hA)
  clear A2 X22 hb3
  clear hF hA
  clear X23
  have pA0 := A3.out.c 0 rfl
  have pA1 := A3.out.c 1 rfl
  have pA2 := A3.out.c 2 rfl
  have pA3 := A3.out.c 3 rfl
  have pA4 := A3.out.c 4 rfl
  have pA5 := A3.out.c 5 rfl
  have pA6 := A3.out.c 6 rfl
  have pA7 := A3.out.c 7 rfl
  have pAz := A3.out.size
  obtain ⟨w4, hwn⟩ : ∃ V, V = w3.alloc (.cells #[.int .i64 k1, .int .i64 k2, .int .i64 k3, .int .i64 k4, .int .i64 k5, .slice roS r'.length rcS, .slice foS f'.length fcS, .bool ov'] 27) := ⟨_, rfl⟩
  have hb4 : Below w3.heap.size w3 w4 := by rw [hwn]; exact below1 _ _
  have hB4 := hB3.trans (hb4.mono hB3.size)
  have hz4 : w3.heap.size ≤ w4.heap.size := hb4.size
  have A4 := hid (A3.out.later hb4)
  have S4 := hid (S3.out.later hb4)
  have Q4 := hid (Q3.out.later hb4)
  have D4 : Hid (Bx w4 w3.heap.size [.int .i64 k1, .int .i64 k2, .int .i64 k3, .int .i64 k4, .int .i64 k5, .slice roS r'.length rcS, .slice foS f'.length fcS, .bool ov']) := by rw [hwn]; exact Bx.new [.int .i64 k1, .int .i64 k2, .int .i64 k3, .int .i64 k4, .int .i64 k5, .slice roS r'.length rcS, .slice foS f'.length fcS, .bool ov'] _ rfl
  have hy4 : w3.heap.size < w4.heap.size := D4.out.size
  have HA4 := hid hwn
  clear hwn A3 S3 Q3 hb4
  go_wp2_with fail
  clear pA0 pA1 pA2 pA3 pA4 pA5 pA6 pA7 pAz
  rw [← HA4.out]
  refine (toKeeper_any kd mr wi up ch ov ro rc r fo fc f w4 hlr2 hlf2 (HZ.out.later hB4)).mono ?_
  rintro e w5 ⟨gr5, gf5, rfl, hF, hb5⟩
  have hB5 := hB4.trans (hb5.mono hB4.size)
  have hz5 : w4.heap.size ≤ w5.heap.size := hb5.size
  have A5 := hid (A4.out.later hb5)
  have S5 := hid (S4.out.later hb5)
  have Q5 := hid (Q4.out.later hb5)
  have D5 := hid (D4.out.later hb5)
  have X55 := hid (hF)
  clear A4 S4 Q4 D4 hb5
  clear hF
  obtain ⟨w6, hwn⟩ : ∃ V, V = w5.alloc (.cells #[.int .i64 kd, .int .i64 mr, .int .i64 wi, .int .i64 up, .int .i64 ch, .slice (some ⟨gr5, 0, none⟩) r.length r.length, .slice (some ⟨gf5, 0, none⟩) f.length f.length, .bool ov] 27) := ⟨_, rfl⟩
  have hb6 : Below w5.heap.size w5 w6 := by rw [hwn]; exact below1 _ _
  have hB6 := hB5.trans (hb6.mono hB5.size)
  have hz6 : w5.heap.size ≤ w6.heap.size := hb6.size
  have A6 := hid (A5.out.later hb6)
  have S6 := hid (S5.out.later hb6)
  have Q6 := hid (Q5.out.later hb6)
  have D6 := hid (D5.out.later hb6)
  have X56 := hid (X55.out.later hb6)
  have P6 : Hid (Bx w6 w5.heap.size [.int .i64 kd, .int .i64 mr, .int .i64 wi, .int .i64 up, .int .i64 ch, .slice (some ⟨gr5, 0, none⟩) r.length r.length, .slice (some ⟨gf5, 0, none⟩) f.length f.length, .bool ov]) := by rw [hwn]; exact Bx.new [.int .i64 kd, .int .i64 mr, .int .i64 wi, .int .i64 up, .int .i64 ch, .slice (some ⟨gr5, 0, none⟩) r.length r.length, .slice (some ⟨gf5, 0, none⟩) f.length f.length, .bool ov] _ rfl
  have hy6 : w5.heap.size < w6.heap.size := P6.out.size
  have HA6 := hid hwn
  clear hwn A5 S5 Q5 D5 X55 hb6
  go_wp2_with fail
  rw [← HA6.out]
  refine (implFailC_any kd mr wi up ch ov (some ⟨gr5, 0, none⟩) r.length r (some ⟨gf5, 0, none⟩) f.length f c t w6 hlr2 hlf2 X56.out.in (by omega) ((hB6.cell (p := ⟨0, 0, none⟩) h0).trans HG.out)).mono ?_
  rw [HR.out]
  rintro e w7 ⟨⟨roG, rcG, foG, fcG, aoI, acI, rfl, hF, hA⟩, hb7⟩
  dsimp only at hF hA ⊢
  have hB7 := hB6.trans (hb7.mono hB6.size)
  have hz7 : w6.heap.size ≤ w7.heap.size := hb7.size
  have A7 := hid (A6.out.later hb7)
  have S7 := hid (S6.out.later hb7)
  have Q7 := hid (Q6.out.later hb7)
  have D7 := hid (D6.out.later hb7)
  have X57 := hid (X56.out.later hb7)
  have P7 := hid (P6.out.later hb7)
  have G7 := hid (hF)
  have I7 := hid (hA)
  clear A6 S6 Q6 D6 X56 P6 hb7
  clear hF hA
  have pD0 := D7.out.c 0 rfl
  have pD1 := D7.out.c 1 rfl
  have pD2 := D7.out.c 2 rfl
  have pD3 := D7.out.c 3 rfl
  have pD4 := D7.out.c 4 rfl
  have pD5 := D7.out.c 5 rfl
  have pD6 := D7.out.c 6 rfl
  have pD7 := D7.out.c 7 rfl
  have pDz := D7.out.size
  obtain ⟨w8, hwn⟩ : ∃ V, V = w7.alloc (.cells #[.int .i64 k1, .int .i64 k2, .int .i64 k3, .int .i64 k4, .int .i64 k5, .slice roG r'.length rcG, .slice foG f'.length fcG, .bool ov'] 27) := ⟨_, rfl⟩
  have hb8 : Below w7.heap.size w7 w8 := by rw [hwn]; exact below1 _ _
  have hB8 := hB7.trans (hb8.mono hB7.size)
  have hz8 : w7.heap.size ≤ w8.heap.size := hb8.size
  have A8 := hid (A7.out.later hb8)
  have S8 := hid (S7.out.later hb8)
  have Q8 := hid (Q7.out.later hb8)
  have D8 := hid (D7.out.later hb8)
  have X58 := hid (X57.out.later hb8)
  have P8 := hid (P7.out.later hb8)
  have G8 := hid (G7.out.later hb8)
  have I8 := hid (I7.out.later hb8)
  have K8 : Hid (Bx w8 w7.heap.size [.int .i64 k1, .int .i64 k2, .int .i64 k3, .int .i64 k4, .int .i64 k5, .slice roG r'.length rcG, .slice foG f'.length fcG, .bool ov']) := by rw [hwn]; exact Bx.new [.int .i64 k1, .int .i64 k2, .int .i64 k3, .int .i64 k4, .int .i64 k5, .slice roG r'.length rcG, .slice foG f'.length fcG, .bool ov'] _ rfl
  have hy8 : w7.heap.size < w8.heap.size := K8.out.size
  have HA8 := hid hwn
  clear hwn A7 S7 Q7 D7 X57 P7 G7 I7 hb8
  go_wp2_with fail
  clear pD0 pD1 pD2 pD3 pD4 pD5 pD6 pD7 pDz
  rw [← HA8.out]
  refine (eqKeeper_same k1 k2 k3 k4 k5 ov' roG rcG r' foG fcG f' roS rcS foS fcS w8 hr1' hr2' G8.out.in S8.out.in).mono ?_
  rintro e w9 ⟨rfl, hb9⟩
  have hB9 := hB8.trans (hb9.mono hB8.size)
  have hz9 : w8.heap.size ≤ w9.heap.size := hb9.size
  have A9 := hid (A8.out.later hb9)
  have S9 := hid (S8.out.later hb9)
  have Q9 := hid (Q8.out.later hb9)
  have D9 := hid (D8.out.later hb9)
  have X59 := hid (X58.out.later hb9)
  have P9 := hid (P8.out.later hb9)
  have G9 := hid (G8.out.later hb9)
  have I9 := hid (I8.out.later hb9)
  have K9 := hid (K8.out.later hb9)
  clear A8 S8 Q8 D8 X58 P8 G8 I8 K8 hb9
  go_wp2_with fail
  refine (eqActS_same aoI aoQ acI acQ al w9 hr3' I9.out.in Q9.out.in).mono ?_
  rintro e w10 ⟨rfl, hb10⟩
  have hB10 := hB9.trans (hb10.mono hB9.size)
  have hz10 : w9.heap.size ≤ w10.heap.size := hb10.size
  have A10 := hid (A9.out.later hb10)
  have S10 := hid (S9.out.later hb10)
  have Q10 := hid (Q9.out.later hb10)
  have D10 := hid (D9.out.later hb10)
  have X510 := hid (X59.out.later hb10)
  have P10 := hid (P9.out.later hb10)
  have G10 := hid (G9.out.later hb10)
  have I10 := hid (I9.out.later hb10)
  have K10 := hid (K9.out.later hb10)
  clear A9 S9 Q9 D9 X59 P9 G9 I9 K9 hb10
  have a_0 := A10.out.c 0 rfl
  have a_1 := A10.out.c 1 rfl
  have a_2 := A10.out.c 2 rfl
  have a_3 := A10.out.c 3 rfl
  have a_4 := A10.out.c 4 rfl
  have a_5 := A10.out.c 5 rfl
  have a_6 := A10.out.c 6 rfl
  have a_7 := A10.out.c 7 rfl
  have p_0 := P10.out.c 0 rfl
  have p_1 := P10.out.c 1 rfl
  have p_2 := P10.out.c 2 rfl
  have p_3 := P10.out.c 3 rfl
  have p_4 := P10.out.c 4 rfl
  have p_5 := P10.out.c 5 rfl
  have p_6 := P10.out.c 6 rfl
  have p_7 := P10.out.c 7 rfl
  go_wp2
  go_region_with (first
    | (go_at_call 7; refine (toKeeper_any kd mr wi up ch ov ro rc r fo fc f _ hlr2 hlf2 (by exact HZ.out.later hB10.drew)).mono ?_; rintro e wy ⟨gry, gfy, rfl, hFy, hby⟩; have hbo : Below w10.heap.size w10 wy := (Below.refl w10.heap.size w10).drew.trans hby; have By : Bx wy w5.heap.size [.int .i64 kd, .int .i64 mr, .int .i64 wi, .int .i64 up, .int .i64 ch, .slice (some ⟨gr5, 0, none⟩) r.length r.length, .slice (some ⟨gf5, 0, none⟩) f.length f.length, .bool ov] := P10.out.later hbo; have y0 := By.c 0 rfl; have y1 := By.c 1 rfl; have y2 := By.c 2 rfl; have y3 := By.c 3 rfl; have y4 := By.c 4 rfl; have y5 := By.c 5 rfl; have y6 := By.c 6 rfl; have y7 := By.c 7 rfl; have Fy : Hid (InKeeper wy.heap.size wy (some ⟨gr5, 0, none⟩) r (some ⟨gf5, 0, none⟩) f ∧ InKeeper wy.heap.size wy (some ⟨gry, 0, none⟩) r (some ⟨gfy, 0, none⟩) f) := ⟨(X510.out.later hbo).in, hFy.in⟩; clear hby hFy)
    | (go_at_call 9; refine (eqKeeper_same kd mr wi up ch ov (some ⟨gr5, 0, none⟩) r.length r (some ⟨gf5, 0, none⟩) f.length f (some ⟨gry, 0, none⟩) r.length (some ⟨gfy, 0, none⟩) f.length _ hlr2 hlf2 (by exact Fy.out.1) (by exact Fy.out.2)).mono ?_; rintro e w11 ⟨rfl, hbz⟩; have hbq : Below w10.heap.size w10 w11 := hbo.trans (hbz.mono hbo.size); have hB11 : Below w.heap.size w w11 := hB10.trans (hbq.mono hB10.size); have hz11 : w10.heap.size ≤ w11.heap.size := hbq.size; have A11 := hid (A10.out.later hbq); have S11 := hid (S10.out.later hbq); have Q11 := hid (Q10.out.later hbq); have D11 := hid (D10.out.later hbq); have X511 := hid (X510.out.later hbq); have P11 := hid (P10.out.later hbq); have G11 := hid (G10.out.later hbq); have I11 := hid (I10.out.later hbq); have K11 := hid (K10.out.later hbq); clear hbz hbq))
  all_goals
    clear a_0 a_1 a_2 a_3 a_4 a_5 a_6 a_7 p_0 p_1 p_2 p_3 p_4 p_5 p_6 p_7 y0 y1 y2 y3 y4 y5 y6 y7 By Fy hbo A10 S10 Q10 D10 X510 P10 G10 I10 K10
    have p_0 := P11.out.c 0 rfl
    have p_1 := P11.out.c 1 rfl
    have p_2 := P11.out.c 2 rfl
    have p_3 := P11.out.c 3 rfl
    have p_4 := P11.out.c 4 rfl
    have p_5 := P11.out.c 5 rfl
    have p_6 := P11.out.c 6 rfl
    have p_7 := P11.out.c 7 rfl
    go_wp2_with fail
    clear p_0 p_1 p_2 p_3 p_4 p_5 p_6 p_7
    refine (markKeeper_any (w4.heap.size) w5.heap.size kd mr wi up ch ov (some ⟨gr5, 0, none⟩) r.length r (some ⟨gf5, 0, none⟩) f.length f 1 w11 hlr2 hlf2 (by omega) (by omega) X511.out).mono ?_
    rintro e w12 ⟨rfl, hT, hbt⟩
    have hb12 : Between w4.heap.size w5.heap.size w11 w12 := hbt
    have hB12 := hB11.trans ((hb12.below (by omega)).mono (by omega))
    have hz12 : w11.heap.size ≤ w12.heap.size := hb12.size
    have A12 := hid (A11.out.between hb12 (by omega))
    have S12 := hid (S11.out.between' hb12 (by omega))
    have Q12 := hid (Q11.out.between' hb12 (by omega))
    have D12 := hid (D11.out.between hb12 (by omega))
    have P12 := hid (P11.out.between hb12 (by omega))
    have G12 := hid (G11.out.between' hb12 (by omega))
    have I12 := hid (I11.out.between' hb12 (by omega))
    have K12 := hid (K11.out.between hb12 (by omega))
    clear S11 D11 I11 Q11 P11 K11 G11 A11 X511 hb12
    clear hbt hT
    have hk0 : decide (1 + (r.length : Int) + (f.length : Int) < 0) = false := by simp; omega
    have k_0 := K12.out.c 0 rfl
    have k_1 := K12.out.c 1 rfl
    have k_2 := K12.out.c 2 rfl
    have k_3 := K12.out.c 3 rfl
    have k_4 := K12.out.c 4 rfl
    have k_5 := K12.out.c 5 rfl
    have k_6 := K12.out.c 6 rfl
    have k_7 := K12.out.c 7 rfl
    have d_0 := D12.out.c 0 rfl
    have d_1 := D12.out.c 1 rfl
    have d_2 := D12.out.c 2 rfl
    have d_3 := D12.out.c 3 rfl
    have d_4 := D12.out.c 4 rfl
    have d_5 := D12.out.c 5 rfl
    have d_6 := D12.out.c 6 rfl
    have d_7 := D12.out.c 7 rfl
    go_wp2_with fail
    clear k_0 k_1 k_2 k_3 k_4 k_5 k_6 k_7 d_0 d_1 d_2 d_3 d_4 d_5 d_6 d_7
    refine (eqKeeper_same k1 k2 k3 k4 k5 ov' roG rcG r' foG fcG f' roS rcS foS fcS w12 hr1' hr2' G12.out.in S12.out.in).mono ?_
    rintro e w13 ⟨rfl, hb13⟩
    have hB13 := hB12.trans (hb13.mono hB12.size)
    have hz13 : w12.heap.size ≤ w13.heap.size := hb13.size
    have A13 := hid (A12.out.later hb13)
    have S13 := hid (S12.out.later hb13)
    have Q13 := hid (Q12.out.later hb13)
    have D13 := hid (D12.out.later hb13)
    have P13 := hid (P12.out.later hb13)
    have G13 := hid (G12.out.later hb13)
    have I13 := hid (I12.out.later hb13)
    have K13 := hid (K12.out.later hb13)
    clear A12 S12 Q12 D12 P12 G12 I12 K12 hb13
    go_wp2_with fail
    refine (eqActS_same aoI aoQ acI acQ al w13 hr3' I13.out.in Q13.out.in).mono ?_
    rintro e w14 ⟨rfl, hb14⟩
    have hB14 := hB13.trans (hb14.mono hB13.size)
    have hz14 : w13.heap.size ≤ w14.heap.size := hb14.size
    have A14 := hid (A13.out.later hb14)
    have S14 := hid (S13.out.later hb14)
    have Q14 := hid (Q13.out.later hb14)
    have D14 := hid (D13.out.later hb14)
    have P14 := hid (P13.out.later hb14)
    have G14 := hid (G13.out.later hb14)
    have I14 := hid (I13.out.later hb14)
    have K14 := hid (K13.out.later hb14)
    clear A13 S13 Q13 D13 P13 G13 I13 K13 hb14
    have k_0 := K14.out.c 0 rfl
    have k_1 := K14.out.c 1 rfl
    have k_2 := K14.out.c 2 rfl
    have k_3 := K14.out.c 3 rfl
    have k_4 := K14.out.c 4 rfl
    have k_5 := K14.out.c 5 rfl
    have k_6 := K14.out.c 6 rfl
    have k_7 := K14.out.c 7 rfl
    go_wp2_with fail
    clear k_0 k_1 k_2 k_3 k_4 k_5 k_6 k_7
    refine (markKeeper_acts (w6.heap.size) w7.heap.size k1 k2 k3 k4 k5 ov' roG rcG r' foG fcG f' 1 w14 hr1' hr2' (by omega) (by omega) G14.out aoI acI al I14.out).mono ?_
    rintro e w15 ⟨rfl, hT, hA, hbt⟩
    have hb15 : Between w6.heap.size w7.heap.size w14 w15 := hbt
    have hB15 := hB14.trans ((hb15.below (by omega)).mono (by omega))
    have hz15 : w14.heap.size ≤ w15.heap.size := hb15.size
    have A15 := hid (A14.out.between hb15 (by omega))
    have S15 := hid (S14.out.between' hb15 (by omega))
    have Q15 := hid (Q14.out.between' hb15 (by omega))
    have D15 := hid (D14.out.between hb15 (by omega))
    have P15 := hid (P14.out.between hb15 (by omega))
    have K15 := hid (K14.out.between hb15 (by omega))
    have I15 := hid (hA)
    have G15 := hid (hT)
    clear A14 S14 Q14 D14 P14 G14 I14 K14 hb15
    clear hbt hT hA
    have hml : (markB 1 r'.length).length = r'.length := markB_len _ _
    go_wp2_with fail
    refine (markActS_any (w6.heap.size) w7.heap.size aoI acI al (1 + (r'.length : Int) + (f'.length : Int)) w15 (by omega) (by omega) (by omega) I15.out).mono ?_
    rintro e w16 ⟨rfl, hT, hOz⟩
    have hb16 : Between w6.heap.size w7.heap.size w15 w16 := I15.out.between hOz
    have hB16 := hB15.trans ((hb16.below (by omega)).mono (by omega))
    have hz16 : w15.heap.size ≤ w16.heap.size := hb16.size
    have A16 := hid (A15.out.between hb16 (by omega))
    have S16 := hid (S15.out.between' hb16 (by omega))
    have Q16 := hid (Q15.out.between' hb16 (by omega))
    have D16 := hid (D15.out.between hb16 (by omega))
    have P16 := hid (P15.out.between hb16 (by omega))
    have K16 := hid (K15.out.between hb16 (by omega))
    have G16 := hid (FrKeeper.offA G15.out I15.out hOz)
    have I16 := hid (hT)
    clear A15 S15 Q15 D15 P15 G15 I15 K15 hb16
    clear hOz hT
    have hmq : (1 + (r'.length : Int) + (f'.length : Int) + 3 * (al.length : Int) != 1 + (r'.length : Int) + (f'.length : Int) + 3 * (al.length : Int)) = false := by simp
    have hmq0 : decide (1 + (r'.length : Int) + (f'.length : Int) + 3 * (al.length : Int) < 0) = false := by simp; omega
    have hmk0 : decide (1 + (r'.length : Int) + (f'.length : Int) < 0) = false := by simp; omega
    have k_0 := K16.out.c 0 rfl
    have k_1 := K16.out.c 1 rfl
    have k_2 := K16.out.c 2 rfl
    have k_3 := K16.out.c 3 rfl
    have k_4 := K16.out.c 4 rfl
    have k_5 := K16.out.c 5 rfl
    have k_6 := K16.out.c 6 rfl
    have k_7 := K16.out.c 7 rfl
    go_wp2_with fail
    clear k_0 k_1 k_2 k_3 k_4 k_5 k_6 k_7
    refine (heldKeeper_any k1 k2 k3 k4 k5 ov' roG rcG r'.length foG fcG f'.length 1 w16 hr1' hr2' (by omega) (by omega) G16.out.in).mono ?_
    rintro e w17 ⟨rfl, hb17⟩
    have hB17 := hB16.trans (hb17.mono hB16.size)
    have hz17 : w16.heap.size ≤ w17.heap.size := hb17.size
    have A17 := hid (A16.out.later hb17)
    have S17 := hid (S16.out.later hb17)
    have Q17 := hid (Q16.out.later hb17)
    have D17 := hid (D16.out.later hb17)
    have P17 := hid (P16.out.later hb17)
    have G17 := hid (G16.out.later hb17)
    have I17 := hid (I16.out.later hb17)
    have K17 := hid (K16.out.later hb17)
    clear A16 S16 Q16 D16 P16 G16 I16 K16 hb17
    go_wp2_with fail
    refine (heldActS_any aoI acI al.length (1 + (r'.length : Int) + (f'.length : Int)) w17 (by omega) (by omega) (by omega) I17.out.in).mono ?_
    rintro e wx ⟨rfl, hws⟩
    rw [hws]; clear hws wx
    have a_0 := A17.out.c 0 rfl
    have a_1 := A17.out.c 1 rfl
    have a_2 := A17.out.c 2 rfl
    have a_3 := A17.out.c 3 rfl
    have a_4 := A17.out.c 4 rfl
    have a_5 := A17.out.c 5 rfl
    have a_6 := A17.out.c 6 rfl
    have a_7 := A17.out.c 7 rfl
    go_wp2_with fail
    clear a_0 a_1 a_2 a_3 a_4 a_5 a_6 a_7
    refine (toKeeper_any kd mr wi up ch ov ro rc r fo fc f w17 hlr2 hlf2 (HZ.out.later hB17)).mono ?_
    rintro e w18 ⟨gr7, gf7, rfl, hF, hb18⟩
    have hB18 := hB17.trans (hb18.mono hB17.size)
    have hz18 : w17.heap.size ≤ w18.heap.size := hb18.size
    have A18 := hid (A17.out.later hb18)
    have S18 := hid (S17.out.later hb18)
    have Q18 := hid (Q17.out.later hb18)
    have D18 := hid (D17.out.later hb18)
    have P18 := hid (P17.out.later hb18)
    have G18 := hid (G17.out.later hb18)
    have I18 := hid (I17.out.later hb18)
    have K18 := hid (K17.out.later hb18)
    have X718 := hid (hF)
    clear A17 S17 Q17 D17 P17 G17 I17 K17 hb18
    clear hF
    go_wp2_with fail
    refine (implFailC_any kd mr wi up ch ov (some ⟨gr7, 0, none⟩) r.length r (some ⟨gf7, 0, none⟩) f.length f c t w18 hlr2 hlf2 X718.out.in (by omega) ((hB18.cell (p := ⟨0, 0, none⟩) h0).trans HG.out)).mono ?_
    rw [HR.out]
    rintro e w19 ⟨⟨roH, rcH, foH, fcH, aoU, acU, rfl, hF, hA⟩, hb19⟩
    dsimp only at hF hA ⊢
    have hB19 := hB18.trans (hb19.mono hB18.size)
    have hz19 : w18.heap.size ≤ w19.heap.size := hb19.size
    have A19 := hid (A18.out.later hb19)
    have S19 := hid (S18.out.later hb19)
    have Q19 := hid (Q18.out.later hb19)
    have D19 := hid (D18.out.later hb19)
    have P19 := hid (P18.out.later hb19)
    have G19 := hid (G18.out.later hb19)
    have I19 := hid (I18.out.later hb19)
    have K19 := hid (K18.out.later hb19)
    have X719 := hid (X718.out.later hb19)
    have H19 := hid (hF)
    have U19 := hid (hA)
    clear A18 S18 Q18 D18 P18 G18 I18 K18 X718 hb19
    clear hF hA
    clear X719
    have pD0 := D19.out.c 0 rfl
    have pD1 := D19.out.c 1 rfl
    have pD2 := D19.out.c 2 rfl
    have pD3 := D19.out.c 3 rfl
    have pD4 := D19.out.c 4 rfl
    have pD5 := D19.out.c 5 rfl
    have pD6 := D19.out.c 6 rfl
    have pD7 := D19.out.c 7 rfl
    have pDz := D19.out.size
    obtain ⟨w20, hwn⟩ : ∃ V, V = w19.alloc (.cells #[.int .i64 k1, .int .i64 k2, .int .i64 k3, .int .i64 k4, .int .i64 k5, .slice roH r'.length rcH, .slice foH f'.length fcH, .bool ov'] 27) := ⟨_, rfl⟩
    have hb20 : Below w19.heap.size w19 w20 := by rw [hwn]; exact below1 _ _
    have hB20 := hB19.trans (hb20.mono hB19.size)
    have hz20 : w19.heap.size ≤ w20.heap.size := hb20.size
    have A20 := hid (A19.out.later hb20)
    have S20 := hid (S19.out.later hb20)
    have Q20 := hid (Q19.out.later hb20)
    have D20 := hid (D19.out.later hb20)
    have P20 := hid (P19.out.later hb20)
    have G20 := hid (G19.out.later hb20)
    have I20 := hid (I19.out.later hb20)
    have K20 := hid (K19.out.later hb20)
    have H20 := hid (H19.out.later hb20)
    have U20 := hid (U19.out.later hb20)
    have J20 : Hid (Bx w20 w19.heap.size [.int .i64 k1, .int .i64 k2, .int .i64 k3, .int .i64 k4, .int .i64 k5, .slice roH r'.length rcH, .slice foH f'.length fcH, .bool ov']) := by rw [hwn]; exact Bx.new [.int .i64 k1, .int .i64 k2, .int .i64 k3, .int .i64 k4, .int .i64 k5, .slice roH r'.length rcH, .slice foH f'.length fcH, .bool ov'] _ rfl
    have hy20 : w19.heap.size < w20.heap.size := J20.out.size
    have HA20 := hid hwn
    clear hwn A19 S19 Q19 D19 P19 G19 I19 K19 H19 U19 hb20
    go_wp2_with fail
    clear pD0 pD1 pD2 pD3 pD4 pD5 pD6 pD7 pDz
    rw [← HA20.out]
    refine (eqKeeper_same k1 k2 k3 k4 k5 ov' roH rcH r' foH fcH f' roS rcS foS fcS w20 hr1' hr2' H20.out.in S20.out.in).mono ?_
    rintro e w21 ⟨rfl, hb21⟩
    have hB21 := hB20.trans (hb21.mono hB20.size)
    have hz21 : w20.heap.size ≤ w21.heap.size := hb21.size
    have A21 := hid (A20.out.later hb21)
    have S21 := hid (S20.out.later hb21)
    have Q21 := hid (Q20.out.later hb21)
    have D21 := hid (D20.out.later hb21)
    have P21 := hid (P20.out.later hb21)
    have G21 := hid (G20.out.later hb21)
    have I21 := hid (I20.out.later hb21)
    have K21 := hid (K20.out.later hb21)
    have H21 := hid (H20.out.later hb21)
    have U21 := hid (U20.out.later hb21)
    have J21 := hid (J20.out.later hb21)
    clear A20 S20 Q20 D20 P20 G20 I20 K20 H20 U20 J20 hb21
    go_wp2_with fail
    refine (eqActS_same aoU aoQ acU acQ al w21 hr3' U21.out.in Q21.out.in).mono ?_
    rintro e w22 ⟨rfl, hb22⟩
    have hB22 := hB21.trans (hb22.mono hB21.size)
    have hz22 : w21.heap.size ≤ w22.heap.size := hb22.size
    have A22 := hid (A21.out.later hb22)
    have S22 := hid (S21.out.later hb22)
    have Q22 := hid (Q21.out.later hb22)
    have D22 := hid (D21.out.later hb22)
    have P22 := hid (P21.out.later hb22)
    have G22 := hid (G21.out.later hb22)
    have I22 := hid (I21.out.later hb22)
    have K22 := hid (K21.out.later hb22)
    have H22 := hid (H21.out.later hb22)
    have U22 := hid (U21.out.later hb22)
    have J22 := hid (J21.out.later hb22)
    clear A21 S21 Q21 D21 P21 G21 I21 K21 H21 U21 J21 hb22
    clear H22 S22 J22 D22 U22 Q22
    have k_0 := K22.out.c 0 rfl
    have k_1 := K22.out.c 1 rfl
    have k_2 := K22.out.c 2 rfl
    have k_3 := K22.out.c 3 rfl
    have k_4 := K22.out.c 4 rfl
    have k_5 := K22.out.c 5 rfl
    have k_6 := K22.out.c 6 rfl
    have k_7 := K22.out.c 7 rfl
    go_wp2_with fail
    clear k_0 k_1 k_2 k_3 k_4 k_5 k_6 k_7
    refine (heldKeeper_any k1 k2 k3 k4 k5 ov' roG rcG r'.length foG fcG f'.length 1 w22 hr1' hr2' (by omega) (by omega) G22.out.in).mono ?_
    rintro e w23 ⟨rfl, hb23⟩
    have hB23 := hB22.trans (hb23.mono hB22.size)
    have hz23 : w22.heap.size ≤ w23.heap.size := hb23.size
    have A23 := hid (A22.out.later hb23)
    have P23 := hid (P22.out.later hb23)
    have G23 := hid (G22.out.later hb23)
    have I23 := hid (I22.out.later hb23)
    have K23 := hid (K22.out.later hb23)
    clear A22 P22 G22 I22 K22 hb23
    go_wp2_with fail
    refine (heldActS_any aoI acI al.length (1 + (r'.length : Int) + (f'.length : Int)) w23 (by omega) (by omega) (by omega) I23.out.in).mono ?_
    rintro e wx ⟨rfl, hws⟩
    rw [hws]; clear hws wx
    go_wp2
    go_ret
    exact ⟨rfl, hB23⟩
end Go.Proofs.YtbpacibfboldcaaDoor
