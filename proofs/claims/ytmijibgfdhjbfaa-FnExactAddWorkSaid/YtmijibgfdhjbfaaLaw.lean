
/- The walk of the law: it returns true. No conditions but those written. -/
import Derived.Test.YtmijibgfdhjbfaaPi
namespace Go.Proofs.Ytmijibgfdhjbfaa
open Go.RowKit

set_option maxRecDepth 100000 in
set_option maxHeartbeats 16000000 in
theorem lawAddWork_any (s1 s2 : Int) (ao : Option Addr) (cap : Nat) (ts : List (Int × Int × Int)) (iv : Int) (w : World) (hl : ts.length ≤ 9223372036854775807) (hz : kW.In w.heap.size w ao ts) :
    Calls Try.prog 4 #[.agg #[.int .i64 s1, .int .i64 s2, .slice ao ts.length cap], .int .i64 iv] w fun e w' => e = .returned (.bool true) ∧ Below w.heap.size w w' := by
  generalize hR : addWR s1 s2 ts iv = R
  have HR : Hid (addWR s1 s2 ts iv = R) := hR
  clear hR
  obtain ⟨R1, R2, Rl, Rc⟩ := R
  go_enter Try.func4, Try.ntmps4
  go_wp2_with fail
  refine (szPool_any s1 s2 ao ts.length cap _ hl).mono ?_
  rintro e w1 ⟨⟨z, rfl, hr⟩, hb1⟩
  have A1 := hid ((Bx.new (w := w) (p := w.heap.size) [.int .i64 s1, .int .i64 s2, .slice ao ts.length cap] 24 rfl).later hb1)
  have hB1 := (below1 w (.cells #[.int .i64 s1, .int .i64 s2, .slice ao ts.length cap] 24)).trans (hb1.mono (by simp))
  have hpA : w.heap.size < w1.heap.size := A1.out.size
  clear hb1
  rcases hr with hr | ⟨hr0, k1⟩
  · go_wp2
    go_ret
    exact ⟨rfl, hB1⟩
  have hq := addWR_len (s1 := s1) (s2 := s2) (k := iv) k1
  rw [HR.out] at hq
  dsimp only at hq
  have hce0 : (Rc != Rc) = false := by simp
  have a0 := A1.out.c 0 rfl
  have a1 := A1.out.c 1 rfl
  have a2 := A1.out.c 2 rfl
  go_wp2_with fail
  refine (toPool_any s1 s2 ao cap ts _ k1 (hz.later hB1)).mono ?_
  rintro e w2 ⟨g2, rfl, hF2, hb2⟩
  have hB2 := hB1.trans (hb2.mono hB1.size)
  have Z2 := show Hid (kW.In w2.heap.size w2 (some ⟨g2, 0, none⟩) ts) from hF2.in
  clear a0 a1 a2
  have A2 := hid (A1.out.later hb2)
  clear A1
  clear hb2 hF2
  go_wp2_with fail
  refine (specAddW_any s1 s2 (some ⟨g2, 0, none⟩) ts.length ts iv w2 k1 (Nat.le_refl _) (by simp) Z2.out).mono ?_
  rintro e w3 ⟨⟨o3_0, c3_0, rfl, hF3_0⟩, hb3⟩
  rw [HR.out] at hF3_0  ⊢
  dsimp only at hF3_0 ⊢
  have hs3 := hb3.size
  have hB3 := hB2.trans (hb3.mono hB2.size)
  have A3 := hid (A2.out.later hb3)
  clear A2
  clear hb3 Z2
  have S03 := hid (hF3_0)
  clear hF3_0
  have a0 := A3.out.c 0 rfl
  have a1 := A3.out.c 1 rfl
  have a2 := A3.out.c 2 rfl
  have hA3 : w.heap.size < w3.heap.size := A3.out.size
  have hn3v0 := below1 w3 (.cells #[.int .i64 R1, .int .i64 R2, .slice o3_0 Rl.length c3_0] 29)
  have hB3v0 : Below w.heap.size w (w3.alloc (.cells #[.int .i64 R1, .int .i64 R2, .slice o3_0 Rl.length c3_0] 29)) := hB3.trans (hn3v0.mono hB3.size)
  have A3v0 := hid (A3.out.later hn3v0)
  have S03v0 := hid (S03.out.later hn3v0)
  clear A3 S03
  clear hn3v0
  have P03v0 : Hid (Bx (w3.alloc (.cells #[.int .i64 R1, .int .i64 R2, .slice o3_0 Rl.length c3_0] 29)) (w3.heap.size) [.int .i64 R1, .int .i64 R2, .slice o3_0 Rl.length c3_0]) := Bx.new [.int .i64 R1, .int .i64 R2, .slice o3_0 Rl.length c3_0] _ (by simp)
  go_wp2_with fail
  refine (toPool_any s1 s2 ao cap ts _ k1 (hz.later hB3v0)).mono ?_
  rintro e w4 ⟨g4, rfl, hF4, hb4⟩
  have hs4 := hb4.size
  simp only [World.size_alloc] at hs4 hF4
  have hB4 := hB3v0.trans (hb4.mono hB3v0.size)
  have A4 := hid (A3v0.out.later hb4)
  have S04 := hid (S03v0.out.later hb4)
  have P04 := hid (P03v0.out.later hb4)
  clear A3v0 S03v0 P03v0
  have X4 := hid (hF4)
  clear hb4 hF4
  clear a0 a1 a2
  have hn4 := below1 w4 (.cells #[.int .i64 s1, .int .i64 s2, .slice (some ⟨g4, 0, none⟩) ts.length ts.length] 29)
  have hB4' : Below w.heap.size w (w4.alloc (.cells #[.int .i64 s1, .int .i64 s2, .slice (some ⟨g4, 0, none⟩) ts.length ts.length] 29)) := hB4.trans (hn4.mono hB4.size)
  have A4' := hid (A4.out.later hn4)
  have S04' := hid (S04.out.later hn4)
  have P04' := hid (P04.out.later hn4)
  have X4' := hid (X4.out.later hn4)
  clear A4 S04 P04 X4
  have B4' : Hid (Bx (w4.alloc (.cells #[.int .i64 s1, .int .i64 s2, .slice (some ⟨g4, 0, none⟩) ts.length ts.length] 29)) w4.heap.size [.int .i64 s1, .int .i64 s2, .slice (some ⟨g4, 0, none⟩) ts.length ts.length]) := Bx.new [.int .i64 s1, .int .i64 s2, .slice (some ⟨g4, 0, none⟩) ts.length ts.length] _ rfl
  clear hn4
  go_wp2_with fail
  refine (implAddW_any s1 s2 (some ⟨g4, 0, none⟩) ts.length ts iv _ k1 X4'.out.in).mono ?_
  rintro e w5 ⟨⟨o5_0, c5_0, rfl, hF5_0⟩, hb5⟩
  rw [HR.out] at hF5_0 ⊢
  dsimp only at hF5_0 ⊢
  have hs5 := hb5.size
  simp only [World.size_alloc] at hs5 hF5_0
  have hB5 := hB4'.trans (hb5.mono hB4'.size)
  have A5 := hid (A4'.out.later hb5)
  have S05 := hid (S04'.out.later hb5)
  have P05 := hid (P04'.out.later hb5)
  have X5 := hid (X4'.out.later hb5)
  have B5 := hid (B4'.out.later hb5)
  clear A4' S04' P04' X4' B4'
  have T05 := hid (hF5_0)
  have N55 : Hid (w5.heap.size ≤ w5.heap.size) := Nat.le_refl _
  clear hb5 hF5_0
  have p0_0 := P05.out.c 0 rfl
  have p0_1 := P05.out.c 1 rfl
  have p0_2 := P05.out.c 2 rfl
  have hP5_0 := P05.out.size
  have hn5v0 := below1 w5 (.cells #[.int .i64 R1, .int .i64 R2, .slice o5_0 Rl.length c5_0] 29)
  have hB5v0 : Below w.heap.size w (w5.alloc (.cells #[.int .i64 R1, .int .i64 R2, .slice o5_0 Rl.length c5_0] 29)) := hB5.trans (hn5v0.mono hB5.size)
  have A5v0 := hid (A5.out.later hn5v0)
  have S05v0 := hid (S05.out.later hn5v0)
  have P05v0 := hid (P05.out.later hn5v0)
  have X5v0 := hid (X5.out.later hn5v0)
  have B5v0 := hid (B5.out.later hn5v0)
  have T05v0 := hid (T05.out.later hn5v0)
  have N55v0 := hid (Nat.le_trans N55.out hn5v0.size)
  clear A5 S05 P05 X5 B5 T05 N55
  clear hn5v0
  have G05v0 : Hid (Bx (w5.alloc (.cells #[.int .i64 R1, .int .i64 R2, .slice o5_0 Rl.length c5_0] 29)) (w5.heap.size) [.int .i64 R1, .int .i64 R2, .slice o5_0 Rl.length c5_0]) := Bx.new [.int .i64 R1, .int .i64 R2, .slice o5_0 Rl.length c5_0] _ (by simp)
  go_wp2_with fail
  refine (eqPool_same R1 R2 o5_0 o3_0 c5_0 c3_0 Rl _ hq T05v0.out.in S05v0.out.in).mono ?_
  rintro e w6a ⟨rfl, hb6a⟩
  have hB6a := hB5v0.trans (hb6a.mono hB5v0.size)
  clear p0_0 p0_1 p0_2 hP5_0
  have A6a := hid (A5v0.out.later hb6a)
  have S06a := hid (S05v0.out.later hb6a)
  have P06a := hid (P05v0.out.later hb6a)
  have X6a := hid (X5v0.out.later hb6a)
  have B6a := hid (B5v0.out.later hb6a)
  have T06a := hid (T05v0.out.later hb6a)
  have N56a := hid (Nat.le_trans N55v0.out hb6a.size)
  have G06a := hid (G05v0.out.later hb6a)
  clear A5v0 S05v0 P05v0 X5v0 B5v0 T05v0 N55v0 G05v0
  clear hb6a
  have a0 := A6a.out.c 0 rfl
  have a1 := A6a.out.c 1 rfl
  have a2 := A6a.out.c 2 rfl
  have x0 := B6a.out.c 0 rfl
  have x1 := B6a.out.c 1 rfl
  have x2 := B6a.out.c 2 rfl
  go_wp2
  go_region_with (first
    | (go_at_call 9; refine (toPool_any s1 s2 ao cap ts _ k1 (by exact hz.later hB6a.drew)).mono ?_; rintro e w7 ⟨g7, rfl, hF7, hb7⟩; have hb67 : Below w6a.heap.size w6a w7 := (Below.refl w6a.heap.size w6a).drew.trans hb7; have B7 : Bx w7 w4.heap.size [.int .i64 s1, .int .i64 s2, .slice (some ⟨g4, 0, none⟩) ts.length ts.length] := B6a.out.later hb67; have y0 := B7.c 0 rfl; have y1 := B7.c 1 rfl; have y2 := B7.c 2 rfl; have F7 : Hid (kW.In w7.heap.size w7 (some ⟨g4, 0, none⟩) ts ∧ kW.In w7.heap.size w7 (some ⟨g7, 0, none⟩) ts) := ⟨(X6a.out.later hb67).in, hF7.in⟩; clear hb7 hF7)
    | (go_at_call 11; refine (eqPool_same s1 s2 (some ⟨g4, 0, none⟩) (some ⟨g7, 0, none⟩) ts.length ts.length ts _ k1 (by exact F7.out.1) (by exact F7.out.2)).mono ?_; rintro e w8 ⟨rfl, hb8⟩; have hb68 : Below w6a.heap.size w6a w8 := hb67.trans (hb8.mono hb67.size); clear hb8))
  all_goals
    have hB8 := hB6a.trans (hb68.mono hB6a.size)
    have A8 := hid (A6a.out.later hb68)
    have S08 := hid (S06a.out.later hb68)
    have P08 := hid (P06a.out.later hb68)
    have X8 := hid (X6a.out.later hb68)
    have B8 := hid (B6a.out.later hb68)
    have T08 := hid (T06a.out.later hb68)
    have N58 := hid (Nat.le_trans N56a.out hb68.size)
    have G08 := hid (G06a.out.later hb68)
    clear A6a S06a P06a X6a B6a T06a N56a G06a
    clear F7 B7 hb67 hb68 a0 x0 y0 a1 x1 y1 a2 x2 y2
    have x0 := B8.out.c 0 rfl
    have x1 := B8.out.c 1 rfl
    have x2 := B8.out.c 2 rfl
    go_wp2_with fail
    refine (markPool_any (w3.heap.size + 1) w4.heap.size s1 s2 (some ⟨g4, 0, none⟩) ts.length ts 1 w8 (by omega) (by omega) (by omega) X8.out).mono ?_
    rintro e w9 ⟨rfl, _, _, hb9⟩
    clear X8
    have hlow : (w3.heap.size + 1) ≤ w8.heap.size := by have := N58.out; omega
    have hB9 := hB8.trans ((hb9.below hlow).mono (by omega))
    have A9 := hid (A8.out.between hb9 (.inl (by omega)))
    have S09 := hid (S08.out.between' hb9 (by omega))
    have P09 := hid (P08.out.between hb9 (.inl (by omega)))
    have B9 := hid (B8.out.between hb9 (.inr (by omega)))
    have T09 := hid (T08.out.between' hb9 (by omega))
    have N59 := hid (Nat.le_trans N58.out hb9.size)
    have G09 := hid (G08.out.between hb9 (.inr (by omega)))
    clear A8 S08 P08 B8 T08 N58 G08
    clear hb9 hlow
    have hk0 : decide ((1 : Int) + 3 * (ts.length : Int) < 0) = false := by simp; omega
    clear x0 x1 x2
    have p0_0 := P09.out.c 0 rfl
    have p0_1 := P09.out.c 1 rfl
    have p0_2 := P09.out.c 2 rfl
    have g0_0 := G09.out.c 0 rfl
    have g0_1 := G09.out.c 1 rfl
    have g0_2 := G09.out.c 2 rfl
    go_wp2_with fail
    refine (eqPool_same R1 R2 o5_0 o3_0 c5_0 c3_0 Rl _ hq T09.out.in S09.out.in).mono ?_
    rintro e w10a ⟨rfl, hb10a⟩
    have hB10a := hB9.trans (hb10a.mono hB9.size)
    clear p0_0 g0_0 p0_1 g0_1 p0_2 g0_2
    have A10a := hid (A9.out.later hb10a)
    have S010a := hid (S09.out.later hb10a)
    have P010a := hid (P09.out.later hb10a)
    have B10a := hid (B9.out.later hb10a)
    have T010a := hid (T09.out.later hb10a)
    have N510a := hid (Nat.le_trans N59.out hb10a.size)
    have G010a := hid (G09.out.later hb10a)
    clear A9 S09 P09 B9 T09 N59 G09
    clear hb10a
    have g0_0 := G010a.out.c 0 rfl
    have g0_1 := G010a.out.c 1 rfl
    have g0_2 := G010a.out.c 2 rfl
    go_wp2_with fail
    refine (markPool_any (w4.heap.size + 1) w5.heap.size R1 R2 o5_0 c5_0 Rl (1) _ (by omega) (by omega) (by omega) T010a.out).mono ?_
    rintro e w11a ⟨rfl, hT11a, ⟨wz, hbz, hOz⟩, hb11a⟩
    have hlow11a : (w4.heap.size + 1) ≤ w10a.heap.size := by have := N510a.out; omega
    have hB11a := hB10a.trans ((hb11a.below hlow11a).mono (by omega))
    have A11a := hid (A10a.out.between hb11a (.inl (by omega)))
    have S011a := hid (S010a.out.between' hb11a (by omega))
    have P011a := hid (P010a.out.between hb11a (.inl (by omega)))
    have B11a := hid (B10a.out.between hb11a (.inl (by omega)))
    have N511a := hid (Nat.le_trans N510a.out hb11a.size)
    have G011a := hid (G010a.out.between hb11a (.inr (by omega)))
    have T011a := hid (hT11a)
    clear A10a S010a P010a B10a T010a N510a G010a hT11a hb11a hOz hlow11a hbz
    clear g0_0 g0_1 g0_2
    have hmq : (1 + 3 * (Rl.length : Int) != 1 + 3 * (Rl.length : Int)) = false := by simp
    have g0_0 := G011a.out.c 0 rfl
    have g0_1 := G011a.out.c 1 rfl
    have g0_2 := G011a.out.c 2 rfl
    go_wp2_with fail
    refine (heldPool_any R1 R2 o5_0 c5_0 Rl.length (1) _ (by omega) (by omega) (by omega) T011a.out.in).mono ?_
    rintro e w12a ⟨rfl, hb12a⟩
    clear g0_0 g0_1 g0_2
    have hB12a := hB11a.trans (hb12a.mono hB11a.size)
    have A12a := hid (A11a.out.later hb12a)
    have S012a := hid (S011a.out.later hb12a)
    have P012a := hid (P011a.out.later hb12a)
    have B12a := hid (B11a.out.later hb12a)
    have T012a := hid (T011a.out.later hb12a)
    have N512a := hid (Nat.le_trans N511a.out hb12a.size)
    have G012a := hid (G011a.out.later hb12a)
    clear A11a S011a P011a B11a T011a N511a G011a
    clear hb12a
    have hm0 : decide (1 + 3 * (Rl.length : Int) < 0) = false := by simp; omega
    have a0 := A12a.out.c 0 rfl
    have a1 := A12a.out.c 1 rfl
    have a2 := A12a.out.c 2 rfl
    go_wp2_with fail
    refine (toPool_any s1 s2 ao cap ts _ k1 (hz.later hB12a)).mono ?_
    rintro e w13 ⟨g13, rfl, hF13, hb13⟩
    have hB13 := hB12a.trans (hb13.mono hB12a.size)
    have A13 := hid (A12a.out.later hb13)
    have S013 := hid (S012a.out.later hb13)
    have P013 := hid (P012a.out.later hb13)
    have B13 := hid (B12a.out.later hb13)
    have T013 := hid (T012a.out.later hb13)
    have N513 := hid (Nat.le_trans N512a.out hb13.size)
    have G013 := hid (G012a.out.later hb13)
    clear A12a S012a P012a B12a T012a N512a G012a
    clear a0 a1 a2
    clear A13
    clear B13
    have Z13 := show Hid (kW.In w13.heap.size w13 (some ⟨g13, 0, none⟩) ts) from hF13.in
    clear hb13 hF13
    go_wp2_with fail
    refine (implAddW_any s1 s2 (some ⟨g13, 0, none⟩) ts.length ts iv w13 k1 Z13.out).mono ?_
    rintro e w14 ⟨⟨o14_0, c14_0, rfl, hF14_0⟩, hb14⟩
    rw [HR.out] at hF14_0 ⊢
    dsimp only at hF14_0 ⊢
    have hB14 := hB13.trans (hb14.mono hB13.size)
    have S014 := hid (S013.out.later hb14)
    have P014 := hid (P013.out.later hb14)
    have T014 := hid (T013.out.later hb14)
    have N514 := hid (Nat.le_trans N513.out hb14.size)
    have G014 := hid (G013.out.later hb14)
    clear S013 P013 T013 N513 G013
    have U014 := hid (hF14_0)
    clear Z13 hb14 hF14_0
    have p0_0 := P014.out.c 0 rfl
    have p0_1 := P014.out.c 1 rfl
    have p0_2 := P014.out.c 2 rfl
    have hP14_0 := P014.out.size
    have hn14v0 := below1 w14 (.cells #[.int .i64 R1, .int .i64 R2, .slice o14_0 Rl.length c14_0] 29)
    have hB14v0 : Below w.heap.size w (w14.alloc (.cells #[.int .i64 R1, .int .i64 R2, .slice o14_0 Rl.length c14_0] 29)) := hB14.trans (hn14v0.mono hB14.size)
    have S014v0 := hid (S014.out.later hn14v0)
    have P014v0 := hid (P014.out.later hn14v0)
    have T014v0 := hid (T014.out.later hn14v0)
    have N514v0 := hid (Nat.le_trans N514.out hn14v0.size)
    have G014v0 := hid (G014.out.later hn14v0)
    have U014v0 := hid (U014.out.later hn14v0)
    clear S014 P014 T014 N514 G014 U014
    clear hn14v0
    have Q014v0 : Hid (Bx (w14.alloc (.cells #[.int .i64 R1, .int .i64 R2, .slice o14_0 Rl.length c14_0] 29)) (w14.heap.size) [.int .i64 R1, .int .i64 R2, .slice o14_0 Rl.length c14_0]) := Bx.new [.int .i64 R1, .int .i64 R2, .slice o14_0 Rl.length c14_0] _ (by simp)
    go_wp2_with fail
    refine (eqPool_same R1 R2 o14_0 o3_0 c14_0 c3_0 Rl _ hq U014v0.out.in S014v0.out.in).mono ?_
    rintro e w15a ⟨rfl, hb15a⟩
    have hB15a := hB14v0.trans (hb15a.mono hB14v0.size)
    clear p0_0 p0_1 p0_2 hP14_0
    have S015a := hid (S014v0.out.later hb15a)
    have P015a := hid (P014v0.out.later hb15a)
    have T015a := hid (T014v0.out.later hb15a)
    have N515a := hid (Nat.le_trans N514v0.out hb15a.size)
    have G015a := hid (G014v0.out.later hb15a)
    have U015a := hid (U014v0.out.later hb15a)
    have Q015a := hid (Q014v0.out.later hb15a)
    clear S014v0 P014v0 T014v0 N514v0 G014v0 U014v0 Q014v0
    clear hb15a
    clear S015a P015a U015a Q015a
    have g0_0 := G015a.out.c 0 rfl
    have g0_1 := G015a.out.c 1 rfl
    have g0_2 := G015a.out.c 2 rfl
    go_wp2_with fail
    refine (heldPool_any R1 R2 o5_0 c5_0 Rl.length (1) _ (by omega) (by omega) (by omega) T015a.out.in).mono ?_
    rintro e w16a ⟨rfl, hb16a⟩
    clear g0_0 g0_1 g0_2
    have hB16a := hB15a.trans (hb16a.mono hB15a.size)
    have T016a := hid (T015a.out.later hb16a)
    have N516a := hid (Nat.le_trans N515a.out hb16a.size)
    have G016a := hid (G015a.out.later hb16a)
    clear T015a N515a G015a
    clear hb16a
    go_wp2
    go_ret
    exact ⟨rfl, hB16a⟩
end Go.Proofs.Ytmijibgfdhjbfaa
