/- The walk of the law: it returns true. No conditions but those written. -/
import Derived.Test.YtcdkdigafcfgmaaMi
namespace Go.Proofs.Ytcdkdigafcfgmaa
open Go.RowKit

set_option maxRecDepth 100000 in
set_option maxHeartbeats 16000000 in
theorem lawLeaveR_any (s1 s2 : Int) (ao : Option Addr) (cap : Nat) (ts : List (Int × Int)) (iv : Int) (w : World) (hl : ts.length ≤ 9223372036854775807) (hz : kN.In w.heap.size w ao ts) :
    Calls Try.prog 9 #[.agg #[.int .i64 s1, .int .i64 s2, .slice ao ts.length cap], .int .i64 iv] w fun e w' => e = .returned (.bool true) ∧ Below w.heap.size w w' := by
  generalize hR : leaveR s1 s2 ts iv = R
  have HR : Hid (leaveR s1 s2 ts iv = R) := hR
  clear hR
  obtain ⟨R1, R2, Rl, Rw, Rc⟩ := R
  go_enter Try.func9, Try.ntmps9
  go_wp2_with fail
  refine (szRoom_any s1 s2 ao ts.length cap _ hl).mono ?_
  rintro e w1 ⟨⟨z, rfl, hr⟩, hb1⟩
  have A1 := hid ((Bx.new (w := w) (p := w.heap.size) [.int .i64 s1, .int .i64 s2, .slice ao ts.length cap] 41 rfl).later hb1)
  have hB1 := (below1 w (.cells #[.int .i64 s1, .int .i64 s2, .slice ao ts.length cap] 41)).trans (hb1.mono (by simp))
  have hpA : w.heap.size < w1.heap.size := A1.out.size
  clear hb1
  rcases hr with hr | ⟨hr0, k1⟩
  · go_wp2
    go_ret
    exact ⟨rfl, hB1⟩
  have hq := leaveR_len (s1 := s1) (s2 := s2) (t := iv) k1
  rw [HR.out] at hq
  dsimp only at hq
  have hce0 : (Rc != Rc) = false := by simp
  have a0 := A1.out.c 0 rfl
  have a1 := A1.out.c 1 rfl
  have a2 := A1.out.c 2 rfl
  go_wp2_with fail
  refine (toRoom_any s1 s2 ao cap ts _ k1 (hz.later hB1)).mono ?_
  rintro e w2 ⟨g2, rfl, hF2, hb2⟩
  have hB2 := hB1.trans (hb2.mono hB1.size)
  have Z2 := show Hid (kN.In w2.heap.size w2 (some ⟨g2, 0, none⟩) ts) from hF2.in
  clear a0 a1 a2
  have A2 := hid (A1.out.later hb2)
  clear A1
  clear hb2 hF2
  go_wp2_with fail
  refine (specLeaveR_any s1 s2 (some ⟨g2, 0, none⟩) ts.length ts iv w2 k1 (by simp) Z2.out).mono ?_
  rintro e w3 ⟨⟨o3_0, c3_0, o3_1, c3_1, rfl, hF3_0, hF3_1⟩, hb3⟩
  rw [HR.out] at hF3_0 hF3_1  ⊢
  dsimp only at hF3_0 hF3_1 ⊢
  have hs3 := hb3.size
  have hB3 := hB2.trans (hb3.mono hB2.size)
  have A3 := hid (A2.out.later hb3)
  clear A2
  clear hb3 Z2
  have S03 := hid (hF3_0)
  have S13 := hid (hF3_1)
  clear hF3_0 hF3_1
  have a0 := A3.out.c 0 rfl
  have a1 := A3.out.c 1 rfl
  have a2 := A3.out.c 2 rfl
  have hA3 : w.heap.size < w3.heap.size := A3.out.size
  have hn3v0 := below1 w3 (.cells #[.int .i64 R1, .int .i64 R2, .slice o3_0 Rl.length c3_0] 46)
  have hB3v0 : Below w.heap.size w (w3.alloc (.cells #[.int .i64 R1, .int .i64 R2, .slice o3_0 Rl.length c3_0] 46)) := hB3.trans (hn3v0.mono hB3.size)
  have A3v0 := hid (A3.out.later hn3v0)
  have S03v0 := hid (S03.out.later hn3v0)
  have S13v0 := hid (S13.out.later hn3v0)
  clear A3 S03 S13
  clear hn3v0
  have P03v0 : Hid (Bx (w3.alloc (.cells #[.int .i64 R1, .int .i64 R2, .slice o3_0 Rl.length c3_0] 46)) (w3.heap.size) [.int .i64 R1, .int .i64 R2, .slice o3_0 Rl.length c3_0]) := Bx.new [.int .i64 R1, .int .i64 R2, .slice o3_0 Rl.length c3_0] _ (by simp)
  go_wp2_with fail
  refine (toRoom_any s1 s2 ao cap ts _ k1 (hz.later hB3v0)).mono ?_
  rintro e w4 ⟨g4, rfl, hF4, hb4⟩
  have hs4 := hb4.size
  simp only [World.size_alloc] at hs4 hF4
  have hB4 := hB3v0.trans (hb4.mono hB3v0.size)
  have A4 := hid (A3v0.out.later hb4)
  have S04 := hid (S03v0.out.later hb4)
  have S14 := hid (S13v0.out.later hb4)
  have P04 := hid (P03v0.out.later hb4)
  clear A3v0 S03v0 S13v0 P03v0
  have X4 := hid (hF4)
  clear hb4 hF4
  clear a0 a1 a2
  have hn4 := below1 w4 (.cells #[.int .i64 s1, .int .i64 s2, .slice (some ⟨g4, 0, none⟩) ts.length ts.length] 46)
  have hB4' : Below w.heap.size w (w4.alloc (.cells #[.int .i64 s1, .int .i64 s2, .slice (some ⟨g4, 0, none⟩) ts.length ts.length] 46)) := hB4.trans (hn4.mono hB4.size)
  have A4' := hid (A4.out.later hn4)
  have S04' := hid (S04.out.later hn4)
  have S14' := hid (S14.out.later hn4)
  have P04' := hid (P04.out.later hn4)
  have X4' := hid (X4.out.later hn4)
  clear A4 S04 S14 P04 X4
  have B4' : Hid (Bx (w4.alloc (.cells #[.int .i64 s1, .int .i64 s2, .slice (some ⟨g4, 0, none⟩) ts.length ts.length] 46)) w4.heap.size [.int .i64 s1, .int .i64 s2, .slice (some ⟨g4, 0, none⟩) ts.length ts.length]) := Bx.new [.int .i64 s1, .int .i64 s2, .slice (some ⟨g4, 0, none⟩) ts.length ts.length] _ rfl
  clear hn4
  go_wp2_with fail
  refine (implLeaveR_any s1 s2 (some ⟨g4, 0, none⟩) ts.length ts iv _ k1 X4'.out.in).mono ?_
  rintro e w5 ⟨⟨o5_0, c5_0, o5_1, c5_1, rfl, hF5_0, hF5_1⟩, hb5⟩
  rw [HR.out] at hF5_0 hF5_1 ⊢
  dsimp only at hF5_0 hF5_1 ⊢
  have hs5 := hb5.size
  simp only [World.size_alloc] at hs5 hF5_0 hF5_1
  have hB5 := hB4'.trans (hb5.mono hB4'.size)
  have A5 := hid (A4'.out.later hb5)
  have S05 := hid (S04'.out.later hb5)
  have S15 := hid (S14'.out.later hb5)
  have P05 := hid (P04'.out.later hb5)
  have X5 := hid (X4'.out.later hb5)
  have B5 := hid (B4'.out.later hb5)
  clear A4' S04' S14' P04' X4' B4'
  have T05 := hid (hF5_0)
  have T15 := hid (hF5_1)
  have N55 : Hid (w5.heap.size ≤ w5.heap.size) := Nat.le_refl _
  clear hb5 hF5_0 hF5_1
  have p0_0 := P05.out.c 0 rfl
  have p0_1 := P05.out.c 1 rfl
  have p0_2 := P05.out.c 2 rfl
  have hP5_0 := P05.out.size
  have hn5v0 := below1 w5 (.cells #[.int .i64 R1, .int .i64 R2, .slice o5_0 Rl.length c5_0] 46)
  have hB5v0 : Below w.heap.size w (w5.alloc (.cells #[.int .i64 R1, .int .i64 R2, .slice o5_0 Rl.length c5_0] 46)) := hB5.trans (hn5v0.mono hB5.size)
  have A5v0 := hid (A5.out.later hn5v0)
  have S05v0 := hid (S05.out.later hn5v0)
  have S15v0 := hid (S15.out.later hn5v0)
  have P05v0 := hid (P05.out.later hn5v0)
  have X5v0 := hid (X5.out.later hn5v0)
  have B5v0 := hid (B5.out.later hn5v0)
  have T05v0 := hid (T05.out.later hn5v0)
  have T15v0 := hid (T15.out.later hn5v0)
  have N55v0 := hid (Nat.le_trans N55.out hn5v0.size)
  clear A5 S05 S15 P05 X5 B5 T05 T15 N55
  clear hn5v0
  have G05v0 : Hid (Bx (w5.alloc (.cells #[.int .i64 R1, .int .i64 R2, .slice o5_0 Rl.length c5_0] 46)) (w5.heap.size) [.int .i64 R1, .int .i64 R2, .slice o5_0 Rl.length c5_0]) := Bx.new [.int .i64 R1, .int .i64 R2, .slice o5_0 Rl.length c5_0] _ (by simp)
  go_wp2_with fail
  refine (eqRoom_same R1 R2 o5_0 o3_0 c5_0 c3_0 Rl _ hq.1 T05v0.out.in S05v0.out.in).mono ?_
  rintro e w6a ⟨rfl, hb6a⟩
  have hB6a := hB5v0.trans (hb6a.mono hB5v0.size)
  clear p0_0 p0_1 p0_2 hP5_0
  have A6a := hid (A5v0.out.later hb6a)
  have S06a := hid (S05v0.out.later hb6a)
  have S16a := hid (S15v0.out.later hb6a)
  have P06a := hid (P05v0.out.later hb6a)
  have X6a := hid (X5v0.out.later hb6a)
  have B6a := hid (B5v0.out.later hb6a)
  have T06a := hid (T05v0.out.later hb6a)
  have T16a := hid (T15v0.out.later hb6a)
  have N56a := hid (Nat.le_trans N55v0.out hb6a.size)
  have G06a := hid (G05v0.out.later hb6a)
  clear A5v0 S05v0 S15v0 P05v0 X5v0 B5v0 T05v0 T15v0 N55v0 G05v0
  clear hb6a
  go_wp2_with fail
  refine (eqIntS_same o5_1 o3_1 c5_1 c3_1 Rw _ hq.2 T16a.out.in S16a.out.in).mono ?_
  rintro e w6b ⟨rfl, hb6b⟩
  have hB6b := hB6a.trans (hb6b.mono hB6a.size)
  have A6b := hid (A6a.out.later hb6b)
  have S06b := hid (S06a.out.later hb6b)
  have S16b := hid (S16a.out.later hb6b)
  have P06b := hid (P06a.out.later hb6b)
  have X6b := hid (X6a.out.later hb6b)
  have B6b := hid (B6a.out.later hb6b)
  have T06b := hid (T06a.out.later hb6b)
  have T16b := hid (T16a.out.later hb6b)
  have N56b := hid (Nat.le_trans N56a.out hb6b.size)
  have G06b := hid (G06a.out.later hb6b)
  clear A6a S06a S16a P06a X6a B6a T06a T16a N56a G06a
  clear hb6b
  have a0 := A6b.out.c 0 rfl
  have a1 := A6b.out.c 1 rfl
  have a2 := A6b.out.c 2 rfl
  have x0 := B6b.out.c 0 rfl
  have x1 := B6b.out.c 1 rfl
  have x2 := B6b.out.c 2 rfl
  go_wp2
  go_region_with (first
    | (go_at_call 30; refine (toRoom_any s1 s2 ao cap ts _ k1 (by exact hz.later hB6b.drew)).mono ?_; rintro e w7 ⟨g7, rfl, hF7, hb7⟩; have hb67 : Below w6b.heap.size w6b w7 := (Below.refl w6b.heap.size w6b).drew.trans hb7; have B7 : Bx w7 w4.heap.size [.int .i64 s1, .int .i64 s2, .slice (some ⟨g4, 0, none⟩) ts.length ts.length] := B6b.out.later hb67; have y0 := B7.c 0 rfl; have y1 := B7.c 1 rfl; have y2 := B7.c 2 rfl; have F7 : Hid (kN.In w7.heap.size w7 (some ⟨g4, 0, none⟩) ts ∧ kN.In w7.heap.size w7 (some ⟨g7, 0, none⟩) ts) := ⟨(X6b.out.later hb67).in, hF7.in⟩; clear hb7 hF7)
    | (go_at_call 32; refine (eqRoom_same s1 s2 (some ⟨g4, 0, none⟩) (some ⟨g7, 0, none⟩) ts.length ts.length ts _ k1 (by exact F7.out.1) (by exact F7.out.2)).mono ?_; rintro e w8 ⟨rfl, hb8⟩; have hb68 : Below w6b.heap.size w6b w8 := hb67.trans (hb8.mono hb67.size); clear hb8))
  all_goals
    have hB8 := hB6b.trans (hb68.mono hB6b.size)
    have A8 := hid (A6b.out.later hb68)
    have S08 := hid (S06b.out.later hb68)
    have S18 := hid (S16b.out.later hb68)
    have P08 := hid (P06b.out.later hb68)
    have X8 := hid (X6b.out.later hb68)
    have B8 := hid (B6b.out.later hb68)
    have T08 := hid (T06b.out.later hb68)
    have T18 := hid (T16b.out.later hb68)
    have N58 := hid (Nat.le_trans N56b.out hb68.size)
    have G08 := hid (G06b.out.later hb68)
    clear A6b S06b S16b P06b X6b B6b T06b T16b N56b G06b
    clear F7 B7 hb67 hb68 a0 x0 y0 a1 x1 y1 a2 x2 y2
    have x0 := B8.out.c 0 rfl
    have x1 := B8.out.c 1 rfl
    have x2 := B8.out.c 2 rfl
    go_wp2_with fail
    refine (markRoom_any (w3.heap.size + 1) w4.heap.size s1 s2 (some ⟨g4, 0, none⟩) ts.length ts 1 w8 (by omega) (by omega) (by omega) X8.out).mono ?_
    rintro e w9 ⟨rfl, _, _, hb9⟩
    clear X8
    have hlow : (w3.heap.size + 1) ≤ w8.heap.size := by have := N58.out; omega
    have hB9 := hB8.trans ((hb9.below hlow).mono (by omega))
    have A9 := hid (A8.out.between hb9 (.inl (by omega)))
    have S09 := hid (S08.out.between' hb9 (by omega))
    have S19 := hid (S18.out.between' hb9 (by omega))
    have P09 := hid (P08.out.between hb9 (.inl (by omega)))
    have B9 := hid (B8.out.between hb9 (.inr (by omega)))
    have T09 := hid (T08.out.between' hb9 (by omega))
    have T19 := hid (T18.out.between' hb9 (by omega))
    have N59 := hid (Nat.le_trans N58.out hb9.size)
    have G09 := hid (G08.out.between hb9 (.inr (by omega)))
    clear A8 S08 S18 P08 B8 T08 T18 N58 G08
    clear hb9 hlow
    have hk0 : decide ((1 : Int) + 2 * (ts.length : Int) < 0) = false := by simp; omega
    clear x0 x1 x2
    have p0_0 := P09.out.c 0 rfl
    have p0_1 := P09.out.c 1 rfl
    have p0_2 := P09.out.c 2 rfl
    have g0_0 := G09.out.c 0 rfl
    have g0_1 := G09.out.c 1 rfl
    have g0_2 := G09.out.c 2 rfl
    go_wp2_with fail
    refine (eqRoom_same R1 R2 o5_0 o3_0 c5_0 c3_0 Rl _ hq.1 T09.out.in S09.out.in).mono ?_
    rintro e w10a ⟨rfl, hb10a⟩
    have hB10a := hB9.trans (hb10a.mono hB9.size)
    clear p0_0 g0_0 p0_1 g0_1 p0_2 g0_2
    have A10a := hid (A9.out.later hb10a)
    have S010a := hid (S09.out.later hb10a)
    have S110a := hid (S19.out.later hb10a)
    have P010a := hid (P09.out.later hb10a)
    have B10a := hid (B9.out.later hb10a)
    have T010a := hid (T09.out.later hb10a)
    have T110a := hid (T19.out.later hb10a)
    have N510a := hid (Nat.le_trans N59.out hb10a.size)
    have G010a := hid (G09.out.later hb10a)
    clear A9 S09 S19 P09 B9 T09 T19 N59 G09
    clear hb10a
    go_wp2_with fail
    refine (eqIntS_same o5_1 o3_1 c5_1 c3_1 Rw _ hq.2 T110a.out.in S110a.out.in).mono ?_
    rintro e w10b ⟨rfl, hb10b⟩
    have hB10b := hB10a.trans (hb10b.mono hB10a.size)
    have A10b := hid (A10a.out.later hb10b)
    have S010b := hid (S010a.out.later hb10b)
    have S110b := hid (S110a.out.later hb10b)
    have P010b := hid (P010a.out.later hb10b)
    have B10b := hid (B10a.out.later hb10b)
    have T010b := hid (T010a.out.later hb10b)
    have T110b := hid (T110a.out.later hb10b)
    have N510b := hid (Nat.le_trans N510a.out hb10b.size)
    have G010b := hid (G010a.out.later hb10b)
    clear A10a S010a S110a P010a B10a T010a T110a N510a G010a
    clear hb10b
    have g0_0 := G010b.out.c 0 rfl
    have g0_1 := G010b.out.c 1 rfl
    have g0_2 := G010b.out.c 2 rfl
    go_wp2_with fail
    refine (markRoom_any (w4.heap.size + 1) w5.heap.size R1 R2 o5_0 c5_0 Rl (1) _ (by omega) (by omega) (by omega) T010b.out).mono ?_
    rintro e w11a ⟨rfl, hT11a, ⟨wz, hbz, hOz⟩, hb11a⟩
    have hlow11a : (w4.heap.size + 1) ≤ w10b.heap.size := by have := N510b.out; omega
    have hB11a := hB10b.trans ((hb11a.below hlow11a).mono (by omega))
    have A11a := hid (A10b.out.between hb11a (.inl (by omega)))
    have S011a := hid (S010b.out.between' hb11a (by omega))
    have S111a := hid (S110b.out.between' hb11a (by omega))
    have P011a := hid (P010b.out.between hb11a (.inl (by omega)))
    have B11a := hid (B10b.out.between hb11a (.inl (by omega)))
    have N511a := hid (Nat.le_trans N510b.out hb11a.size)
    have G011a := hid (G010b.out.between hb11a (.inr (by omega)))
    have T011a := hid (hT11a)
    have T111a := hid ((T110b.out.later hbz).off (T110b.out.rowAt.off T010b.out.rowAt (by decide)) hOz)
    clear A10b S010b S110b P010b B10b T010b T110b N510b G010b hT11a hb11a hOz hlow11a hbz
    clear g0_0 g0_1 g0_2
    go_wp2_with fail
    refine (markIntS_any (w4.heap.size + 1) w5.heap.size o5_1 c5_1 Rw (1 + 2 * (Rl.length : Int)) _ (by omega) (by omega) (by omega) T111a.out).mono ?_
    rintro e w11b ⟨rfl, hT11b, hOz⟩
    have hb11b : Between (w4.heap.size + 1) w5.heap.size w11a w11b := T111a.out.between hOz
    have hlow11b : (w4.heap.size + 1) ≤ w11a.heap.size := by have := N511a.out; omega
    have hB11b := hB11a.trans ((hb11b.below hlow11b).mono (by omega))
    have A11b := hid (A11a.out.between hb11b (.inl (by omega)))
    have S011b := hid (S011a.out.between' hb11b (by omega))
    have S111b := hid (S111a.out.between' hb11b (by omega))
    have P011b := hid (P011a.out.between hb11b (.inl (by omega)))
    have B11b := hid (B11a.out.between hb11b (.inl (by omega)))
    have N511b := hid (Nat.le_trans N511a.out hb11b.size)
    have G011b := hid (G011a.out.between hb11b (.inr (by omega)))
    have T011b := hid (T011a.out.off (T011a.out.rowAt.off T111a.out.rowAt (by decide)) hOz)
    have T111b := hid (hT11b)
    clear A11a S011a S111a P011a B11a T011a T111a N511a G011a hT11b hb11b hOz hlow11b
    have hmq : (1 + 2 * (Rl.length : Int) + (Rw.length : Int) != 1 + 2 * (Rl.length : Int) + (Rw.length : Int)) = false := by simp
    have g0_0 := G011b.out.c 0 rfl
    have g0_1 := G011b.out.c 1 rfl
    have g0_2 := G011b.out.c 2 rfl
    go_wp2_with fail
    refine (heldRoom_any R1 R2 o5_0 c5_0 Rl.length (1) _ (by omega) (by omega) (by omega) T011b.out.in).mono ?_
    rintro e w12a ⟨rfl, hb12a⟩
    clear g0_0 g0_1 g0_2
    have hB12a := hB11b.trans (hb12a.mono hB11b.size)
    have A12a := hid (A11b.out.later hb12a)
    have S012a := hid (S011b.out.later hb12a)
    have S112a := hid (S111b.out.later hb12a)
    have P012a := hid (P011b.out.later hb12a)
    have B12a := hid (B11b.out.later hb12a)
    have T012a := hid (T011b.out.later hb12a)
    have T112a := hid (T111b.out.later hb12a)
    have N512a := hid (Nat.le_trans N511b.out hb12a.size)
    have G012a := hid (G011b.out.later hb12a)
    clear A11b S011b S111b P011b B11b T011b T111b N511b G011b
    clear hb12a
    have hm0 : decide (1 + 2 * (Rl.length : Int) < 0) = false := by simp; omega
    go_wp2_with fail
    refine (heldIntS_any o5_1 c5_1 Rw.length (1 + 2 * (Rl.length : Int)) _ (by omega) (by omega) (by omega) T112a.out.in).mono ?_
    rintro e w12b ⟨rfl, hw12b⟩
    have hb12b : Below w12a.heap.size w12a w12b := by rw [hw12b]; exact Below.refl _ _
    clear hw12b
    have hB12b := hB12a.trans (hb12b.mono hB12a.size)
    have A12b := hid (A12a.out.later hb12b)
    have S012b := hid (S012a.out.later hb12b)
    have S112b := hid (S112a.out.later hb12b)
    have P012b := hid (P012a.out.later hb12b)
    have B12b := hid (B12a.out.later hb12b)
    have T012b := hid (T012a.out.later hb12b)
    have T112b := hid (T112a.out.later hb12b)
    have N512b := hid (Nat.le_trans N512a.out hb12b.size)
    have G012b := hid (G012a.out.later hb12b)
    clear A12a S012a S112a P012a B12a T012a T112a N512a G012a
    clear hb12b
    have hm1 : decide (1 + 2 * (Rl.length : Int) + (Rw.length : Int) < 0) = false := by simp; omega
    have a0 := A12b.out.c 0 rfl
    have a1 := A12b.out.c 1 rfl
    have a2 := A12b.out.c 2 rfl
    go_wp2_with fail
    refine (toRoom_any s1 s2 ao cap ts _ k1 (hz.later hB12b)).mono ?_
    rintro e w13 ⟨g13, rfl, hF13, hb13⟩
    have hB13 := hB12b.trans (hb13.mono hB12b.size)
    have A13 := hid (A12b.out.later hb13)
    have S013 := hid (S012b.out.later hb13)
    have S113 := hid (S112b.out.later hb13)
    have P013 := hid (P012b.out.later hb13)
    have B13 := hid (B12b.out.later hb13)
    have T013 := hid (T012b.out.later hb13)
    have T113 := hid (T112b.out.later hb13)
    have N513 := hid (Nat.le_trans N512b.out hb13.size)
    have G013 := hid (G012b.out.later hb13)
    clear A12b S012b S112b P012b B12b T012b T112b N512b G012b
    clear a0 a1 a2
    clear A13
    clear B13
    have Z13 := show Hid (kN.In w13.heap.size w13 (some ⟨g13, 0, none⟩) ts) from hF13.in
    clear hb13 hF13
    go_wp2_with fail
    refine (implLeaveR_any s1 s2 (some ⟨g13, 0, none⟩) ts.length ts iv w13 k1 Z13.out).mono ?_
    rintro e w14 ⟨⟨o14_0, c14_0, o14_1, c14_1, rfl, hF14_0, hF14_1⟩, hb14⟩
    rw [HR.out] at hF14_0 hF14_1 ⊢
    dsimp only at hF14_0 hF14_1 ⊢
    have hB14 := hB13.trans (hb14.mono hB13.size)
    have S014 := hid (S013.out.later hb14)
    have S114 := hid (S113.out.later hb14)
    have P014 := hid (P013.out.later hb14)
    have T014 := hid (T013.out.later hb14)
    have T114 := hid (T113.out.later hb14)
    have N514 := hid (Nat.le_trans N513.out hb14.size)
    have G014 := hid (G013.out.later hb14)
    clear S013 S113 P013 T013 T113 N513 G013
    have U014 := hid (hF14_0)
    have U114 := hid (hF14_1)
    clear Z13 hb14 hF14_0 hF14_1
    have p0_0 := P014.out.c 0 rfl
    have p0_1 := P014.out.c 1 rfl
    have p0_2 := P014.out.c 2 rfl
    have hP14_0 := P014.out.size
    have hn14v0 := below1 w14 (.cells #[.int .i64 R1, .int .i64 R2, .slice o14_0 Rl.length c14_0] 46)
    have hB14v0 : Below w.heap.size w (w14.alloc (.cells #[.int .i64 R1, .int .i64 R2, .slice o14_0 Rl.length c14_0] 46)) := hB14.trans (hn14v0.mono hB14.size)
    have S014v0 := hid (S014.out.later hn14v0)
    have S114v0 := hid (S114.out.later hn14v0)
    have P014v0 := hid (P014.out.later hn14v0)
    have T014v0 := hid (T014.out.later hn14v0)
    have T114v0 := hid (T114.out.later hn14v0)
    have N514v0 := hid (Nat.le_trans N514.out hn14v0.size)
    have G014v0 := hid (G014.out.later hn14v0)
    have U014v0 := hid (U014.out.later hn14v0)
    have U114v0 := hid (U114.out.later hn14v0)
    clear S014 S114 P014 T014 T114 N514 G014 U014 U114
    clear hn14v0
    have Q014v0 : Hid (Bx (w14.alloc (.cells #[.int .i64 R1, .int .i64 R2, .slice o14_0 Rl.length c14_0] 46)) (w14.heap.size) [.int .i64 R1, .int .i64 R2, .slice o14_0 Rl.length c14_0]) := Bx.new [.int .i64 R1, .int .i64 R2, .slice o14_0 Rl.length c14_0] _ (by simp)
    go_wp2_with fail
    refine (eqRoom_same R1 R2 o14_0 o3_0 c14_0 c3_0 Rl _ hq.1 U014v0.out.in S014v0.out.in).mono ?_
    rintro e w15a ⟨rfl, hb15a⟩
    have hB15a := hB14v0.trans (hb15a.mono hB14v0.size)
    clear p0_0 p0_1 p0_2 hP14_0
    have S015a := hid (S014v0.out.later hb15a)
    have S115a := hid (S114v0.out.later hb15a)
    have P015a := hid (P014v0.out.later hb15a)
    have T015a := hid (T014v0.out.later hb15a)
    have T115a := hid (T114v0.out.later hb15a)
    have N515a := hid (Nat.le_trans N514v0.out hb15a.size)
    have G015a := hid (G014v0.out.later hb15a)
    have U015a := hid (U014v0.out.later hb15a)
    have U115a := hid (U114v0.out.later hb15a)
    have Q015a := hid (Q014v0.out.later hb15a)
    clear S014v0 S114v0 P014v0 T014v0 T114v0 N514v0 G014v0 U014v0 U114v0 Q014v0
    clear hb15a
    go_wp2_with fail
    refine (eqIntS_same o14_1 o3_1 c14_1 c3_1 Rw _ hq.2 U115a.out.in S115a.out.in).mono ?_
    rintro e w15b ⟨rfl, hb15b⟩
    have hB15b := hB15a.trans (hb15b.mono hB15a.size)
    have S015b := hid (S015a.out.later hb15b)
    have S115b := hid (S115a.out.later hb15b)
    have P015b := hid (P015a.out.later hb15b)
    have T015b := hid (T015a.out.later hb15b)
    have T115b := hid (T115a.out.later hb15b)
    have N515b := hid (Nat.le_trans N515a.out hb15b.size)
    have G015b := hid (G015a.out.later hb15b)
    have U015b := hid (U015a.out.later hb15b)
    have U115b := hid (U115a.out.later hb15b)
    have Q015b := hid (Q015a.out.later hb15b)
    clear S015a S115a P015a T015a T115a N515a G015a U015a U115a Q015a
    clear hb15b
    clear S015b S115b P015b U015b U115b Q015b
    have g0_0 := G015b.out.c 0 rfl
    have g0_1 := G015b.out.c 1 rfl
    have g0_2 := G015b.out.c 2 rfl
    go_wp2_with fail
    refine (heldRoom_any R1 R2 o5_0 c5_0 Rl.length (1) _ (by omega) (by omega) (by omega) T015b.out.in).mono ?_
    rintro e w16a ⟨rfl, hb16a⟩
    clear g0_0 g0_1 g0_2
    have hB16a := hB15b.trans (hb16a.mono hB15b.size)
    have T016a := hid (T015b.out.later hb16a)
    have T116a := hid (T115b.out.later hb16a)
    have N516a := hid (Nat.le_trans N515b.out hb16a.size)
    have G016a := hid (G015b.out.later hb16a)
    clear T015b T115b N515b G015b
    clear hb16a
    go_wp2_with fail
    refine (heldIntS_any o5_1 c5_1 Rw.length (1 + 2 * (Rl.length : Int)) _ (by omega) (by omega) (by omega) T116a.out.in).mono ?_
    rintro e w16b ⟨rfl, hw16b⟩
    have hb16b : Below w16a.heap.size w16a w16b := by rw [hw16b]; exact Below.refl _ _
    clear hw16b
    have hB16b := hB16a.trans (hb16b.mono hB16a.size)
    have T016b := hid (T016a.out.later hb16b)
    have T116b := hid (T116a.out.later hb16b)
    have N516b := hid (Nat.le_trans N516a.out hb16b.size)
    have G016b := hid (G016a.out.later hb16b)
    clear T016a T116a N516a G016a
    clear hb16b
    go_wp2
    go_ret
    exact ⟨rfl, hB16b⟩
end Go.Proofs.Ytcdkdigafcfgmaa
