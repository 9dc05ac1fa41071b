/- The walk of the law on AdvanceTo: it returns true. No conditions but those written. -/
import Derived.Test.YtmjjjckjmfekcaaJd
namespace Go.Proofs.Ytmjjjckjmfekcaa
open Go.RowKit

/-- The specification's clock and ints, the argument's copy, the program's clock and ints, each in its own blocks. -/
def LawA (n2 n3 n4 n5 : Nat) (W : World) (to3 : Option Addr) (tc3 : Nat) (qo3 : Option Addr) (qc3 : Nat) (R1 : List T3) (R2 : List Int) (t4 : Nat) (ts : List T3) (to5 : Option Addr) (tc5 : Nat) (qo5 : Option Addr) (qc5 : Nat) : Prop :=
  FreshC n2 n3 W to3 tc3 R1 ∧ FreshI n2 n3 W qo3 qc3 R2 ∧ FreshC (n3 + 1) n4 W (some ⟨t4, 0, none⟩) ts.length ts ∧ FreshC (n4 + 1) n5 W to5 tc5 R1 ∧ FreshI (n4 + 1) n5 W qo5 qc5 R2
theorem LawA.later {n2 n3 n4 n5 : Nat} {W W' : World} {to3 : Option Addr} {tc3 : Nat} {qo3 : Option Addr} {qc3 : Nat} {R1 : List T3} {R2 : List Int} {t4 : Nat} {ts : List T3} {to5 : Option Addr} {tc5 : Nat} {qo5 : Option Addr} {qc5 : Nat}
    (h : LawA n2 n3 n4 n5 W to3 tc3 qo3 qc3 R1 R2 t4 ts to5 tc5 qo5 qc5) (hb : Below W.heap.size W W') : LawA n2 n3 n4 n5 W' to3 tc3 qo3 qc3 R1 R2 t4 ts to5 tc5 qo5 qc5 :=
  ⟨h.1.later hb, h.2.1.later hb, h.2.2.1.later hb, h.2.2.2.1.later hb, h.2.2.2.2.later hb⟩

set_option maxRecDepth 100000 in
set_option maxHeartbeats 8000000 in
theorem lawAdv_any (now sq : Int) (ao : Option Addr) (cap : Nat) (ts : List T3) (iv : Int) (w : World) (hl : ts.length ≤ 9223372036854775807) (hz : TimersIn w.heap.size w ao ts) :
    Calls Try.prog 9 #[.agg #[.int .i64 now, .int .i64 sq, .slice ao ts.length cap], .int .i64 iv] w fun e w' => e = .returned (.bool true) ∧ Below w.heap.size w w' := by
  generalize hR : advR now sq ts iv = R
  have HR : Hid (advR now sq ts iv = R) := hR
  clear hR
  obtain ⟨Rn, Rs, R1, R2, R3⟩ := R
  go_enter Try.func9, Try.ntmps9
  go_wp2_with fail
  refine (szClock_any now sq ao ts.length cap _ hl).mono ?_
  rintro e w1 ⟨⟨r, rfl, hr⟩, hb1⟩
  have A1 := (Box3.new w (.int .i64 now) (.int .i64 sq) (.slice ao ts.length cap) 24).later hb1
  have hB1 := (below1 w (.cells #[.int .i64 now, .int .i64 sq, .slice ao ts.length cap] 24)).trans (hb1.mono (by simp))
  obtain ⟨a1, a10, a11, a12⟩ := id A1
  clear hb1
  rcases hr with hr | ⟨hr0, hr1⟩
  · go_wp2
    go_ret
    exact ⟨rfl, hB1⟩
  · obtain ⟨hR1, hR2⟩ : R1.length ≤ 1048576 ∧ R2.length ≤ 1048576 := by
      have h := advR_len now sq ts iv hr1
      rw [HR.out] at h; exact h
    have hce : (R3 != R3) = false := by simp
    go_wp2_with fail
    refine (toClock_any now sq ao cap ts _ hr1 (hz.later hB1)).mono ?_
    rintro e w2 ⟨t2, rfl, hT2, hb2⟩
    have hB2 := hB1.trans (hb2.mono hB1.size)
    have A2 := A1.later hb2
    obtain ⟨a2, a20, a21, a22⟩ := id A2
    have HT2 := show Hid (TimersIn w2.heap.size w2 (some ⟨t2, 0, none⟩) ts) from hT2.timers
    clear hb2 hT2 A1 a1 a10 a11 a12
    go_wp2_with fail
    refine (specAdv_any now sq ⟨t2, 0, none⟩ ts.length ts iv w2 hr1 (Nat.le_refl _) HT2.out).mono ?_
    rintro e w3 ⟨⟨to3, tc3, qo3, qc3, rfl, hT3, hI3⟩, hb3⟩
    rw [HR.out] at hT3 hI3 ⊢
    dsimp only at hT3 hI3 ⊢
    have hs3 := hb3.size
    have hB3 := hB2.trans (hb3.mono hB2.size)
    have A3 := (A2.later hb3).later (below1 w3 (.cells #[.int .i64 Rn, .int .i64 Rs, .slice to3 R1.length tc3] 29))
    have W3 := Box3.new w3 (.int .i64 Rn) (.int .i64 Rs) (.slice to3 R1.length tc3) 29
    have hB3' := hB3.alloc hB3.size (.cells #[.int .i64 Rn, .int .i64 Rs, .slice to3 R1.length tc3] 29)
    obtain ⟨a3, a30, a31, a32⟩ := id A3
    have F3 := show Hid (FreshC w2.heap.size w3.heap.size (w3.alloc (.cells #[.int .i64 Rn, .int .i64 Rs, .slice to3 R1.length tc3] 29)) to3 tc3 R1 ∧ FreshI w2.heap.size w3.heap.size (w3.alloc (.cells #[.int .i64 Rn, .int .i64 Rs, .slice to3 R1.length tc3] 29)) qo3 qc3 R2) from ⟨hT3.later (below1 _ _), hI3.later (below1 _ _)⟩
    clear hb3 hT3 hI3 A2 a2 a20 a21 a22 HT2
    go_wp2_with fail
    refine (toClock_any now sq ao cap ts _ hr1 (hz.later hB3')).mono ?_
    rintro e w4 ⟨t4, rfl, hT4, hb4⟩
    have hs4 := hb4.size
    simp only [World.size_alloc] at hs4
    have hB4 := hB3'.trans (hb4.mono hB3'.size)
    have hB4' := hB4.alloc hB4.size (.cells #[.int .i64 now, .int .i64 sq, .slice (some ⟨t4, 0, none⟩) ts.length ts.length] 29)
    have A4 := (A3.later hb4).later (below1 w4 (.cells #[.int .i64 now, .int .i64 sq, .slice (some ⟨t4, 0, none⟩) ts.length ts.length] 29))
    have W4 := (W3.later hb4).later (below1 w4 (.cells #[.int .i64 now, .int .i64 sq, .slice (some ⟨t4, 0, none⟩) ts.length ts.length] 29))
    have X4 := Box3.new w4 (.int .i64 now) (.int .i64 sq) (.slice (some ⟨t4, 0, none⟩) ts.length ts.length) 29
    have F4 := show Hid ((FreshC w2.heap.size w3.heap.size (w4.alloc (.cells #[.int .i64 now, .int .i64 sq, .slice (some ⟨t4, 0, none⟩) ts.length ts.length] 29)) to3 tc3 R1 ∧ FreshI w2.heap.size w3.heap.size (w4.alloc (.cells #[.int .i64 now, .int .i64 sq, .slice (some ⟨t4, 0, none⟩) ts.length ts.length] 29)) qo3 qc3 R2) ∧ FreshC (w3.heap.size + 1) w4.heap.size (w4.alloc (.cells #[.int .i64 now, .int .i64 sq, .slice (some ⟨t4, 0, none⟩) ts.length ts.length] 29)) (some ⟨t4, 0, none⟩) ts.length ts) from
      ⟨⟨(F3.out.1.later hb4).later (below1 _ _), (F3.out.2.later hb4).later (below1 _ _)⟩, (hT4.wide (by simp) (Nat.le_refl _)).later (below1 _ _)⟩
    obtain ⟨a4, a40, a41, a42⟩ := id A4
    clear hb4 hT4 F3 A3 W3 a3 a30 a31 a32
    go_wp2_with fail
    refine (implAdv_any now sq (some ⟨t4, 0, none⟩) ts.length ts iv _ hr1 (Nat.le_refl _) F4.out.2.timers).mono ?_
    rintro e w5 ⟨⟨to5, tc5, qo5, qc5, rfl, hT5, hI5⟩, hb5⟩
    rw [HR.out] at hT5 hI5 ⊢
    dsimp only at hT5 hI5 ⊢
    have hs5 := hb5.size
    simp only [World.size_alloc] at hs5 hT5 hI5
    have hB5 := hB4'.trans (hb5.mono hB4'.size)
    obtain ⟨W5, hW5⟩ : ∃ W5, W5 = w5.alloc (.cells #[.int .i64 Rn, .int .i64 Rs, .slice to5 R1.length tc5] 29) := ⟨_, rfl⟩
    have hbW : Below w5.heap.size w5 W5 := by rw [hW5]; exact below1 _ _
    have hsW : W5.heap.size = w5.heap.size + 1 := by rw [hW5]; simp
    have hBW := hB5.trans (hbW.mono hB5.size)
    have A5w := A4.later hb5
    have P5w := W4.later hb5
    have X5w := X4.later hb5
    have A5 := A5w.later hbW
    have P5 := P5w.later hbW
    have X5 := X5w.later hbW
    have G5 : Box3 W5 w5.heap.size (.int .i64 Rn) (.int .i64 Rs) (.slice to5 R1.length tc5) := by rw [hW5]; exact Box3.new _ _ _ _ _
    have F5 := show Hid (LawA w2.heap.size w3.heap.size w4.heap.size w5.heap.size W5 to3 tc3 qo3 qc3 R1 R2 t4 ts to5 tc5 qo5 qc5) from ⟨(F4.out.1.1.later hb5).later hbW, (F4.out.1.2.later hb5).later hbW, (F4.out.2.later hb5).later hbW, hT5.later hbW, hI5.later hbW⟩
    have HW5 : Hid (W5 = w5.alloc (.cells #[.int .i64 Rn, .int .i64 Rs, .slice to5 R1.length tc5] 29)) := hW5
    obtain ⟨l0, y0, y1, y2⟩ := id A5w
    obtain ⟨l3, y3, y4, y5⟩ := id P5w
    obtain ⟨l4, y6, y7, y8⟩ := id X5w
    have hlo : w.heap.size < w3.heap.size + 1 := by have := hB3.size; omega
    have hlo2 : w.heap.size < w4.heap.size + 1 := by have := hB4.size; omega
    have hn23 : w2.heap.size ≤ w3.heap.size := hs3
    clear hb5 hT5 hI5 F4 A4 W4 X4 a4 a40 a41 a42 hW5 hbW A5w P5w X5w
    go_wp2_with fail
    rw [← HW5.out]
    refine (eqClock_same Rn Rs to5 tc5 R1 to3 tc3 W5 hR1 F5.out.2.2.2.1.timers F5.out.1.timers).mono ?_
    rintro e w5b ⟨rfl, hb5b⟩
    have hB5b := hBW.trans (hb5b.mono hBW.size)
    have F5b := show Hid (LawA w2.heap.size w3.heap.size w4.heap.size w5.heap.size w5b to3 tc3 qo3 qc3 R1 R2 t4 ts to5 tc5 qo5 qc5) from F5.out.later hb5b
    clear y0 y1 y2 y3 y4 y5 y6 y7 y8 HW5
    go_wp2_with fail
    refine (eqIntS_same qo5 qo3 qc5 qc3 R2 w5b hR2 F5b.out.2.2.2.2.ints F5b.out.2.1.ints).mono ?_
    rintro e w6 ⟨rfl, hb6b⟩
    have hb6 : Below W5.heap.size W5 w6 := hb5b.trans (hb6b.mono hb5b.size)
    have hB6 := hBW.trans (hb6.mono hBW.size)
    have A6 := A5.later hb6
    have P6 := P5.later hb6
    have X6 := X5.later hb6
    have G6 := G5.later hb6
    have F6 := show Hid (LawA w2.heap.size w3.heap.size w4.heap.size w5.heap.size w6 to3 tc3 qo3 qc3 R1 R2 t4 ts to5 tc5 qo5 qc5) from F5.out.later hb6
    have hs6 := hb6.size
    obtain ⟨_, z0, z1, z2⟩ := id A6
    obtain ⟨_, z3, z4, z5⟩ := id X6
    clear hb6 hb6b hb5b F5 F5b A5 P5 X5 G5 l0 l3 l4
    go_wp2
    go_region_with (first
      | (go_at_call 12; refine (toClock_any now sq ao cap ts _ hr1 (by exact hz.later hB6.drew)).mono ?_; rintro e w7 ⟨t7, rfl, hT7, hb7⟩; have X7 : Box3 w7 w4.heap.size (.int .i64 now) (.int .i64 sq) (.slice (some ⟨t4, 0, none⟩) ts.length ts.length) := Box3.later (W := w6.drew) X6 hb7; obtain ⟨x7, x70, x71, x72⟩ := id X7; have F7 : Hid (LawA w2.heap.size w3.heap.size w4.heap.size w5.heap.size w7 to3 tc3 qo3 qc3 R1 R2 t4 ts to5 tc5 qo5 qc5 ∧ TimersIn w7.heap.size w7 (some ⟨t7, 0, none⟩) ts) := ⟨LawA.later (W := w6.drew) F6.out hb7, hT7.timers⟩; have hb67 : Below w6.heap.size w6 w7 := (Below.refl w6.heap.size w6).drew.trans hb7; have hB7 : Below w.heap.size w w7 := hB6.trans (hb67.mono hB6.size); clear hb7 hT7)
      | (go_at_call 14; refine (eqClock_same now sq _ _ ts _ _ _ hr1 (by exact F7.out.1.2.2.1.timers) (by exact F7.out.2)).mono ?_; rintro e w8 ⟨rfl, hb8⟩; have hb68 : Below w6.heap.size w6 w8 := hb67.trans (hb8.mono hb67.size); have X8 := X6.later hb68; obtain ⟨x8, x80, x81, x82⟩ := id X8; have F8 : Hid (LawA w2.heap.size w3.heap.size w4.heap.size w5.heap.size w8 to3 tc3 qo3 qc3 R1 R2 t4 ts to5 tc5 qo5 qc5) := F7.out.1.later hb8; have hB8 : Below w.heap.size w w8 := hB6.trans (hb68.mono hB6.size); clear hb8))
    all_goals
      have A8 := A6.later hb68
      have P8 := P6.later hb68
      have G8 := G6.later hb68
      have hs8 := hb68.size
      clear F6 F7 A6 P6 X6 G6 hb68 hb67 x7 x70 x71 x72 X7 z0 z1 z2 z3 z4 z5
      go_wp2_with fail
      refine (markClock_any (w3.heap.size + 1) w4.heap.size now sq (some ⟨t4, 0, none⟩) ts.length ts w8 (by omega) F8.out.2.2.1).mono ?_
      rintro e w9 ⟨rfl, _, hb9⟩
      have hB9 := hB8.trans ((hb9.below (by omega)).mono (by omega))
      have A9 := A8.between hb9 (.inl (by omega))
      have P9 := P8.between hb9 (.inl (by omega))
      have G9 := G8.between hb9 (.inr (by omega))
      have F9 := show Hid (FreshC w2.heap.size w3.heap.size w9 to3 tc3 R1 ∧ FreshI w2.heap.size w3.heap.size w9 qo3 qc3 R2 ∧ FreshC (w4.heap.size + 1) w5.heap.size w9 to5 tc5 R1 ∧ FreshI (w4.heap.size + 1) w5.heap.size w9 qo5 qc5 R2) from ⟨F8.out.1.between' hb9 (by omega), F8.out.2.1.between' hb9 (by omega), F8.out.2.2.2.1.between' hb9 (by omega), F8.out.2.2.2.2.between' hb9 (by omega)⟩
      have hs9 := hb9.size
      obtain ⟨_, p90, p91, p92⟩ := id P9
      obtain ⟨_, g90, g91, g92⟩ := id G9
      have hk0 : decide ((1 : Int) + 3 * (ts.length : Int) < 0) = false := by simp; omega
      clear hb9 F8 A8 P8 G8 X8 x8 x80 x81 x82
      go_wp2_with fail
      refine (eqClock_same Rn Rs to5 tc5 R1 to3 tc3 w9 hR1 F9.out.2.2.1.timers F9.out.1.timers).mono ?_
      rintro e w9b ⟨rfl, hb9b⟩
      have F9b := show Hid (FreshC w2.heap.size w3.heap.size w9b to3 tc3 R1 ∧ FreshI w2.heap.size w3.heap.size w9b qo3 qc3 R2 ∧ FreshC (w4.heap.size + 1) w5.heap.size w9b to5 tc5 R1 ∧ FreshI (w4.heap.size + 1) w5.heap.size w9b qo5 qc5 R2) from ⟨F9.out.1.later hb9b, F9.out.2.1.later hb9b, F9.out.2.2.1.later hb9b, F9.out.2.2.2.later hb9b⟩
      clear p90 p91 p92 g90 g91 g92
      go_wp2_with fail
      refine (eqIntS_same qo5 qo3 qc5 qc3 R2 w9b hR2 F9b.out.2.2.2.ints F9b.out.2.1.ints).mono ?_
      rintro e w10 ⟨rfl, hb10b⟩
      have hb10 : Below w9.heap.size w9 w10 := hb9b.trans (hb10b.mono hb9b.size)
      have hB10 := hB9.trans (hb10.mono hB9.size)
      have A10 := A9.later hb10
      have P10 := P9.later hb10
      have G10 := G9.later hb10
      have hs10 := hb10.size
      have F10 := show Hid (FreshC w2.heap.size w3.heap.size w10 to3 tc3 R1 ∧ FreshI w2.heap.size w3.heap.size w10 qo3 qc3 R2 ∧ FreshC (w4.heap.size + 1) w5.heap.size w10 to5 tc5 R1 ∧ FreshI (w4.heap.size + 1) w5.heap.size w10 qo5 qc5 R2) from ⟨F9.out.1.later hb10, F9.out.2.1.later hb10, F9.out.2.2.1.later hb10, F9.out.2.2.2.later hb10⟩
      obtain ⟨_, u0, u1, u2⟩ := id G10
      clear hb10 hb10b hb9b F9 F9b A9 P9 G9
      go_wp2_with fail
      refine (markClockI_any (w4.heap.size + 1) w5.heap.size Rn Rs to5 tc5 R1 qo5 qc5 R2 w10 (by omega) F10.out.2.2.1 F10.out.2.2.2).mono ?_
      rintro e w10b ⟨rfl, hT10, hI10, hbm⟩
      have F10b := show Hid ((FreshC w2.heap.size w3.heap.size w10b to3 tc3 R1 ∧ FreshI w2.heap.size w3.heap.size w10b qo3 qc3 R2) ∧ FreshC (w4.heap.size + 1) w5.heap.size w10b to5 tc5 (markC 1 R1.length) ∧ FreshI (w4.heap.size + 1) w5.heap.size w10b qo5 qc5 R2) from ⟨⟨F10.out.1.between' hbm (by omega), F10.out.2.1.between' hbm (by omega)⟩, hT10, hI10⟩
      have hsm := hbm.size
      clear hT10 hI10 u0 u1 u2
      go_wp2_with fail
      refine (markIntS_any (w4.heap.size + 1) w5.heap.size qo5 qc5 R2 (1 + 3 * R1.length) w10b (by omega) (by omega) (by omega) F10b.out.2.2).mono ?_
      rintro e w11 ⟨rfl, hI11, hO11⟩
      have hbn := F10b.out.2.2.between hO11
      have hb11 : Between (w4.heap.size + 1) w5.heap.size w10 w11 := hbm.trans hbn
      have hB11 := hB10.trans ((hb11.below (by omega)).mono (by omega))
      have A11 := A10.between hb11 (.inl (by omega))
      have P11 := P10.between hb11 (.inl (by omega))
      have G11 := G10.between hb11 (.inr (by omega))
      have hs11 := hb11.size
      have F11 := show Hid (FreshC w2.heap.size w3.heap.size w11 to3 tc3 R1 ∧ FreshI w2.heap.size w3.heap.size w11 qo3 qc3 R2 ∧ FreshC (w4.heap.size + 1) w5.heap.size w11 to5 tc5 (markC 1 R1.length) ∧ FreshI (w4.heap.size + 1) w5.heap.size w11 qo5 qc5 (markI (1 + 3 * R1.length) R2.length)) from ⟨F10.out.1.between' hb11 (by omega), F10.out.2.1.between' hb11 (by omega), F10b.out.2.1.only F10b.out.2.2 hO11, hI11⟩
      obtain ⟨_, v0, v1, v2⟩ := id G11
      clear hb11 hI11 hO11 hbn hbm F10 F10b A10 P10 G10
      go_wp2_with fail
      refine (heldClock_any Rn Rs to5 tc5 R1.length w11 (by omega) F11.out.2.2.1.timers).mono ?_
      rintro e w11b ⟨rfl, hb11b⟩
      have F11b := show Hid (FreshC w2.heap.size w3.heap.size w11b to3 tc3 R1 ∧ FreshI w2.heap.size w3.heap.size w11b qo3 qc3 R2 ∧ FreshC (w4.heap.size + 1) w5.heap.size w11b to5 tc5 (markC 1 R1.length) ∧ FreshI (w4.heap.size + 1) w5.heap.size w11b qo5 qc5 (markI (1 + 3 * R1.length) R2.length)) from ⟨F11.out.1.later hb11b, F11.out.2.1.later hb11b, F11.out.2.2.1.later hb11b, F11.out.2.2.2.later hb11b⟩
      have hm0 : decide ((1 : Int) + 3 * (R1.length : Int) < 0) = false := by simp; omega
      clear v0 v1 v2
      go_wp2_with fail
      refine (heldIntS_any qo5 qc5 R2.length (1 + 3 * R1.length) w11b (by omega) (by omega) (by omega) F11b.out.2.2.2.ints).mono ?_
      rintro e w12 ⟨rfl, rfl⟩
      have hB12 := hB11.trans (hb11b.mono hB11.size)
      have A12 := A11.later hb11b
      have P12 := P11.later hb11b
      have G12 := G11.later hb11b
      have hs12 := hb11b.size
      obtain ⟨_, o0, o1, o2⟩ := id A12
      have hm2 : decide ((1 : Int) + 3 * (R1.length : Int) + (R2.length : Int) < 0) = false := by simp; omega
      have hm1 : ((1 : Int) + 3 * (R1.length : Int) + (R2.length : Int) != (1 : Int) + 3 * (R1.length : Int) + (R2.length : Int)) = false := by simp
      clear hb11b F11 A11 P11 G11
      go_wp2_with fail
      refine (toClock_any now sq ao cap ts w12 hr1 (hz.later hB12)).mono ?_
      rintro e w13 ⟨t13, rfl, hT13, hb13⟩
      have hB13 := hB12.trans (hb13.mono hB12.size)
      have P13 := P12.later hb13
      have G13 := G12.later hb13
      have hs13 := hb13.size
      have F13 := show Hid ((FreshC w2.heap.size w3.heap.size w13 to3 tc3 R1 ∧ FreshI w2.heap.size w3.heap.size w13 qo3 qc3 R2 ∧ FreshC (w4.heap.size + 1) w5.heap.size w13 to5 tc5 (markC 1 R1.length) ∧ FreshI (w4.heap.size + 1) w5.heap.size w13 qo5 qc5 (markI (1 + 3 * R1.length) R2.length)) ∧ TimersIn w13.heap.size w13 (some ⟨t13, 0, none⟩) ts) from ⟨⟨F11b.out.1.later hb13, F11b.out.2.1.later hb13, F11b.out.2.2.1.later hb13, F11b.out.2.2.2.later hb13⟩, hT13.timers⟩
      clear hb13 F11b A12 P12 G12 o0 o1 o2 hT13
      go_wp2_with fail
      refine (implAdv_any now sq (some ⟨t13, 0, none⟩) ts.length ts iv w13 hr1 (Nat.le_refl _) F13.out.2).mono ?_
      rintro e w14 ⟨⟨to14, tc14, qo14, qc14, rfl, hT14, hI14⟩, hb14⟩
      rw [HR.out] at hT14 hI14 ⊢
      dsimp only at hT14 hI14 ⊢
      have hB14 := hB13.trans (hb14.mono hB13.size)
      have P14 := P13.later hb14
      have G14 := G13.later hb14
      have hs14 := hb14.size
      have F14 := show Hid ((FreshC w2.heap.size w3.heap.size w14 to3 tc3 R1 ∧ FreshI w2.heap.size w3.heap.size w14 qo3 qc3 R2 ∧ FreshC (w4.heap.size + 1) w5.heap.size w14 to5 tc5 (markC 1 R1.length) ∧ FreshI (w4.heap.size + 1) w5.heap.size w14 qo5 qc5 (markI (1 + 3 * R1.length) R2.length)) ∧ TimersIn w14.heap.size w14 to14 R1 ∧ IntsIn w14.heap.size w14 qo14 R2) from ⟨⟨F13.out.1.1.later hb14, F13.out.1.2.1.later hb14, F13.out.1.2.2.1.later hb14, F13.out.1.2.2.2.later hb14⟩, hT14.timers, hI14.ints⟩
      obtain ⟨i3, i0, i1, i2⟩ := id P14
      clear hb14 F13 P13 G13 hT14 hI14
      go_wp2_with fail
      refine (eqClock_same Rn Rs to14 tc14 R1 to3 tc3 _ hR1 (F14.out.2.1.later (below1 _ _)) (F14.out.1.1.timers.later (below1 _ _))).mono ?_
      rintro e w14b ⟨rfl, hb14b⟩
      have hbb : Below w14.heap.size w14 w14b := (below1 w14 _).trans (hb14b.mono (by simp))
      have F14b := show Hid (IntsIn w14b.heap.size w14b qo14 R2 ∧ IntsIn w14b.heap.size w14b qo3 R2) from ⟨F14.out.2.2.later hbb, F14.out.1.2.1.ints.later hbb⟩
      clear i0 i1 i2 i3 hb14b
      go_wp2_with fail
      refine (eqIntS_same qo14 qo3 qc14 qc3 R2 w14b hR2 F14b.out.1 F14b.out.2).mono ?_
      rintro e w15 ⟨rfl, hb15b⟩
      have hb1415 : Below w14.heap.size w14 w15 := hbb.trans (hb15b.mono hbb.size)
      have hB15 := hB14.trans (hb1415.mono hB14.size)
      have G15 := G14.later hb1415
      have F15 := show Hid (TimersIn w15.heap.size w15 to5 (markC 1 R1.length) ∧ FreshI (w4.heap.size + 1) w5.heap.size w15 qo5 qc5 (markI (1 + 3 * R1.length) R2.length)) from ⟨(F14.out.1.2.2.1.later hb1415).timers, F14.out.1.2.2.2.later hb1415⟩
      obtain ⟨_, j0, j1, j2⟩ := id G15
      clear hb15b hb1415 hbb F14 F14b P14 G14
      go_wp2_with fail
      refine (heldClock_any Rn Rs to5 tc5 R1.length w15 (by omega) F15.out.1).mono ?_
      rintro e w16 ⟨rfl, hb16⟩
      have hB16 := hB15.trans (hb16.mono hB15.size)
      have F16 := show Hid (IntsIn w16.heap.size w16 qo5 (markI (1 + 3 * R1.length) R2.length)) from (F15.out.2.later hb16).ints
      clear hb16 F15 G15 j0 j1 j2
      go_wp2_with fail
      refine (heldIntS_any qo5 qc5 R2.length (1 + 3 * R1.length) w16 (by omega) (by omega) (by omega) F16.out).mono ?_
      rintro e w17 ⟨rfl, rfl⟩
      go_wp2
      go_ret
      exact ⟨rfl, hB16⟩
end Go.Proofs.Ytmjjjckjmfekcaa
