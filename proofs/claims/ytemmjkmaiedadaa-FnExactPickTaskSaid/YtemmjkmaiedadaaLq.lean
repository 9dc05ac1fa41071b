/- The walk of the law: it returns true. No conditions but those written. -/
import Derived.Test.YtemmjkmaiedadaaQf
namespace Go.Proofs.Ytemmjkmaiedadaa
open Go.RowKit

set_option maxRecDepth 100000 in
set_option maxHeartbeats 8000000 in
theorem lawPick_any (ao : Option Addr) (cap : Nat) (ts : List (Int × Int)) (qo : Option Addr) (qcap : Nat) (q : List Int) (iv : Int) (w : World) (hl : ts.length ≤ 9223372036854775807) (hlq : q.length ≤ 9223372036854775807) (hz : TasksIn w.heap.size w ao ts) (hq : IntsIn w.heap.size w qo q) :
    Calls Try.prog 5 #[.agg #[.slice ao ts.length cap, .slice qo q.length qcap], .int .i64 iv] w fun e w' => e = .returned (.bool true) ∧ Below w.heap.size w w' := by
  generalize hR : pickR iv ts q = R
  have HR : Hid (pickR iv ts q = R) := hR
  clear hR
  obtain ⟨R1, R2, R3, R4⟩ := R
  go_enter Try.func5, Try.ntmps5
  go_wp2_with fail
  refine (szBoard_any ao ts.length cap qo q.length qcap _ hl hlq).mono ?_
  rintro e w1 ⟨⟨r, rfl, hr⟩, hb1⟩
  have A1 := (Box.new w (.slice ao ts.length cap) (.slice qo q.length qcap) 25).later hb1
  have hB1 := (below1 w (.cells #[.slice ao ts.length cap, .slice qo q.length qcap] 25)).trans (hb1.mono (by simp))
  have a10 := A1.2.1
  have a11 := A1.2.2
  clear hb1
  rcases hr with hr | ⟨hr0, hr1⟩
  · go_wp2
    go_ret
    exact ⟨rfl, hB1⟩
  · obtain ⟨hR1, hR2⟩ : R1.length ≤ 1048576 ∧ R2.length ≤ 1048576 := by
      have h := pickR_len iv ts q (by omega) (by omega)
      rw [HR.out] at h; exact h
    have hce : (R3 != R3) = false := by simp
    have hce2 : (R4 != R4) = false := by simp
    go_wp2_with fail
    refine (toBoard_any ao cap ts qo qcap q _ (by omega) (by omega) (hz.later hB1) (hq.later hB1)).mono ?_
    rintro e w2 ⟨t2, q2, rfl, _, hT2, hI2, hb2⟩
    have hB2 := hB1.trans (hb2.mono hB1.size)
    have A2 := A1.later hb2
    have a20 := A2.2.1
    have a21 := A2.2.2
    have HT2 := show Hid (TasksIn w2.heap.size w2 (some ⟨t2, 0, none⟩) ts ∧ IntsIn w2.heap.size w2 (some ⟨q2, 0, none⟩) q) from ⟨hT2.tasks, hI2.ints⟩
    clear hb2 hT2 hI2 A1 a10 a11
    go_wp2_with fail
    refine (specPick_any ⟨t2, 0, none⟩ ts.length ts ⟨q2, 0, none⟩ q.length q iv w2 (by omega) (by omega) HT2.out.1 HT2.out.2).mono ?_
    rintro e w3 ⟨⟨to3, tc3, go3, qc3, rfl, hT3, hI3⟩, hb3⟩
    rw [HR.out] at hT3 hI3 ⊢
    dsimp only at hT3 hI3 ⊢
    have hs3 := hb3.size
    have hB3 := hB2.trans (hb3.mono hB2.size)
    have A3 := (A2.later hb3).later (below1 w3 (.cells #[.slice to3 R1.length tc3, .slice go3 R2.length qc3] 30))
    have W3 := Box.new w3 (.slice to3 R1.length tc3) (.slice go3 R2.length qc3) 30
    have hB3' := hB3.alloc hB3.size (.cells #[.slice to3 R1.length tc3, .slice go3 R2.length qc3] 30)
    have a30 := A3.2.1
    have a31 := A3.2.2
    have F3 := show Hid (FreshT w2.heap.size w3.heap.size (w3.alloc (.cells #[.slice to3 R1.length tc3, .slice go3 R2.length qc3] 30)) to3 tc3 R1 ∧ FreshI w2.heap.size w3.heap.size (w3.alloc (.cells #[.slice to3 R1.length tc3, .slice go3 R2.length qc3] 30)) go3 qc3 R2) from ⟨hT3.later (below1 _ _), hI3.later (below1 _ _)⟩
    clear hb3 hT3 hI3 A2 a20 a21 HT2
    go_wp2_with fail
    refine (toBoard_any ao cap ts qo qcap q _ (by omega) (by omega) (hz.later hB3') (hq.later hB3')).mono ?_
    rintro e w4 ⟨t4, q4, rfl, _, hT4, hI4, hb4⟩
    have hs4 := hb4.size
    simp only [World.size_alloc] at hs4
    have hB4 := hB3'.trans (hb4.mono hB3'.size)
    have hB4' := hB4.alloc hB4.size (.cells #[.slice (some ⟨t4, 0, none⟩) ts.length ts.length, .slice (some ⟨q4, 0, none⟩) q.length q.length] 30)
    have A4 := (A3.later hb4).later (below1 w4 (.cells #[.slice (some ⟨t4, 0, none⟩) ts.length ts.length, .slice (some ⟨q4, 0, none⟩) q.length q.length] 30))
    have W4 := (W3.later hb4).later (below1 w4 (.cells #[.slice (some ⟨t4, 0, none⟩) ts.length ts.length, .slice (some ⟨q4, 0, none⟩) q.length q.length] 30))
    have X4 := Box.new w4 (.slice (some ⟨t4, 0, none⟩) ts.length ts.length) (.slice (some ⟨q4, 0, none⟩) q.length q.length) 30
    have F4 := show Hid (FreshT w2.heap.size w3.heap.size (w4.alloc (.cells #[.slice (some ⟨t4, 0, none⟩) ts.length ts.length, .slice (some ⟨q4, 0, none⟩) q.length q.length] 30)) to3 tc3 R1 ∧ FreshI w2.heap.size w3.heap.size (w4.alloc (.cells #[.slice (some ⟨t4, 0, none⟩) ts.length ts.length, .slice (some ⟨q4, 0, none⟩) q.length q.length] 30)) go3 qc3 R2 ∧ FreshT (w3.heap.size + 1) w4.heap.size (w4.alloc (.cells #[.slice (some ⟨t4, 0, none⟩) ts.length ts.length, .slice (some ⟨q4, 0, none⟩) q.length q.length] 30)) (some ⟨t4, 0, none⟩) ts.length ts ∧ FreshI (w3.heap.size + 1) w4.heap.size (w4.alloc (.cells #[.slice (some ⟨t4, 0, none⟩) ts.length ts.length, .slice (some ⟨q4, 0, none⟩) q.length q.length] 30)) (some ⟨q4, 0, none⟩) q.length q) from
      ⟨(F3.out.1.later hb4).later (below1 _ _), (F3.out.2.later hb4).later (below1 _ _), (hT4.fresh.wide (by simp) (Nat.le_refl _)).later (below1 _ _), (hI4.fresh.wide (by simp) (Nat.le_refl _)).later (below1 _ _)⟩
    have a40 := A4.2.1
    have a41 := A4.2.2
    clear hb4 hT4 hI4 F3 A3 W3 a30 a31
    go_wp2_with fail
    refine (implPick_any (some ⟨t4, 0, none⟩) ts.length ts (some ⟨q4, 0, none⟩) q.length q iv _ (by omega) (by omega) F4.out.2.2.1.tasks F4.out.2.2.2.ints).mono ?_
    rintro e w5 ⟨⟨to5, tc5, go5, qc5, rfl, hT5, hI5⟩, hb5⟩
    rw [HR.out] at hT5 hI5 ⊢
    dsimp only at hT5 hI5 ⊢
    have hs5 := hb5.size
    simp only [World.size_alloc] at hs5 hT5 hI5
    have hB5 := hB4'.trans (hb5.mono hB4'.size)
    obtain ⟨W5, hW5⟩ : ∃ W5, W5 = w5.alloc (.cells #[.slice to5 R1.length tc5, .slice go5 R2.length qc5] 30) := ⟨_, rfl⟩
    have hbW : Below w5.heap.size w5 W5 := by rw [hW5]; exact below1 _ _
    have hsW : W5.heap.size = w5.heap.size + 1 := by rw [hW5]; simp
    have hBW := hB5.trans (hbW.mono hB5.size)
    have A5w := A4.later hb5
    have P5w := W4.later hb5
    have X5w := X4.later hb5
    have A5 := A5w.later hbW
    have P5 := P5w.later hbW
    have X5 := X5w.later hbW
    have G5 : Box W5 w5.heap.size (.slice to5 R1.length tc5) (.slice go5 R2.length qc5) := by rw [hW5]; exact Box.new _ _ _ _
    have F5 := show Hid (LawF w2.heap.size w3.heap.size w4.heap.size w5.heap.size W5 to3 tc3 go3 qc3 R1 R2 t4 q4 ts q to5 tc5 go5 qc5) from
      ⟨(F4.out.1.later hb5).later hbW, (F4.out.2.1.later hb5).later hbW, (F4.out.2.2.1.later hb5).later hbW, (F4.out.2.2.2.later hb5).later hbW, (hT5.later hbW), (hI5.later hbW)⟩
    have HW5 : Hid (W5 = w5.alloc (.cells #[.slice to5 R1.length tc5, .slice go5 R2.length qc5] 30)) := hW5
    have l0 := A5w.1
    have l3 := P5w.1
    have l4 := X5w.1
    have y0 := A5w.2.1
    have y1 := A5w.2.2
    have y2 := P5w.2.1
    have y3 := P5w.2.2
    have y4 := X5w.2.1
    have y5 := X5w.2.2
    have hlo : w.heap.size < w3.heap.size + 1 := by have := hB3.size; omega
    have hlo2 : w.heap.size < w4.heap.size + 1 := by have := hB4.size; omega
    have hn23 : w2.heap.size ≤ w3.heap.size := hs3
    clear hb5 hT5 hI5 F4 A4 W4 X4 a40 a41 hW5 hbW A5w P5w X5w
    go_wp2_with fail
    rw [← HW5.out]
    refine (eqBoard_same to5 tc5 R1 go5 qc5 R2 to3 tc3 go3 qc3 W5 (by omega) (by omega) F5.out.2.2.2.2.1.tasks F5.out.2.2.2.2.2.ints F5.out.1.tasks F5.out.2.1.ints).mono ?_
    rintro e w6 ⟨rfl, hb6⟩
    have hB6 := hBW.trans (hb6.mono hBW.size)
    have A6 := A5.later hb6
    have P6 := P5.later hb6
    have X6 := X5.later hb6
    have G6 := G5.later hb6
    have F6 := show Hid (LawF w2.heap.size w3.heap.size w4.heap.size w5.heap.size w6 to3 tc3 go3 qc3 R1 R2 t4 q4 ts q to5 tc5 go5 qc5) from F5.out.later hb6
    have hs6 := hb6.size
    have z0 := A6.2.1
    have z1 := A6.2.2
    have z4 := X6.2.1
    have z5 := X6.2.2
    clear hb6 F5 A5 P5 X5 G5 y0 y1 y2 y3 y4 y5 l0 l3 l4 HW5
    go_wp2
    go_region_with (first
      | (go_at_call 14; refine (toBoard_any ao cap ts qo qcap q _ (by omega) (by omega) (by exact hz.later hB6.drew) (by exact hq.later hB6.drew)).mono ?_; rintro e w7 ⟨t7, q7, rfl, _, hT7, hI7, hb7⟩; have X7 : Box w7 w4.heap.size (.slice (some ⟨t4, 0, none⟩) ts.length ts.length) (.slice (some ⟨q4, 0, none⟩) q.length q.length) := Box.later (W := w6.drew) X6 hb7; have x70 := X7.2.1; have x71 := X7.2.2; have F7 : Hid (LawF w2.heap.size w3.heap.size w4.heap.size w5.heap.size w7 to3 tc3 go3 qc3 R1 R2 t4 q4 ts q to5 tc5 go5 qc5 ∧ TasksIn w7.heap.size w7 (some ⟨t7, 0, none⟩) ts ∧ IntsIn w7.heap.size w7 (some ⟨q7, 0, none⟩) q) := ⟨LawF.later (W := w6.drew) F6.out hb7, hT7.tasks, hI7.ints⟩; have hb67 : Below w6.heap.size w6 w7 := (Below.refl w6.heap.size w6).drew.trans hb7; have hB7 : Below w.heap.size w w7 := hB6.trans (hb67.mono hB6.size); clear hb7 hT7 hI7)
      | (go_at_call 16; refine (eqBoard_same _ _ ts _ _ q _ _ _ _ _ (by omega) (by omega) (by exact F7.out.1.2.2.1.tasks) (by exact F7.out.1.2.2.2.1.ints) (by exact F7.out.2.1) (by exact F7.out.2.2)).mono ?_; rintro e w8 ⟨rfl, hb8⟩; have hb68 : Below w6.heap.size w6 w8 := hb67.trans (hb8.mono hb67.size); have X8 := X6.later hb68; have x80 := X8.2.1; have x81 := X8.2.2; have F8 : Hid (LawF w2.heap.size w3.heap.size w4.heap.size w5.heap.size w8 to3 tc3 go3 qc3 R1 R2 t4 q4 ts q to5 tc5 go5 qc5) := F7.out.1.later hb8; have hB8 : Below w.heap.size w w8 := hB6.trans (hb68.mono hB6.size); clear hb8))
    all_goals
      have A8 := A6.later hb68
      have P8 := P6.later hb68
      have G8 := G6.later hb68
      have hs8 := hb68.size
      clear F6 F7 A6 P6 X6 G6 hb68 hb67 x70 x71 X7 z0 z1 z4 z5
      go_wp2_with fail
      refine (markBoard_any (w3.heap.size + 1) w4.heap.size (some ⟨t4, 0, none⟩) ts.length ts (some ⟨q4, 0, none⟩) q.length q w8 (by omega) (by omega) (by omega) F8.out.2.2.1 F8.out.2.2.2.1).mono ?_
      rintro e w9 ⟨rfl, _, _, hb9⟩
      have hB9 := hB8.trans ((hb9.below (by omega)).mono (by omega))
      have A9 := A8.between hb9 (.inl (by omega))
      have P9 := P8.between hb9 (.inl (by omega))
      have G9 := G8.between hb9 (.inr (by omega))
      have F9 := show Hid (FreshT w2.heap.size w3.heap.size w9 to3 tc3 R1 ∧ FreshI w2.heap.size w3.heap.size w9 go3 qc3 R2 ∧ FreshT (w4.heap.size + 1) w5.heap.size w9 to5 tc5 R1 ∧ FreshI (w4.heap.size + 1) w5.heap.size w9 go5 qc5 R2) from ⟨F8.out.1.between' hb9 (by omega), F8.out.2.1.between' hb9 (by omega), F8.out.2.2.2.2.1.between' hb9 (by omega), F8.out.2.2.2.2.2.between' hb9 (by omega)⟩
      have hs9 := hb9.size
      have p90 := P9.2.1
      have p91 := P9.2.2
      have g90 := G9.2.1
      have g91 := G9.2.2
      have hk0 : decide ((1 : Int) + 2 * (ts.length : Int) + (q.length : Int) < 0) = false := by simp; omega
      clear hb9 F8 A8 P8 G8 X8 x80 x81
      go_wp2_with fail
      refine (eqBoard_same to5 tc5 R1 go5 qc5 R2 to3 tc3 go3 qc3 w9 (by omega) (by omega) F9.out.2.2.1.tasks F9.out.2.2.2.ints F9.out.1.tasks F9.out.2.1.ints).mono ?_
      rintro e w10 ⟨rfl, hb10⟩
      have hB10 := hB9.trans (hb10.mono hB9.size)
      have A10 := A9.later hb10
      have P10 := P9.later hb10
      have G10 := G9.later hb10
      have hs10 := hb10.size
      have F10 := show Hid (FreshT w2.heap.size w3.heap.size w10 to3 tc3 R1 ∧ FreshI w2.heap.size w3.heap.size w10 go3 qc3 R2 ∧ FreshT (w4.heap.size + 1) w5.heap.size w10 to5 tc5 R1 ∧ FreshI (w4.heap.size + 1) w5.heap.size w10 go5 qc5 R2) from ⟨F9.out.1.later hb10, F9.out.2.1.later hb10, F9.out.2.2.1.later hb10, F9.out.2.2.2.later hb10⟩
      have u0 := G10.2.1
      have u1 := G10.2.2
      clear hb10 F9 A9 P9 G9 p90 p91 g90 g91
      go_wp2_with fail
      refine (markBoard_any (w4.heap.size + 1) w5.heap.size to5 tc5 R1 go5 qc5 R2 w10 (by omega) (by omega) (by omega) F10.out.2.2.1 F10.out.2.2.2).mono ?_
      rintro e w11 ⟨rfl, hT11, hI11, hb11⟩
      have hB11 := hB10.trans ((hb11.below (by omega)).mono (by omega))
      have A11 := A10.between hb11 (.inl (by omega))
      have P11 := P10.between hb11 (.inl (by omega))
      have G11 := G10.between hb11 (.inr (by omega))
      have hs11 := hb11.size
      have F11 := show Hid (FreshT w2.heap.size w3.heap.size w11 to3 tc3 R1 ∧ FreshI w2.heap.size w3.heap.size w11 go3 qc3 R2 ∧ FreshT (w4.heap.size + 1) w5.heap.size w11 to5 tc5 (markT 1 R1.length) ∧ FreshI (w4.heap.size + 1) w5.heap.size w11 go5 qc5 (markI (1 + 2 * R1.length) R2.length)) from ⟨F10.out.1.between' hb11 (by omega), F10.out.2.1.between' hb11 (by omega), hT11, hI11⟩
      have v0 := G11.2.1
      have v1 := G11.2.2
      clear hb11 hT11 hI11 F10 A10 P10 G10 u0 u1
      go_wp2_with fail
      refine (heldBoard_any to5 tc5 R1.length go5 qc5 R2.length w11 (by omega) (by omega) F11.out.2.2.1.tasks F11.out.2.2.2.ints).mono ?_
      rintro e w12 ⟨rfl, hb12⟩
      have hB12 := hB11.trans (hb12.mono hB11.size)
      have A12 := A11.later hb12
      have P12 := P11.later hb12
      have G12 := G11.later hb12
      have hs12 := hb12.size
      have F12 := show Hid (FreshT w2.heap.size w3.heap.size w12 to3 tc3 R1 ∧ FreshI w2.heap.size w3.heap.size w12 go3 qc3 R2 ∧ FreshT (w4.heap.size + 1) w5.heap.size w12 to5 tc5 (markT 1 R1.length) ∧ FreshI (w4.heap.size + 1) w5.heap.size w12 go5 qc5 (markI (1 + 2 * R1.length) R2.length)) from ⟨F11.out.1.later hb12, F11.out.2.1.later hb12, F11.out.2.2.1.later hb12, F11.out.2.2.2.later hb12⟩
      have o0 := A12.2.1
      have o1 := A12.2.2
      have hm0 : decide ((1 : Int) + 2 * (R1.length : Int) + (R2.length : Int) < 0) = false := by simp; omega
      have hm1 : ((1 : Int) + 2 * (R1.length : Int) + (R2.length : Int) != (1 : Int) + 2 * (R1.length : Int) + (R2.length : Int)) = false := by simp
      clear hb12 F11 A11 P11 G11 v0 v1
      go_wp2_with fail
      refine (toBoard_any ao cap ts qo qcap q w12 (by omega) (by omega) (hz.later hB12) (hq.later hB12)).mono ?_
      rintro e w13 ⟨t13, q13, rfl, _, hT13, hI13, hb13⟩
      have hB13 := hB12.trans (hb13.mono hB12.size)
      have P13 := P12.later hb13
      have G13 := G12.later hb13
      have hs13 := hb13.size
      have F13 := show Hid ((FreshT w2.heap.size w3.heap.size w13 to3 tc3 R1 ∧ FreshI w2.heap.size w3.heap.size w13 go3 qc3 R2 ∧ FreshT (w4.heap.size + 1) w5.heap.size w13 to5 tc5 (markT 1 R1.length) ∧ FreshI (w4.heap.size + 1) w5.heap.size w13 go5 qc5 (markI (1 + 2 * R1.length) R2.length)) ∧ TasksIn w13.heap.size w13 (some ⟨t13, 0, none⟩) ts ∧ IntsIn w13.heap.size w13 (some ⟨q13, 0, none⟩) q) from ⟨⟨F12.out.1.later hb13, F12.out.2.1.later hb13, F12.out.2.2.1.later hb13, F12.out.2.2.2.later hb13⟩, hT13.tasks, hI13.ints⟩
      clear hb13 F12 A12 P12 G12 o0 o1 hT13 hI13
      go_wp2_with fail
      refine (implPick_any (some ⟨t13, 0, none⟩) ts.length ts (some ⟨q13, 0, none⟩) q.length q iv w13 (by omega) (by omega) F13.out.2.1 F13.out.2.2).mono ?_
      rintro e w14 ⟨⟨to14, tc14, go14, qc14, rfl, hT14, hI14⟩, hb14⟩
      rw [HR.out] at hT14 hI14 ⊢
      dsimp only at hT14 hI14 ⊢
      have hB14 := hB13.trans (hb14.mono hB13.size)
      have P14 := P13.later hb14
      have G14 := G13.later hb14
      have hs14 := hb14.size
      have F14 := show Hid ((FreshT w2.heap.size w3.heap.size w14 to3 tc3 R1 ∧ FreshI w2.heap.size w3.heap.size w14 go3 qc3 R2 ∧ FreshT (w4.heap.size + 1) w5.heap.size w14 to5 tc5 (markT 1 R1.length) ∧ FreshI (w4.heap.size + 1) w5.heap.size w14 go5 qc5 (markI (1 + 2 * R1.length) R2.length)) ∧ TasksIn w14.heap.size w14 to14 R1 ∧ IntsIn w14.heap.size w14 go14 R2) from ⟨⟨F13.out.1.1.later hb14, F13.out.1.2.1.later hb14, F13.out.1.2.2.1.later hb14, F13.out.1.2.2.2.later hb14⟩, hT14.tasks, hI14.ints⟩
      have i0 := P14.2.1
      have i1 := P14.2.2
      have i2 := P14.1
      clear hb14 F13 P13 G13 hT14 hI14
      go_wp2_with fail
      refine (eqBoard_same to14 tc14 R1 go14 qc14 R2 to3 tc3 go3 qc3 _ (by omega) (by omega) (F14.out.2.1.later (below1 _ _)) (F14.out.2.2.later (below1 _ _)) (F14.out.1.1.tasks.later (below1 _ _)) (F14.out.1.2.1.ints.later (below1 _ _))).mono ?_
      rintro e w15 ⟨rfl, hb15⟩
      have hb1415 : Below w14.heap.size w14 w15 := (below1 w14 _).trans (hb15.mono (by simp))
      have hB15 := hB14.trans (hb1415.mono hB14.size)
      have G15 := G14.later hb1415
      have F15 := show Hid (TasksIn w15.heap.size w15 to5 (markT 1 R1.length) ∧ IntsIn w15.heap.size w15 go5 (markI (1 + 2 * R1.length) R2.length)) from ⟨(F14.out.1.2.2.1.later hb1415).tasks, (F14.out.1.2.2.2.later hb1415).ints⟩
      have j0 := G15.2.1
      have j1 := G15.2.2
      clear hb15 hb1415 F14 P14 G14 i0 i1 i2
      go_wp2_with fail
      refine (heldBoard_any to5 tc5 R1.length go5 qc5 R2.length w15 (by omega) (by omega) F15.out.1 F15.out.2).mono ?_
      rintro e w16 ⟨rfl, hb16⟩
      have hB16 := hB15.trans (hb16.mono hB15.size)
      clear hb16 F15 G15 j0 j1
      go_wp2
      go_ret
      exact ⟨rfl, hB16⟩
end Go.Proofs.Ytemmjkmaiedadaa
