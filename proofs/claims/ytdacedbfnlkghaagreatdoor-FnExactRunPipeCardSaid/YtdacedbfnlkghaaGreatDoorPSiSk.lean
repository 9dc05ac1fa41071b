
/- Stages: what the program finds good, and how many come out. No conditions but those written. Stages: GoodStage and FactorOf on both sides, and their laws' walks. No conditions but those written. Stages: what a stage makes of a value, on both sides. No conditions but those written. -/
import Derived.Test.YtdacedbfnlkghaaGreatDoorPAoSh
import Derived.Deep.Cut
namespace Go.Proofs.YtdacedbfnlkghaaGreatDoor
section
open Go.RowKit

set_option maxHeartbeats 4000000 in
theorem goodKind1_true (a b : Int) (w : World) (hg : goodSt 1 a b = true) :
  Calls Tryz.prog 94 #[.agg #[.int .i64 1, .int .i64 a, .int .i64 b]] w fun e w' => e = .returned (.tuple #[.agg #[.func (.func 144) #[] #[], .func (.func 145) #[] #[], .func (.func 146) #[] #[]], .bool true]) ∧ Below w.heap.size w w' := by
 have HG := hid hg;clear hg;obtain ⟨w0, hw0⟩ : ∃ w0, w0 = (w.alloc (.cells #[.int .i64 1, .int .i64 a, .int .i64 b] 24)).alloc (.cells #[.nilFunc, .nilFunc, .nilFunc] 147) := ⟨_, rfl⟩;have hB0 : Below w.heap.size w w0 := by rw [hw0]; exact below2 _ _ _
 have XS0 : Hid (Bx w0 w.heap.size [.int .i64 1, .int .i64 a, .int .i64 b]) := by rw [hw0]; exact Bx.alloc (Bx.new [.int .i64 1, .int .i64 a, .int .i64 b] _ rfl) _
 have XR0 : Hid (Bx w0 (w.heap.size + 1) [.nilFunc, .nilFunc, .nilFunc]) := by rw [hw0]; exact Bx.new [.nilFunc, .nilFunc, .nilFunc] _ (by simp)
 have H0 := hid hw0;clear hw0;go_enter Tryz.func94, Tryz.ntmps94;go_wp2_with fail;rw [← H0.out];refine (kindOf1_is a b w0).mono ?_;rintro e w1 ⟨rfl, hb1⟩;have hB1 := hB0.trans (hb1.mono hB0.size);have XS1 := hid ((XS0.out.later hb1).alloc (.cells #[.func (.func 144) #[] #[], .func (.func 145) #[] #[], .func (.func 146) #[] #[]] 147));have XR1 := hid ((XR0.out.later hb1).alloc (.cells #[.func (.func 144) #[] #[], .func (.func 145) #[] #[], .func (.func 146) #[] #[]] 147));have XK1 := hid (Bx.new (w := w1) (p := w1.heap.size) [.func (.func 144) #[] #[], .func (.func 145) #[] #[], .func (.func 146) #[] #[]] 147 rfl);have hB2 := Below.allocS hB1 (.cells #[.func (.func 144) #[] #[], .func (.func 145) #[] #[], .func (.func 146) #[] #[]] 147);clear XS0 XR0 hb1 hB1 hB0 H0;have s0 := XS1.out.c 0 rfl;have s1 := XS1.out.c 1 rfl;have s2 := XS1.out.c 2 rfl;have r0 := XR1.out.f 0 rfl;have r1 := XR1.out.f 1 rfl;have r2 := XR1.out.f 2 rfl;have k0 := XK1.out.c 0 rfl;have k1 := XK1.out.c 1 rfl;have k2 := XK1.out.c 2 rfl;have rz := XR1.out.size;go_wp2_with fail;clear s0 s1 s2 r0 r1 r2 k0 k1 k2 rz;refine (goodMap_is 1 a b _ true (HG.out)).mono ?_;rintro e w2 ⟨rfl, hw2⟩;have hb2 := below1 (w1.alloc (.cells #[.func (.func 144) #[] #[], .func (.func 145) #[] #[], .func (.func 146) #[] #[]] 147)) (.cells #[.int .i64 1, .int .i64 a, .int .i64 b] 24);rw [← hw2] at hb2;have HW2 := hid hw2;clear hw2;have XR2 := hid (XR1.out.later hb2);have XK2 := hid (XK1.out.later hb2);have hB3 := hB2.trans (hb2.mono hB2.size);clear XS1 XR1 XK1 hb2 hB2 HW2;have r0 := XR2.out.f 0 rfl;have r1 := XR2.out.f 1 rfl;have r2 := XR2.out.f 2 rfl;have c0 := XR2.out.c 0 rfl;have c1 := XR2.out.c 1 rfl;have c2 := XR2.out.c 2 rfl;have k0 := XK2.out.c 0 rfl;have k1 := XK2.out.c 1 rfl;have k2 := XK2.out.c 2 rfl;have rz := XR2.out.size;go_wp2;exact bodyPost_ret (v := .tuple #[.agg #[.func (.func 144) #[] #[], .func (.func 145) #[] #[], .func (.func 146) #[] #[]], .bool true]) (by simp [results, Tryz.results94, go_sem, c0, c1, c2]) rfl ⟨rfl, ((hB3.setCell (p := ⟨w.heap.size + 1, 0, none⟩) (by dsimp only; omega) _).setCell (p := ⟨w.heap.size + 1, 1, none⟩) (by dsimp only; omega) _).setCell (p := ⟨w.heap.size + 1, 2, none⟩) (by dsimp only; omega) _⟩
set_option maxHeartbeats 4000000 in
theorem goodKind1_false (a b : Int) (w : World) (hg : goodSt 1 a b = false) :
  Calls Tryz.prog 94 #[.agg #[.int .i64 1, .int .i64 a, .int .i64 b]] w fun e w' => e = .returned (.tuple #[.agg #[.nilFunc, .nilFunc, .nilFunc], .bool false]) ∧ Below w.heap.size w w' := by
 have HG := hid hg;clear hg;obtain ⟨w0, hw0⟩ : ∃ w0, w0 = (w.alloc (.cells #[.int .i64 1, .int .i64 a, .int .i64 b] 24)).alloc (.cells #[.nilFunc, .nilFunc, .nilFunc] 147) := ⟨_, rfl⟩;have hB0 : Below w.heap.size w w0 := by rw [hw0]; exact below2 _ _ _
 have XS0 : Hid (Bx w0 w.heap.size [.int .i64 1, .int .i64 a, .int .i64 b]) := by rw [hw0]; exact Bx.alloc (Bx.new [.int .i64 1, .int .i64 a, .int .i64 b] _ rfl) _
 have XR0 : Hid (Bx w0 (w.heap.size + 1) [.nilFunc, .nilFunc, .nilFunc]) := by rw [hw0]; exact Bx.new [.nilFunc, .nilFunc, .nilFunc] _ (by simp)
 have H0 := hid hw0;clear hw0;go_enter Tryz.func94, Tryz.ntmps94;go_wp2_with fail;rw [← H0.out];refine (kindOf1_is a b w0).mono ?_;rintro e w1 ⟨rfl, hb1⟩;have hB1 := hB0.trans (hb1.mono hB0.size);have XS1 := hid ((XS0.out.later hb1).alloc (.cells #[.func (.func 144) #[] #[], .func (.func 145) #[] #[], .func (.func 146) #[] #[]] 147));have XR1 := hid ((XR0.out.later hb1).alloc (.cells #[.func (.func 144) #[] #[], .func (.func 145) #[] #[], .func (.func 146) #[] #[]] 147));have XK1 := hid (Bx.new (w := w1) (p := w1.heap.size) [.func (.func 144) #[] #[], .func (.func 145) #[] #[], .func (.func 146) #[] #[]] 147 rfl);have hB2 := Below.allocS hB1 (.cells #[.func (.func 144) #[] #[], .func (.func 145) #[] #[], .func (.func 146) #[] #[]] 147);clear XS0 XR0 hb1 hB1 hB0 H0;have s0 := XS1.out.c 0 rfl;have s1 := XS1.out.c 1 rfl;have s2 := XS1.out.c 2 rfl;have r0 := XR1.out.f 0 rfl;have r1 := XR1.out.f 1 rfl;have r2 := XR1.out.f 2 rfl;have k0 := XK1.out.c 0 rfl;have k1 := XK1.out.c 1 rfl;have k2 := XK1.out.c 2 rfl;have rz := XR1.out.size;go_wp2_with fail;clear s0 s1 s2 r0 r1 r2 k0 k1 k2 rz;refine (goodMap_is 1 a b _ false (HG.out)).mono ?_;rintro e w2 ⟨rfl, hw2⟩;have hb2 := below1 (w1.alloc (.cells #[.func (.func 144) #[] #[], .func (.func 145) #[] #[], .func (.func 146) #[] #[]] 147)) (.cells #[.int .i64 1, .int .i64 a, .int .i64 b] 24);rw [← hw2] at hb2;have HW2 := hid hw2;clear hw2;have XR2 := hid (XR1.out.later hb2);have XK2 := hid (XK1.out.later hb2);have hB3 := hB2.trans (hb2.mono hB2.size);clear XS1 XR1 XK1 hb2 hB2 HW2;have r0 := XR2.out.f 0 rfl;have r1 := XR2.out.f 1 rfl;have r2 := XR2.out.f 2 rfl;have c0 := XR2.out.c 0 rfl;have c1 := XR2.out.c 1 rfl;have c2 := XR2.out.c 2 rfl;have k0 := XK2.out.c 0 rfl;have k1 := XK2.out.c 1 rfl;have k2 := XK2.out.c 2 rfl;have rz := XR2.out.size;go_wp2;exact bodyPost_ret (v := .tuple #[.agg #[.nilFunc, .nilFunc, .nilFunc], .bool false]) (by simp [results, Tryz.results94, go_sem, c0, c1, c2]) rfl ⟨rfl, ((hB3.setCell (p := ⟨w.heap.size + 1, 0, none⟩) (by dsimp only; omega) _).setCell (p := ⟨w.heap.size + 1, 1, none⟩) (by dsimp only; omega) _).setCell (p := ⟨w.heap.size + 1, 2, none⟩) (by dsimp only; omega) _⟩
set_option maxHeartbeats 4000000 in
theorem goodKind2_true (a b : Int) (w : World) (hg : goodSt 2 a b = true) :
  Calls Tryz.prog 94 #[.agg #[.int .i64 2, .int .i64 a, .int .i64 b]] w fun e w' => e = .returned (.tuple #[.agg #[.func (.func 147) #[] #[], .func (.func 148) #[] #[], .func (.func 146) #[] #[]], .bool true]) ∧ Below w.heap.size w w' := by
 have HG := hid hg;clear hg;obtain ⟨w0, hw0⟩ : ∃ w0, w0 = (w.alloc (.cells #[.int .i64 2, .int .i64 a, .int .i64 b] 24)).alloc (.cells #[.nilFunc, .nilFunc, .nilFunc] 147) := ⟨_, rfl⟩;have hB0 : Below w.heap.size w w0 := by rw [hw0]; exact below2 _ _ _
 have XS0 : Hid (Bx w0 w.heap.size [.int .i64 2, .int .i64 a, .int .i64 b]) := by rw [hw0]; exact Bx.alloc (Bx.new [.int .i64 2, .int .i64 a, .int .i64 b] _ rfl) _
 have XR0 : Hid (Bx w0 (w.heap.size + 1) [.nilFunc, .nilFunc, .nilFunc]) := by rw [hw0]; exact Bx.new [.nilFunc, .nilFunc, .nilFunc] _ (by simp)
 have H0 := hid hw0;clear hw0;go_enter Tryz.func94, Tryz.ntmps94;go_wp2_with fail;rw [← H0.out];refine (kindOf2_is a b w0).mono ?_;rintro e w1 ⟨rfl, hb1⟩;have hB1 := hB0.trans (hb1.mono hB0.size);have XS1 := hid ((XS0.out.later hb1).alloc (.cells #[.func (.func 147) #[] #[], .func (.func 148) #[] #[], .func (.func 146) #[] #[]] 147));have XR1 := hid ((XR0.out.later hb1).alloc (.cells #[.func (.func 147) #[] #[], .func (.func 148) #[] #[], .func (.func 146) #[] #[]] 147));have XK1 := hid (Bx.new (w := w1) (p := w1.heap.size) [.func (.func 147) #[] #[], .func (.func 148) #[] #[], .func (.func 146) #[] #[]] 147 rfl);have hB2 := Below.allocS hB1 (.cells #[.func (.func 147) #[] #[], .func (.func 148) #[] #[], .func (.func 146) #[] #[]] 147);clear XS0 XR0 hb1 hB1 hB0 H0;have s0 := XS1.out.c 0 rfl;have s1 := XS1.out.c 1 rfl;have s2 := XS1.out.c 2 rfl;have r0 := XR1.out.f 0 rfl;have r1 := XR1.out.f 1 rfl;have r2 := XR1.out.f 2 rfl;have k0 := XK1.out.c 0 rfl;have k1 := XK1.out.c 1 rfl;have k2 := XK1.out.c 2 rfl;have rz := XR1.out.size;go_wp2_with fail;clear s0 s1 s2 r0 r1 r2 k0 k1 k2 rz;refine (goodRest_is 2 a b _ true (HG.out)).mono ?_;rintro e w2 ⟨rfl, hw2⟩;have hb2 := below1 (w1.alloc (.cells #[.func (.func 147) #[] #[], .func (.func 148) #[] #[], .func (.func 146) #[] #[]] 147)) (.cells #[.int .i64 2, .int .i64 a, .int .i64 b] 24);rw [← hw2] at hb2;have HW2 := hid hw2;clear hw2;have XR2 := hid (XR1.out.later hb2);have XK2 := hid (XK1.out.later hb2);have hB3 := hB2.trans (hb2.mono hB2.size);clear XS1 XR1 XK1 hb2 hB2 HW2;have r0 := XR2.out.f 0 rfl;have r1 := XR2.out.f 1 rfl;have r2 := XR2.out.f 2 rfl;have c0 := XR2.out.c 0 rfl;have c1 := XR2.out.c 1 rfl;have c2 := XR2.out.c 2 rfl;have k0 := XK2.out.c 0 rfl;have k1 := XK2.out.c 1 rfl;have k2 := XK2.out.c 2 rfl;have rz := XR2.out.size;go_wp2;exact bodyPost_ret (v := .tuple #[.agg #[.func (.func 147) #[] #[], .func (.func 148) #[] #[], .func (.func 146) #[] #[]], .bool true]) (by simp [results, Tryz.results94, go_sem, c0, c1, c2]) rfl ⟨rfl, ((hB3.setCell (p := ⟨w.heap.size + 1, 0, none⟩) (by dsimp only; omega) _).setCell (p := ⟨w.heap.size + 1, 1, none⟩) (by dsimp only; omega) _).setCell (p := ⟨w.heap.size + 1, 2, none⟩) (by dsimp only; omega) _⟩
set_option maxHeartbeats 4000000 in
theorem goodKind2_false (a b : Int) (w : World) (hg : goodSt 2 a b = false) :
  Calls Tryz.prog 94 #[.agg #[.int .i64 2, .int .i64 a, .int .i64 b]] w fun e w' => e = .returned (.tuple #[.agg #[.nilFunc, .nilFunc, .nilFunc], .bool false]) ∧ Below w.heap.size w w' := by
 have HG := hid hg;clear hg;obtain ⟨w0, hw0⟩ : ∃ w0, w0 = (w.alloc (.cells #[.int .i64 2, .int .i64 a, .int .i64 b] 24)).alloc (.cells #[.nilFunc, .nilFunc, .nilFunc] 147) := ⟨_, rfl⟩;have hB0 : Below w.heap.size w w0 := by rw [hw0]; exact below2 _ _ _
 have XS0 : Hid (Bx w0 w.heap.size [.int .i64 2, .int .i64 a, .int .i64 b]) := by rw [hw0]; exact Bx.alloc (Bx.new [.int .i64 2, .int .i64 a, .int .i64 b] _ rfl) _
 have XR0 : Hid (Bx w0 (w.heap.size + 1) [.nilFunc, .nilFunc, .nilFunc]) := by rw [hw0]; exact Bx.new [.nilFunc, .nilFunc, .nilFunc] _ (by simp)
 have H0 := hid hw0;clear hw0;go_enter Tryz.func94, Tryz.ntmps94;go_wp2_with fail;rw [← H0.out];refine (kindOf2_is a b w0).mono ?_;rintro e w1 ⟨rfl, hb1⟩;have hB1 := hB0.trans (hb1.mono hB0.size);have XS1 := hid ((XS0.out.later hb1).alloc (.cells #[.func (.func 147) #[] #[], .func (.func 148) #[] #[], .func (.func 146) #[] #[]] 147));have XR1 := hid ((XR0.out.later hb1).alloc (.cells #[.func (.func 147) #[] #[], .func (.func 148) #[] #[], .func (.func 146) #[] #[]] 147));have XK1 := hid (Bx.new (w := w1) (p := w1.heap.size) [.func (.func 147) #[] #[], .func (.func 148) #[] #[], .func (.func 146) #[] #[]] 147 rfl);have hB2 := Below.allocS hB1 (.cells #[.func (.func 147) #[] #[], .func (.func 148) #[] #[], .func (.func 146) #[] #[]] 147);clear XS0 XR0 hb1 hB1 hB0 H0;have s0 := XS1.out.c 0 rfl;have s1 := XS1.out.c 1 rfl;have s2 := XS1.out.c 2 rfl;have r0 := XR1.out.f 0 rfl;have r1 := XR1.out.f 1 rfl;have r2 := XR1.out.f 2 rfl;have k0 := XK1.out.c 0 rfl;have k1 := XK1.out.c 1 rfl;have k2 := XK1.out.c 2 rfl;have rz := XR1.out.size;go_wp2_with fail;clear s0 s1 s2 r0 r1 r2 k0 k1 k2 rz;refine (goodRest_is 2 a b _ false (HG.out)).mono ?_;rintro e w2 ⟨rfl, hw2⟩;have hb2 := below1 (w1.alloc (.cells #[.func (.func 147) #[] #[], .func (.func 148) #[] #[], .func (.func 146) #[] #[]] 147)) (.cells #[.int .i64 2, .int .i64 a, .int .i64 b] 24);rw [← hw2] at hb2;have HW2 := hid hw2;clear hw2;have XR2 := hid (XR1.out.later hb2);have XK2 := hid (XK1.out.later hb2);have hB3 := hB2.trans (hb2.mono hB2.size);clear XS1 XR1 XK1 hb2 hB2 HW2;have r0 := XR2.out.f 0 rfl;have r1 := XR2.out.f 1 rfl;have r2 := XR2.out.f 2 rfl;have c0 := XR2.out.c 0 rfl;have c1 := XR2.out.c 1 rfl;have c2 := XR2.out.c 2 rfl;have k0 := XK2.out.c 0 rfl;have k1 := XK2.out.c 1 rfl;have k2 := XK2.out.c 2 rfl;have rz := XR2.out.size;go_wp2;exact bodyPost_ret (v := .tuple #[.agg #[.nilFunc, .nilFunc, .nilFunc], .bool false]) (by simp [results, Tryz.results94, go_sem, c0, c1, c2]) rfl ⟨rfl, ((hB3.setCell (p := ⟨w.heap.size + 1, 0, none⟩) (by dsimp only; omega) _).setCell (p := ⟨w.heap.size + 1, 1, none⟩) (by dsimp only; omega) _).setCell (p := ⟨w.heap.size + 1, 2, none⟩) (by dsimp only; omega) _⟩
set_option maxHeartbeats 4000000 in
theorem goodKind3_true (a b : Int) (w : World) (hg : goodSt 3 a b = true) :
  Calls Tryz.prog 94 #[.agg #[.int .i64 3, .int .i64 a, .int .i64 b]] w fun e w' => e = .returned (.tuple #[.agg #[.func (.func 149) #[] #[], .func (.func 150) #[] #[], .func (.func 151) #[] #[]], .bool true]) ∧ Below w.heap.size w w' := by
 have HG := hid hg;clear hg;obtain ⟨w0, hw0⟩ : ∃ w0, w0 = (w.alloc (.cells #[.int .i64 3, .int .i64 a, .int .i64 b] 24)).alloc (.cells #[.nilFunc, .nilFunc, .nilFunc] 147) := ⟨_, rfl⟩;have hB0 : Below w.heap.size w w0 := by rw [hw0]; exact below2 _ _ _
 have XS0 : Hid (Bx w0 w.heap.size [.int .i64 3, .int .i64 a, .int .i64 b]) := by rw [hw0]; exact Bx.alloc (Bx.new [.int .i64 3, .int .i64 a, .int .i64 b] _ rfl) _
 have XR0 : Hid (Bx w0 (w.heap.size + 1) [.nilFunc, .nilFunc, .nilFunc]) := by rw [hw0]; exact Bx.new [.nilFunc, .nilFunc, .nilFunc] _ (by simp)
 have H0 := hid hw0;clear hw0;go_enter Tryz.func94, Tryz.ntmps94;go_wp2_with fail;rw [← H0.out];refine (kindOf3_is a b w0).mono ?_;rintro e w1 ⟨rfl, hb1⟩;have hB1 := hB0.trans (hb1.mono hB0.size);have XS1 := hid ((XS0.out.later hb1).alloc (.cells #[.func (.func 149) #[] #[], .func (.func 150) #[] #[], .func (.func 151) #[] #[]] 147));have XR1 := hid ((XR0.out.later hb1).alloc (.cells #[.func (.func 149) #[] #[], .func (.func 150) #[] #[], .func (.func 151) #[] #[]] 147));have XK1 := hid (Bx.new (w := w1) (p := w1.heap.size) [.func (.func 149) #[] #[], .func (.func 150) #[] #[], .func (.func 151) #[] #[]] 147 rfl);have hB2 := Below.allocS hB1 (.cells #[.func (.func 149) #[] #[], .func (.func 150) #[] #[], .func (.func 151) #[] #[]] 147);clear XS0 XR0 hb1 hB1 hB0 H0;have s0 := XS1.out.c 0 rfl;have s1 := XS1.out.c 1 rfl;have s2 := XS1.out.c 2 rfl;have r0 := XR1.out.f 0 rfl;have r1 := XR1.out.f 1 rfl;have r2 := XR1.out.f 2 rfl;have k0 := XK1.out.c 0 rfl;have k1 := XK1.out.c 1 rfl;have k2 := XK1.out.c 2 rfl;have rz := XR1.out.size;go_wp2_with fail;clear s0 s1 s2 r0 r1 r2 k0 k1 k2 rz;refine (goodExpand_is 3 a b _ true (HG.out)).mono ?_;rintro e w2 ⟨rfl, hw2⟩;have hb2 := below1 (w1.alloc (.cells #[.func (.func 149) #[] #[], .func (.func 150) #[] #[], .func (.func 151) #[] #[]] 147)) (.cells #[.int .i64 3, .int .i64 a, .int .i64 b] 24);rw [← hw2] at hb2;have HW2 := hid hw2;clear hw2;have XR2 := hid (XR1.out.later hb2);have XK2 := hid (XK1.out.later hb2);have hB3 := hB2.trans (hb2.mono hB2.size);clear XS1 XR1 XK1 hb2 hB2 HW2;have r0 := XR2.out.f 0 rfl;have r1 := XR2.out.f 1 rfl;have r2 := XR2.out.f 2 rfl;have c0 := XR2.out.c 0 rfl;have c1 := XR2.out.c 1 rfl;have c2 := XR2.out.c 2 rfl;have k0 := XK2.out.c 0 rfl;have k1 := XK2.out.c 1 rfl;have k2 := XK2.out.c 2 rfl;have rz := XR2.out.size;go_wp2;exact bodyPost_ret (v := .tuple #[.agg #[.func (.func 149) #[] #[], .func (.func 150) #[] #[], .func (.func 151) #[] #[]], .bool true]) (by simp [results, Tryz.results94, go_sem, c0, c1, c2]) rfl ⟨rfl, ((hB3.setCell (p := ⟨w.heap.size + 1, 0, none⟩) (by dsimp only; omega) _).setCell (p := ⟨w.heap.size + 1, 1, none⟩) (by dsimp only; omega) _).setCell (p := ⟨w.heap.size + 1, 2, none⟩) (by dsimp only; omega) _⟩
set_option maxHeartbeats 4000000 in
theorem goodKind3_false (a b : Int) (w : World) (hg : goodSt 3 a b = false) :
  Calls Tryz.prog 94 #[.agg #[.int .i64 3, .int .i64 a, .int .i64 b]] w fun e w' => e = .returned (.tuple #[.agg #[.nilFunc, .nilFunc, .nilFunc], .bool false]) ∧ Below w.heap.size w w' := by
 have HG := hid hg;clear hg;obtain ⟨w0, hw0⟩ : ∃ w0, w0 = (w.alloc (.cells #[.int .i64 3, .int .i64 a, .int .i64 b] 24)).alloc (.cells #[.nilFunc, .nilFunc, .nilFunc] 147) := ⟨_, rfl⟩;have hB0 : Below w.heap.size w w0 := by rw [hw0]; exact below2 _ _ _
 have XS0 : Hid (Bx w0 w.heap.size [.int .i64 3, .int .i64 a, .int .i64 b]) := by rw [hw0]; exact Bx.alloc (Bx.new [.int .i64 3, .int .i64 a, .int .i64 b] _ rfl) _
 have XR0 : Hid (Bx w0 (w.heap.size + 1) [.nilFunc, .nilFunc, .nilFunc]) := by rw [hw0]; exact Bx.new [.nilFunc, .nilFunc, .nilFunc] _ (by simp)
 have H0 := hid hw0;clear hw0;go_enter Tryz.func94, Tryz.ntmps94;go_wp2_with fail;rw [← H0.out];refine (kindOf3_is a b w0).mono ?_;rintro e w1 ⟨rfl, hb1⟩;have hB1 := hB0.trans (hb1.mono hB0.size);have XS1 := hid ((XS0.out.later hb1).alloc (.cells #[.func (.func 149) #[] #[], .func (.func 150) #[] #[], .func (.func 151) #[] #[]] 147));have XR1 := hid ((XR0.out.later hb1).alloc (.cells #[.func (.func 149) #[] #[], .func (.func 150) #[] #[], .func (.func 151) #[] #[]] 147));have XK1 := hid (Bx.new (w := w1) (p := w1.heap.size) [.func (.func 149) #[] #[], .func (.func 150) #[] #[], .func (.func 151) #[] #[]] 147 rfl);have hB2 := Below.allocS hB1 (.cells #[.func (.func 149) #[] #[], .func (.func 150) #[] #[], .func (.func 151) #[] #[]] 147);clear XS0 XR0 hb1 hB1 hB0 H0;have s0 := XS1.out.c 0 rfl;have s1 := XS1.out.c 1 rfl;have s2 := XS1.out.c 2 rfl;have r0 := XR1.out.f 0 rfl;have r1 := XR1.out.f 1 rfl;have r2 := XR1.out.f 2 rfl;have k0 := XK1.out.c 0 rfl;have k1 := XK1.out.c 1 rfl;have k2 := XK1.out.c 2 rfl;have rz := XR1.out.size;go_wp2_with fail;clear s0 s1 s2 r0 r1 r2 k0 k1 k2 rz;refine (goodExpand_is 3 a b _ false (HG.out)).mono ?_;rintro e w2 ⟨rfl, hw2⟩;have hb2 := below1 (w1.alloc (.cells #[.func (.func 149) #[] #[], .func (.func 150) #[] #[], .func (.func 151) #[] #[]] 147)) (.cells #[.int .i64 3, .int .i64 a, .int .i64 b] 24);rw [← hw2] at hb2;have HW2 := hid hw2;clear hw2;have XR2 := hid (XR1.out.later hb2);have XK2 := hid (XK1.out.later hb2);have hB3 := hB2.trans (hb2.mono hB2.size);clear XS1 XR1 XK1 hb2 hB2 HW2;have r0 := XR2.out.f 0 rfl;have r1 := XR2.out.f 1 rfl;have r2 := XR2.out.f 2 rfl;have c0 := XR2.out.c 0 rfl;have c1 := XR2.out.c 1 rfl;have c2 := XR2.out.c 2 rfl;have k0 := XK2.out.c 0 rfl;have k1 := XK2.out.c 1 rfl;have k2 := XK2.out.c 2 rfl;have rz := XR2.out.size;go_wp2;exact bodyPost_ret (v := .tuple #[.agg #[.nilFunc, .nilFunc, .nilFunc], .bool false]) (by simp [results, Tryz.results94, go_sem, c0, c1, c2]) rfl ⟨rfl, ((hB3.setCell (p := ⟨w.heap.size + 1, 0, none⟩) (by dsimp only; omega) _).setCell (p := ⟨w.heap.size + 1, 1, none⟩) (by dsimp only; omega) _).setCell (p := ⟨w.heap.size + 1, 2, none⟩) (by dsimp only; omega) _⟩
set_option maxHeartbeats 4000000 in
theorem goodKind4_true (a b : Int) (w : World) (hg : goodSt 4 a b = true) :
  Calls Tryz.prog 94 #[.agg #[.int .i64 4, .int .i64 a, .int .i64 b]] w fun e w' => e = .returned (.tuple #[.agg #[.func (.func 147) #[] #[], .func (.func 152) #[] #[], .func (.func 146) #[] #[]], .bool true]) ∧ Below w.heap.size w w' := by
 have HG := hid hg;clear hg;obtain ⟨w0, hw0⟩ : ∃ w0, w0 = (w.alloc (.cells #[.int .i64 4, .int .i64 a, .int .i64 b] 24)).alloc (.cells #[.nilFunc, .nilFunc, .nilFunc] 147) := ⟨_, rfl⟩;have hB0 : Below w.heap.size w w0 := by rw [hw0]; exact below2 _ _ _
 have XS0 : Hid (Bx w0 w.heap.size [.int .i64 4, .int .i64 a, .int .i64 b]) := by rw [hw0]; exact Bx.alloc (Bx.new [.int .i64 4, .int .i64 a, .int .i64 b] _ rfl) _
 have XR0 : Hid (Bx w0 (w.heap.size + 1) [.nilFunc, .nilFunc, .nilFunc]) := by rw [hw0]; exact Bx.new [.nilFunc, .nilFunc, .nilFunc] _ (by simp)
 have H0 := hid hw0;clear hw0;go_enter Tryz.func94, Tryz.ntmps94;go_wp2_with fail;rw [← H0.out];refine (kindOf4_is a b w0).mono ?_;rintro e w1 ⟨rfl, hb1⟩;have hB1 := hB0.trans (hb1.mono hB0.size);have XS1 := hid ((XS0.out.later hb1).alloc (.cells #[.func (.func 147) #[] #[], .func (.func 152) #[] #[], .func (.func 146) #[] #[]] 147));have XR1 := hid ((XR0.out.later hb1).alloc (.cells #[.func (.func 147) #[] #[], .func (.func 152) #[] #[], .func (.func 146) #[] #[]] 147));have XK1 := hid (Bx.new (w := w1) (p := w1.heap.size) [.func (.func 147) #[] #[], .func (.func 152) #[] #[], .func (.func 146) #[] #[]] 147 rfl);have hB2 := Below.allocS hB1 (.cells #[.func (.func 147) #[] #[], .func (.func 152) #[] #[], .func (.func 146) #[] #[]] 147);clear XS0 XR0 hb1 hB1 hB0 H0;have s0 := XS1.out.c 0 rfl;have s1 := XS1.out.c 1 rfl;have s2 := XS1.out.c 2 rfl;have r0 := XR1.out.f 0 rfl;have r1 := XR1.out.f 1 rfl;have r2 := XR1.out.f 2 rfl;have k0 := XK1.out.c 0 rfl;have k1 := XK1.out.c 1 rfl;have k2 := XK1.out.c 2 rfl;have rz := XR1.out.size;go_wp2_with fail;clear s0 s1 s2 r0 r1 r2 k0 k1 k2 rz;refine (goodRest_is 4 a b _ true (HG.out)).mono ?_;rintro e w2 ⟨rfl, hw2⟩;have hb2 := below1 (w1.alloc (.cells #[.func (.func 147) #[] #[], .func (.func 152) #[] #[], .func (.func 146) #[] #[]] 147)) (.cells #[.int .i64 4, .int .i64 a, .int .i64 b] 24);rw [← hw2] at hb2;have HW2 := hid hw2;clear hw2;have XR2 := hid (XR1.out.later hb2);have XK2 := hid (XK1.out.later hb2);have hB3 := hB2.trans (hb2.mono hB2.size);clear XS1 XR1 XK1 hb2 hB2 HW2;have r0 := XR2.out.f 0 rfl;have r1 := XR2.out.f 1 rfl;have r2 := XR2.out.f 2 rfl;have c0 := XR2.out.c 0 rfl;have c1 := XR2.out.c 1 rfl;have c2 := XR2.out.c 2 rfl;have k0 := XK2.out.c 0 rfl;have k1 := XK2.out.c 1 rfl;have k2 := XK2.out.c 2 rfl;have rz := XR2.out.size;go_wp2;exact bodyPost_ret (v := .tuple #[.agg #[.func (.func 147) #[] #[], .func (.func 152) #[] #[], .func (.func 146) #[] #[]], .bool true]) (by simp [results, Tryz.results94, go_sem, c0, c1, c2]) rfl ⟨rfl, ((hB3.setCell (p := ⟨w.heap.size + 1, 0, none⟩) (by dsimp only; omega) _).setCell (p := ⟨w.heap.size + 1, 1, none⟩) (by dsimp only; omega) _).setCell (p := ⟨w.heap.size + 1, 2, none⟩) (by dsimp only; omega) _⟩
set_option maxHeartbeats 4000000 in
theorem goodKind4_false (a b : Int) (w : World) (hg : goodSt 4 a b = false) :
  Calls Tryz.prog 94 #[.agg #[.int .i64 4, .int .i64 a, .int .i64 b]] w fun e w' => e = .returned (.tuple #[.agg #[.nilFunc, .nilFunc, .nilFunc], .bool false]) ∧ Below w.heap.size w w' := by
 have HG := hid hg;clear hg;obtain ⟨w0, hw0⟩ : ∃ w0, w0 = (w.alloc (.cells #[.int .i64 4, .int .i64 a, .int .i64 b] 24)).alloc (.cells #[.nilFunc, .nilFunc, .nilFunc] 147) := ⟨_, rfl⟩;have hB0 : Below w.heap.size w w0 := by rw [hw0]; exact below2 _ _ _
 have XS0 : Hid (Bx w0 w.heap.size [.int .i64 4, .int .i64 a, .int .i64 b]) := by rw [hw0]; exact Bx.alloc (Bx.new [.int .i64 4, .int .i64 a, .int .i64 b] _ rfl) _
 have XR0 : Hid (Bx w0 (w.heap.size + 1) [.nilFunc, .nilFunc, .nilFunc]) := by rw [hw0]; exact Bx.new [.nilFunc, .nilFunc, .nilFunc] _ (by simp)
 have H0 := hid hw0;clear hw0;go_enter Tryz.func94, Tryz.ntmps94;go_wp2_with fail;rw [← H0.out];refine (kindOf4_is a b w0).mono ?_;rintro e w1 ⟨rfl, hb1⟩;have hB1 := hB0.trans (hb1.mono hB0.size);have XS1 := hid ((XS0.out.later hb1).alloc (.cells #[.func (.func 147) #[] #[], .func (.func 152) #[] #[], .func (.func 146) #[] #[]] 147));have XR1 := hid ((XR0.out.later hb1).alloc (.cells #[.func (.func 147) #[] #[], .func (.func 152) #[] #[], .func (.func 146) #[] #[]] 147));have XK1 := hid (Bx.new (w := w1) (p := w1.heap.size) [.func (.func 147) #[] #[], .func (.func 152) #[] #[], .func (.func 146) #[] #[]] 147 rfl);have hB2 := Below.allocS hB1 (.cells #[.func (.func 147) #[] #[], .func (.func 152) #[] #[], .func (.func 146) #[] #[]] 147);clear XS0 XR0 hb1 hB1 hB0 H0;have s0 := XS1.out.c 0 rfl;have s1 := XS1.out.c 1 rfl;have s2 := XS1.out.c 2 rfl;have r0 := XR1.out.f 0 rfl;have r1 := XR1.out.f 1 rfl;have r2 := XR1.out.f 2 rfl;have k0 := XK1.out.c 0 rfl;have k1 := XK1.out.c 1 rfl;have k2 := XK1.out.c 2 rfl;have rz := XR1.out.size;go_wp2_with fail;clear s0 s1 s2 r0 r1 r2 k0 k1 k2 rz;refine (goodRest_is 4 a b _ false (HG.out)).mono ?_;rintro e w2 ⟨rfl, hw2⟩;have hb2 := below1 (w1.alloc (.cells #[.func (.func 147) #[] #[], .func (.func 152) #[] #[], .func (.func 146) #[] #[]] 147)) (.cells #[.int .i64 4, .int .i64 a, .int .i64 b] 24);rw [← hw2] at hb2;have HW2 := hid hw2;clear hw2;have XR2 := hid (XR1.out.later hb2);have XK2 := hid (XK1.out.later hb2);have hB3 := hB2.trans (hb2.mono hB2.size);clear XS1 XR1 XK1 hb2 hB2 HW2;have r0 := XR2.out.f 0 rfl;have r1 := XR2.out.f 1 rfl;have r2 := XR2.out.f 2 rfl;have c0 := XR2.out.c 0 rfl;have c1 := XR2.out.c 1 rfl;have c2 := XR2.out.c 2 rfl;have k0 := XK2.out.c 0 rfl;have k1 := XK2.out.c 1 rfl;have k2 := XK2.out.c 2 rfl;have rz := XR2.out.size;go_wp2;exact bodyPost_ret (v := .tuple #[.agg #[.nilFunc, .nilFunc, .nilFunc], .bool false]) (by simp [results, Tryz.results94, go_sem, c0, c1, c2]) rfl ⟨rfl, ((hB3.setCell (p := ⟨w.heap.size + 1, 0, none⟩) (by dsimp only; omega) _).setCell (p := ⟨w.heap.size + 1, 1, none⟩) (by dsimp only; omega) _).setCell (p := ⟨w.heap.size + 1, 2, none⟩) (by dsimp only; omega) _⟩
set_option maxHeartbeats 4000000 in
theorem goodKind0 (k a b : Int) (w : World) (h1 : k ≠ 1) (h2 : k ≠ 2) (h3 : k ≠ 3) (h4 : k ≠ 4) :
  Calls Tryz.prog 94 #[.agg #[.int .i64 k, .int .i64 a, .int .i64 b]] w fun e w' => e = .returned (.tuple #[.agg #[.nilFunc, .nilFunc, .nilFunc], .bool false]) ∧ Below w.heap.size w w' := by
 obtain ⟨w0, hw0⟩ : ∃ w0, w0 = (w.alloc (.cells #[.int .i64 k, .int .i64 a, .int .i64 b] 24)).alloc (.cells #[.nilFunc, .nilFunc, .nilFunc] 147) := ⟨_, rfl⟩;have hB0 : Below w.heap.size w w0 := by rw [hw0]; exact below2 _ _ _
 have XR0 : Hid (Bx w0 (w.heap.size + 1) [.nilFunc, .nilFunc, .nilFunc]) := by rw [hw0]; exact Bx.new [.nilFunc, .nilFunc, .nilFunc] _ (by simp)
 have H0 := hid hw0;clear hw0;go_enter Tryz.func94, Tryz.ntmps94;go_wp2_with fail;rw [← H0.out];refine (kindOf0_is k a b w0 h1 h2 h3 h4).mono ?_;rintro e w1 ⟨rfl, hb1⟩;have hB1 := hB0.trans (hb1.mono hB0.size);have XR1 := hid ((XR0.out.later hb1).alloc (.cells #[.nilFunc, .nilFunc, .nilFunc] 147));have hB2 := Below.allocS hB1 (.cells #[.nilFunc, .nilFunc, .nilFunc] 147);clear XR0 hb1 hB1 hB0 H0;have r0 := XR1.out.f 0 rfl;have r1 := XR1.out.f 1 rfl;have r2 := XR1.out.f 2 rfl;have c0 := XR1.out.c 0 rfl;have c1 := XR1.out.c 1 rfl;have c2 := XR1.out.c 2 rfl;have rz := XR1.out.size;go_wp2;exact bodyPost_ret (v := .tuple #[.agg #[.nilFunc, .nilFunc, .nilFunc], .bool false]) (by simp [results, Tryz.results94, go_sem, c0, c1, c2]) rfl ⟨rfl, ((hB2.setCell (p := ⟨w.heap.size + 1, 0, none⟩) (by dsimp only; omega) _).setCell (p := ⟨w.heap.size + 1, 1, none⟩) (by dsimp only; omega) _).setCell (p := ⟨w.heap.size + 1, 2, none⟩) (by dsimp only; omega) _⟩
theorem goodKind_no (k a b : Int) (w : World) (hg : goodSt k a b = false) :
  Calls Tryz.prog 94 #[.agg #[.int .i64 k, .int .i64 a, .int .i64 b]] w fun e w' => e = .returned (.tuple #[.agg #[.nilFunc, .nilFunc, .nilFunc], .bool false]) ∧ Below w.heap.size w w' := by
 rcases kinds k with rfl | rfl | rfl | rfl | ⟨h1, h2, h3, h4⟩
 ·exact goodKind1_false a b w hg
 ·exact goodKind2_false a b w hg
 ·exact goodKind3_false a b w hg
 ·exact goodKind4_false a b w hg
 ·exact goodKind0 k a b w h1 h2 h3 h4
end
section
open Go.RowKit

set_option maxHeartbeats 2000000 in
theorem implGood1 (a b : Int) (w : World) (hg : goodSt 1 a b = true) :
  Calls Tryz.prog 65 #[.agg #[.int .i64 1, .int .i64 a, .int .i64 b]] w fun e w' => e = .returned (.bool true) ∧ Below w.heap.size w w' := by
 go_enter Tryz.func65, Tryz.ntmps65;go_wp2_with fail;refine (goodKind1_true a b _ hg).mono ?_;rintro e w1 ⟨rfl, hb1⟩;have hB1 := (below1 w (.cells #[.int .i64 1, .int .i64 a, .int .i64 b] 24)).trans (hb1.mono (by simp));clear hb1;go_wp2;go_ret;exact ⟨rfl, Below.allocS hB1 _⟩
set_option maxHeartbeats 2000000 in
theorem implGood2 (a b : Int) (w : World) (hg : goodSt 2 a b = true) :
  Calls Tryz.prog 65 #[.agg #[.int .i64 2, .int .i64 a, .int .i64 b]] w fun e w' => e = .returned (.bool true) ∧ Below w.heap.size w w' := by
 go_enter Tryz.func65, Tryz.ntmps65;go_wp2_with fail;refine (goodKind2_true a b _ hg).mono ?_;rintro e w1 ⟨rfl, hb1⟩;have hB1 := (below1 w (.cells #[.int .i64 2, .int .i64 a, .int .i64 b] 24)).trans (hb1.mono (by simp));clear hb1;go_wp2;go_ret;exact ⟨rfl, Below.allocS hB1 _⟩
set_option maxHeartbeats 2000000 in
theorem implGood3 (a b : Int) (w : World) (hg : goodSt 3 a b = true) :
  Calls Tryz.prog 65 #[.agg #[.int .i64 3, .int .i64 a, .int .i64 b]] w fun e w' => e = .returned (.bool true) ∧ Below w.heap.size w w' := by
 go_enter Tryz.func65, Tryz.ntmps65;go_wp2_with fail;refine (goodKind3_true a b _ hg).mono ?_;rintro e w1 ⟨rfl, hb1⟩;have hB1 := (below1 w (.cells #[.int .i64 3, .int .i64 a, .int .i64 b] 24)).trans (hb1.mono (by simp));clear hb1;go_wp2;go_ret;exact ⟨rfl, Below.allocS hB1 _⟩
set_option maxHeartbeats 2000000 in
theorem implGood4 (a b : Int) (w : World) (hg : goodSt 4 a b = true) :
  Calls Tryz.prog 65 #[.agg #[.int .i64 4, .int .i64 a, .int .i64 b]] w fun e w' => e = .returned (.bool true) ∧ Below w.heap.size w w' := by
 go_enter Tryz.func65, Tryz.ntmps65;go_wp2_with fail;refine (goodKind4_true a b _ hg).mono ?_;rintro e w1 ⟨rfl, hb1⟩;have hB1 := (below1 w (.cells #[.int .i64 4, .int .i64 a, .int .i64 b] 24)).trans (hb1.mono (by simp));clear hb1;go_wp2;go_ret;exact ⟨rfl, Below.allocS hB1 _⟩
set_option maxHeartbeats 2000000 in
theorem implGood0 (k a b : Int) (w : World) (hg : goodSt k a b = false) :
  Calls Tryz.prog 65 #[.agg #[.int .i64 k, .int .i64 a, .int .i64 b]] w fun e w' => e = .returned (.bool false) ∧ Below w.heap.size w w' := by
 go_enter Tryz.func65, Tryz.ntmps65;go_wp2_with fail;refine (goodKind_no k a b _ hg).mono ?_;rintro e w1 ⟨rfl, hb1⟩;have hB1 := (below1 w (.cells #[.int .i64 k, .int .i64 a, .int .i64 b] 24)).trans (hb1.mono (by simp));clear hb1;go_wp2;go_ret;exact ⟨rfl, Below.allocS hB1 _⟩
theorem implGood_is (k a b : Int) (w : World) (r : Bool) (hg : goodSt k a b = r) :
  Calls Tryz.prog 65 #[.agg #[.int .i64 k, .int .i64 a, .int .i64 b]] w fun e w' => e = .returned (.bool r) ∧ Below w.heap.size w w' := by
 cases r with
 | false => exact implGood0 k a b w hg
 | true =>
  rcases kinds k with rfl | rfl | rfl | rfl | ⟨h1, h2, h3, h4⟩
  ·exact implGood1 a b w hg
  ·exact implGood2 a b w hg
  ·exact implGood3 a b w hg
  ·exact implGood4 a b w hg
  ·rw [goodSt0 h1 h2 h3 h4] at hg; cases hg
/-- How many come out at most. -/
def factI (k a b : Int) : Int := if goodSt k a b = true then (if k = 3 then a else 1) else 0
set_option maxHeartbeats 2000000 in
theorem atMostOne_is (k a b : Int) (w : World) :
  Calls Tryz.prog 146 #[.agg #[.int .i64 k, .int .i64 a, .int .i64 b]] w fun e w' => e = .returned (.int .i64 1) ∧ Below w.heap.size w w' := by
 go_enter Tryz.func146, Tryz.ntmps146;go_wp2;go_ret;exact ⟨rfl, below1 _ _⟩
set_option maxHeartbeats 2000000 in
theorem expandedTo_is (k a b : Int) (w : World) :
  Calls Tryz.prog 151 #[.agg #[.int .i64 k, .int .i64 a, .int .i64 b]] w fun e w' => e = .returned (.int .i64 a) ∧ Below w.heap.size w w' := by
 go_enter Tryz.func151, Tryz.ntmps151;go_wp2;go_ret;exact ⟨rfl, below1 _ _⟩
set_option maxHeartbeats 2000000 in
theorem implFact0 (k a b : Int) (w : World) (hg : goodSt k a b = false) :
  Calls Tryz.prog 195 #[.agg #[.int .i64 k, .int .i64 a, .int .i64 b]] w fun e w' => e = .returned (.int .i64 0) ∧ Below w.heap.size w w' := by
 go_enter Tryz.func195, Tryz.ntmps195;go_wp2_with fail;refine (goodKind_no k a b _ hg).mono ?_;rintro e w1 ⟨rfl, hb1⟩;have hB1 := (below1 w (.cells #[.int .i64 k, .int .i64 a, .int .i64 b] 24)).trans (hb1.mono (by simp));clear hb1;go_wp2;go_ret;exact ⟨rfl, Below.allocS hB1 _⟩
set_option maxHeartbeats 2000000 in
theorem implFact1 (a b : Int) (w : World) (hg : goodSt 1 a b = true) :
  Calls Tryz.prog 195 #[.agg #[.int .i64 1, .int .i64 a, .int .i64 b]] w fun e w' => e = .returned (.int .i64 1) ∧ Below w.heap.size w w' := by
 go_enter Tryz.func195, Tryz.ntmps195;go_wp2_with fail;refine (goodKind1_true a b _ hg).mono ?_;rintro e w1 ⟨rfl, hb1⟩;have hB1 := Below.allocS ((below1 w (.cells #[.int .i64 1, .int .i64 a, .int .i64 b] 24)).trans (hb1.mono (by simp))) (.cells #[.func (.func 144) #[] #[], .func (.func 145) #[] #[], .func (.func 146) #[] #[]] 147);have XS := hid (((Bx.new (w := w) (p := w.heap.size) [.int .i64 1, .int .i64 a, .int .i64 b] 24 rfl).later hb1).alloc (.cells #[.func (.func 144) #[] #[], .func (.func 145) #[] #[], .func (.func 146) #[] #[]] 147));have XK := hid (Bx.new (w := w1) (p := w1.heap.size) [.func (.func 144) #[] #[], .func (.func 145) #[] #[], .func (.func 146) #[] #[]] 147 rfl);clear hb1;have s0 := XS.out.c 0 rfl;have s1 := XS.out.c 1 rfl;have s2 := XS.out.c 2 rfl;have k0 := XK.out.c 0 rfl;have k1 := XK.out.c 1 rfl;have k2 := XK.out.c 2 rfl;go_wp2_with fail;refine (atMostOne_is 1 a b _).mono ?_;rintro e w2 ⟨rfl, hb2⟩;have hB2 := hB1.trans (hb2.mono hB1.size);clear hb2 hB1 XS XK s0 s1 s2 k0 k1 k2;go_wp2;go_ret;exact ⟨rfl, hB2⟩
set_option maxHeartbeats 2000000 in
theorem implFact2 (a b : Int) (w : World) (hg : goodSt 2 a b = true) :
  Calls Tryz.prog 195 #[.agg #[.int .i64 2, .int .i64 a, .int .i64 b]] w fun e w' => e = .returned (.int .i64 1) ∧ Below w.heap.size w w' := by
 go_enter Tryz.func195, Tryz.ntmps195;go_wp2_with fail;refine (goodKind2_true a b _ hg).mono ?_;rintro e w1 ⟨rfl, hb1⟩;have hB1 := Below.allocS ((below1 w (.cells #[.int .i64 2, .int .i64 a, .int .i64 b] 24)).trans (hb1.mono (by simp))) (.cells #[.func (.func 147) #[] #[], .func (.func 148) #[] #[], .func (.func 146) #[] #[]] 147);have XS := hid (((Bx.new (w := w) (p := w.heap.size) [.int .i64 2, .int .i64 a, .int .i64 b] 24 rfl).later hb1).alloc (.cells #[.func (.func 147) #[] #[], .func (.func 148) #[] #[], .func (.func 146) #[] #[]] 147));have XK := hid (Bx.new (w := w1) (p := w1.heap.size) [.func (.func 147) #[] #[], .func (.func 148) #[] #[], .func (.func 146) #[] #[]] 147 rfl);clear hb1;have s0 := XS.out.c 0 rfl;have s1 := XS.out.c 1 rfl;have s2 := XS.out.c 2 rfl;have k0 := XK.out.c 0 rfl;have k1 := XK.out.c 1 rfl;have k2 := XK.out.c 2 rfl;go_wp2_with fail;refine (atMostOne_is 2 a b _).mono ?_;rintro e w2 ⟨rfl, hb2⟩;have hB2 := hB1.trans (hb2.mono hB1.size);clear hb2 hB1 XS XK s0 s1 s2 k0 k1 k2;go_wp2;go_ret;exact ⟨rfl, hB2⟩
set_option maxHeartbeats 2000000 in
theorem implFact3 (a b : Int) (w : World) (hg : goodSt 3 a b = true) :
  Calls Tryz.prog 195 #[.agg #[.int .i64 3, .int .i64 a, .int .i64 b]] w fun e w' => e = .returned (.int .i64 a) ∧ Below w.heap.size w w' := by
 go_enter Tryz.func195, Tryz.ntmps195;go_wp2_with fail;refine (goodKind3_true a b _ hg).mono ?_;rintro e w1 ⟨rfl, hb1⟩;have hB1 := Below.allocS ((below1 w (.cells #[.int .i64 3, .int .i64 a, .int .i64 b] 24)).trans (hb1.mono (by simp))) (.cells #[.func (.func 149) #[] #[], .func (.func 150) #[] #[], .func (.func 151) #[] #[]] 147);have XS := hid (((Bx.new (w := w) (p := w.heap.size) [.int .i64 3, .int .i64 a, .int .i64 b] 24 rfl).later hb1).alloc (.cells #[.func (.func 149) #[] #[], .func (.func 150) #[] #[], .func (.func 151) #[] #[]] 147));have XK := hid (Bx.new (w := w1) (p := w1.heap.size) [.func (.func 149) #[] #[], .func (.func 150) #[] #[], .func (.func 151) #[] #[]] 147 rfl);clear hb1;have s0 := XS.out.c 0 rfl;have s1 := XS.out.c 1 rfl;have s2 := XS.out.c 2 rfl;have k0 := XK.out.c 0 rfl;have k1 := XK.out.c 1 rfl;have k2 := XK.out.c 2 rfl;go_wp2_with fail;refine (expandedTo_is 3 a b _).mono ?_;rintro e w2 ⟨rfl, hb2⟩;have hB2 := hB1.trans (hb2.mono hB1.size);clear hb2 hB1 XS XK s0 s1 s2 k0 k1 k2;go_wp2;go_ret;exact ⟨rfl, hB2⟩
set_option maxHeartbeats 2000000 in
theorem implFact4 (a b : Int) (w : World) (hg : goodSt 4 a b = true) :
  Calls Tryz.prog 195 #[.agg #[.int .i64 4, .int .i64 a, .int .i64 b]] w fun e w' => e = .returned (.int .i64 1) ∧ Below w.heap.size w w' := by
 go_enter Tryz.func195, Tryz.ntmps195;go_wp2_with fail;refine (goodKind4_true a b _ hg).mono ?_;rintro e w1 ⟨rfl, hb1⟩;have hB1 := Below.allocS ((below1 w (.cells #[.int .i64 4, .int .i64 a, .int .i64 b] 24)).trans (hb1.mono (by simp))) (.cells #[.func (.func 147) #[] #[], .func (.func 152) #[] #[], .func (.func 146) #[] #[]] 147);have XS := hid (((Bx.new (w := w) (p := w.heap.size) [.int .i64 4, .int .i64 a, .int .i64 b] 24 rfl).later hb1).alloc (.cells #[.func (.func 147) #[] #[], .func (.func 152) #[] #[], .func (.func 146) #[] #[]] 147));have XK := hid (Bx.new (w := w1) (p := w1.heap.size) [.func (.func 147) #[] #[], .func (.func 152) #[] #[], .func (.func 146) #[] #[]] 147 rfl);clear hb1;have s0 := XS.out.c 0 rfl;have s1 := XS.out.c 1 rfl;have s2 := XS.out.c 2 rfl;have k0 := XK.out.c 0 rfl;have k1 := XK.out.c 1 rfl;have k2 := XK.out.c 2 rfl;go_wp2_with fail;refine (atMostOne_is 4 a b _).mono ?_;rintro e w2 ⟨rfl, hb2⟩;have hB2 := hB1.trans (hb2.mono hB1.size);clear hb2 hB1 XS XK s0 s1 s2 k0 k1 k2;go_wp2;go_ret;exact ⟨rfl, hB2⟩
theorem implFact_is (k a b : Int) (w : World) (z : Int) (hz : factI k a b = z) :
  Calls Tryz.prog 195 #[.agg #[.int .i64 k, .int .i64 a, .int .i64 b]] w fun e w' => e = .returned (.int .i64 z) ∧ Below w.heap.size w w' := by
 subst hz
 unfold factI
 rcases hg : goodSt k a b with _ | _
 ·exact implFact0 k a b w hg
 ·rw [if_pos rfl]
  rcases kinds k with rfl | rfl | rfl | rfl | ⟨h1, h2, h3, h4⟩
  ·exact implFact1 a b w hg
  ·exact implFact2 a b w hg
  ·exact implFact3 a b w hg
  ·exact implFact4 a b w hg
  ·rw [goodSt0 h1 h2 h3 h4] at hg; cases hg
set_option maxHeartbeats 2000000 in
theorem specFact_is (k a b : Int) (w : World) (z : Int) (hz : factI k a b = z) :
  Calls Tryz.prog 212 #[.agg #[.int .i64 k, .int .i64 a, .int .i64 b]] w fun e w' => e = .returned (.int .i64 z) ∧ Below w.heap.size w w' := by
 subst hz
 unfold factI
 rcases hg : goodSt k a b with _ | _
 ·have HG := hid hg;clear hg;go_enter Tryz.func212, Tryz.ntmps212;go_wp2_with fail;refine (specGood_is k a b _ _ HG.out).mono ?_;rintro e w1 ⟨rfl, hw1⟩;rw [hw1]; clear hw1 w1
  go_wp2;go_ret;exact ⟨rfl, below2 _ _ _⟩
 ·have HG := hid hg;clear hg;rw [if_pos rfl]
  by_cases h3 : k = 3
  ·subst h3;go_enter Tryz.func212, Tryz.ntmps212;go_wp2_with fail;refine (specGood_is 3 a b _ _ HG.out).mono ?_;rintro e w1 ⟨rfl, hw1⟩;rw [hw1]; clear hw1 w1
   go_wp2;go_ret;exact ⟨rfl, below2 _ _ _⟩
  ·have k3 : (k == 3) = false := by simpa using h3
   rw [if_neg h3];clear h3;go_enter Tryz.func212, Tryz.ntmps212;go_wp2_with fail;refine (specGood_is k a b _ _ HG.out).mono ?_;rintro e w1 ⟨rfl, hw1⟩;rw [hw1]; clear hw1 w1
   go_wp2;go_ret;exact ⟨rfl, below2 _ _ _⟩
end
section
open Go.RowKit

theorem mod_neg (a n : Int) (hn : 0 < n) (h : a.tmod n < 0) : a % n = a.tmod n + n := by
 have h2 : -n < a.tmod n := by have := Int.lt_tmod_of_pos a hn; omega
 have e : a = n * a.tdiv n + a.tmod n := (Int.mul_tdiv_add_tmod a n).symm;have : a % n = (a.tmod n + n) % n := by
  conv => lhs; rw [e]
  rw [Int.add_emod_right, Int.mul_add_emod_self_left]
 rw [this, Int.emod_eq_of_lt (by omega) (by omega)]
theorem mod_pos (a n : Int) (hn : 0 < n) (h : ¬ a.tmod n < 0) : a % n = a.tmod n := by
 have h1 : a.tmod n < n := Int.tmod_lt_of_pos a hn;have e : a = n * a.tdiv n + a.tmod n := (Int.mul_tdiv_add_tmod a n).symm;have : a % n = (a.tmod n) % n := by
  conv => lhs; rw [e]
  rw [Int.mul_add_emod_self_left]
 rw [this, Int.emod_eq_of_lt (by omega) (by omega)]
set_option maxHeartbeats 1000000 in
theorem l1Mod_is (a n : Int) (w : World) (z : Int) (hz : a % n = z) (hn : 0 < n) (hn2 : n ≤ 1048576) :
  Calls Tryz.prog 253 #[.int .i64 a, .int .i64 n] w fun e w' => e = .returned (.int .i64 z) ∧ w' = w := by
 subst hz;have h1 : a.tmod n < n := Int.tmod_lt_of_pos a hn;have h2 : -n < a.tmod n := by have := Int.lt_tmod_of_pos a hn; omega
 have hne : n ≠ 0 := by omega
 go_enter Tryz.func253, Tryz.ntmps253
 by_cases h : a.tmod n < 0
 ·rw [mod_neg a n hn h];go_wp2;go_ret;exact ⟨rfl, rfl⟩
 ·rw [mod_pos a n hn h];go_wp2;go_ret;exact ⟨rfl, rfl⟩
set_option maxHeartbeats 1000000 in
theorem modulo_is (a n : Int) (w : World) (z : Int) (hz : a % n = z) (hn : 0 < n) (hn2 : n ≤ 1048576) :
  Calls Tryz.prog 188 #[.int .i64 a, .int .i64 n] w fun e w' => e = .returned (.int .i64 z) ∧ w' = w := by
 subst hz;have h1 : a.tmod n < n := Int.tmod_lt_of_pos a hn;have h2 : -n < a.tmod n := by have := Int.lt_tmod_of_pos a hn; omega
 have hne : n ≠ 0 := by omega
 go_enter Tryz.func188, Tryz.ntmps188
 by_cases h : a.tmod n < 0
 ·rw [mod_neg a n hn h];go_wp2;go_ret;exact ⟨rfl, rfl⟩
 ·rw [mod_pos a n hn h];go_wp2;go_ret;exact ⟨rfl, rfl⟩
/-- A number cut to the values. -/
def cutI (n : Int) : Int := if n > 1000000 then 1000000 else if n < -1000000 then -1000000 else n
theorem cutI_val (n : Int) : valB (cutI n) = true := by
 unfold cutI valB
 split
 ·decide
 ·split
  ·decide
  ·simp; omega
set_option maxHeartbeats 1000000 in
theorem l7Cut_is (n : Int) (w : World) (z : Int) (hz : cutI n = z) :
  Calls Tryz.prog 252 #[.int .i64 n] w fun e w' => e = .returned (.int .i64 z) ∧ w' = w := by
 subst hz
 unfold cutI
 by_cases h : n > 1000000
 ·rw [if_pos h];have h' : decide (1000000 < n) = true := by simpa using h
  go_enter Tryz.func252, Tryz.ntmps252;go_wp2;go_ret;exact ⟨rfl, rfl⟩
 ·rw [if_neg h]
  by_cases h2 : n < -1000000
  ·rw [if_pos h2];go_enter Tryz.func252, Tryz.ntmps252;go_wp2;go_ret;exact ⟨rfl, rfl⟩
  ·rw [if_neg h2];go_enter Tryz.func252, Tryz.ntmps252;go_wp2;go_ret;exact ⟨rfl, rfl⟩
set_option maxHeartbeats 1000000 in
theorem cutTo_is (n : Int) (w : World) (z : Int) (hz : cutI n = z) :
  Calls Tryz.prog 187 #[.int .i64 n] w fun e w' => e = .returned (.int .i64 z) ∧ w' = w := by
 subst hz
 unfold cutI
 by_cases h : n > 1000000
 ·rw [if_pos h];go_enter Tryz.func187, Tryz.ntmps187;go_wp2
  all_goals go_ret
  all_goals exact ⟨ret_int (by omega), rfl⟩
 ·rw [if_neg h]
  by_cases h2 : n < -1000000
  ·rw [if_pos h2];go_enter Tryz.func187, Tryz.ntmps187;go_wp2
   all_goals go_ret
   all_goals exact ⟨ret_int (by omega), rfl⟩
  ·rw [if_neg h2];go_enter Tryz.func187, Tryz.ntmps187;go_wp2
   all_goals go_ret
   all_goals exact ⟨ret_int (by omega), rfl⟩
/-- What a stage makes of a value: what comes out, and whether it fails. -/
def expI (n : Nat) (b v : Int) : List Int := (List.range n).map fun i : Nat => cutI (v + (i : Int) * b)
def appSt (k a b v : Int) : List Int × Bool :=
 if k = 1 then ([cutI (v * a + b)], false)
 else if k = 2 then (if v % a = b then [v] else [], false)
 else if k = 3 then (expI a.toNat b v, false)
 else if v % a = b then ([], true) else ([v], false)
theorem expI_len (n : Nat) (b v : Int) : (expI n b v).length = n := by simp [expI]
theorem expI_succ (n : Nat) (b v : Int) : expI (n + 1) b v = expI n b v ++ [cutI (v + (n : Int) * b)] := by simp [expI, List.range_succ]
theorem good3 {a b : Int} (h : goodSt 3 a b = true) : 1 ≤ a ∧ a ≤ 3 ∧ -1000 ≤ b ∧ b ≤ 1000 := by
 rw [goodSt3] at h; simpa [and_assoc] using h
theorem good2 {a b : Int} (h : goodSt 2 a b = true) : 1 ≤ a ∧ a ≤ 1000 ∧ 0 ≤ b ∧ b ≤ a - 1 := by
 rw [goodSt2] at h; simpa [and_assoc] using h
theorem good4 {a b : Int} (h : goodSt 4 a b = true) : 1 ≤ a ∧ a ≤ 1000 ∧ 0 ≤ b ∧ b ≤ a - 1 := by
 rw [goodSt4] at h; simpa [and_assoc] using h
theorem good1 {a b : Int} (h : goodSt 1 a b = true) : -100 ≤ a ∧ a ≤ 100 ∧ -1000000 ≤ b ∧ b ≤ 1000000 := by
 rw [goodSt1] at h; simpa [valB, and_assoc] using h
theorem val_of {v : Int} (h : valB v = true) : -1000000 ≤ v ∧ v ≤ 1000000 := by simpa [valB] using h
theorem good_kind {k a b : Int} (h : goodSt k a b = true) : k = 1 ∨ k = 2 ∨ k = 3 ∨ k = 4 := by
 rcases kinds k with h1 | h1 | h1 | h1 | ⟨h1, h2, h3, h4⟩
 ·exact .inl h1
 ·exact .inr (.inl h1)
 ·exact .inr (.inr (.inl h1))
 ·exact .inr (.inr (.inr h1))
 ·rw [goodSt0 h1 h2 h3 h4] at h; cases h
theorem appSt2 (a b v : Int) : appSt 2 a b v = (if v % a = b then [v] else [], false) := rfl
theorem appSt3 (a b v : Int) : appSt 3 a b v = (expI a.toNat b v, false) := rfl
theorem appSt4 (a b v : Int) : appSt 4 a b v = if v % a = b then ([], true) else ([v], false) := rfl
theorem appSt_len {k a b v : Int} (h : goodSt k a b = true) : (appSt k a b v).1.length ≤ 3 := by
 rcases good_kind h with rfl | rfl | rfl | rfl
 ·simp [appSt]
 ·rw [appSt2]; dsimp only; split <;> simp
 ·have := good3 h;rw [appSt3]; dsimp only; rw [expI_len]; omega
 ·rw [appSt4]; split <;> simp
theorem appSt_val {k a b v : Int} (h : goodSt k a b = true) (hv : valB v = true) : ∀ x ∈ (appSt k a b v).1, valB x = true := by
 intro x hx
 rcases good_kind h with rfl | rfl | rfl | rfl
 ·simp [appSt] at hx; subst hx; exact cutI_val _
 ·rw [appSt2] at hx; dsimp only at hx
  split at hx <;> simp at hx; subst hx; exact hv
 ·rw [appSt3] at hx; dsimp only at hx
  simp [expI] at hx; obtain ⟨i, _, rfl⟩ := hx; exact cutI_val _
 ·rw [appSt4] at hx
  split at hx <;> simp at hx; subst hx; exact hv
theorem mul_le100 {v a : Int} (h1 : -1000000 ≤ v ∧ v ≤ 1000000) (h2 : -100 ≤ a ∧ a ≤ 100) : -100000000 ≤ v * a ∧ v * a ≤ 100000000 := by
 have hn : (v * a).natAbs ≤ 1000000 * 100 := by rw [Int.natAbs_mul]; exact Nat.mul_le_mul (by omega) (by omega)
 omega
end
end Go.Proofs.YtdacedbfnlkghaaGreatDoor
