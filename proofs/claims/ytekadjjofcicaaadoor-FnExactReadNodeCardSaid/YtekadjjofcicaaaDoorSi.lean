
/- Stages: what the program finds good, and how many come out. No conditions but those written. -/
import Derived.Test.YtekadjjofcicaaaDoorSh
import Derived.Deep.Cut
namespace Go.Proofs.YtekadjjofcicaaaDoor
open Go.RowKit

set_option maxHeartbeats 4000000 in
theorem goodKind1_true (a b : Int) (w : World) (hg : goodSt 1 a b = true) :
    Calls Tryd.prog 53 #[.agg #[.int .i64 1, .int .i64 a, .int .i64 b]] w fun e w' => e = .returned (.tuple #[.agg #[.func (.func 72) #[] #[], .func (.func 73) #[] #[], .func (.func 74) #[] #[]], .bool true]) ∧ Below w.heap.size w w' := by
  have HG := hid hg
  clear hg
  obtain ⟨w0, hw0⟩ : ∃ w0, w0 = (w.alloc (.cells #[.int .i64 1, .int .i64 a, .int .i64 b] 30)).alloc (.cells #[.nilFunc, .nilFunc, .nilFunc] 82) := ⟨_, rfl⟩
  have hB0 : Below w.heap.size w w0 := by rw [hw0]; exact below2 _ _ _
  have XS0 : Hid (Bx w0 w.heap.size [.int .i64 1, .int .i64 a, .int .i64 b]) := by rw [hw0]; exact Bx.alloc (Bx.new [.int .i64 1, .int .i64 a, .int .i64 b] _ rfl) _
  have XR0 : Hid (Bx w0 (w.heap.size + 1) [.nilFunc, .nilFunc, .nilFunc]) := by rw [hw0]; exact Bx.new [.nilFunc, .nilFunc, .nilFunc] _ (by simp)
  have H0 := hid hw0
  clear hw0
  go_enter Tryd.func53, Tryd.ntmps53
  go_wp2_with fail
  rw [← H0.out]
  refine (kindOf1_is a b w0).mono ?_
  rintro e w1 ⟨rfl, hb1⟩
  have hB1 := hB0.trans (hb1.mono hB0.size)
  have XS1 := hid ((XS0.out.later hb1).alloc (.cells #[.func (.func 72) #[] #[], .func (.func 73) #[] #[], .func (.func 74) #[] #[]] 82))
  have XR1 := hid ((XR0.out.later hb1).alloc (.cells #[.func (.func 72) #[] #[], .func (.func 73) #[] #[], .func (.func 74) #[] #[]] 82))
  have XK1 := hid (Bx.new (w := w1) (p := w1.heap.size) [.func (.func 72) #[] #[], .func (.func 73) #[] #[], .func (.func 74) #[] #[]] 82 rfl)
  have hB2 := Below.allocS hB1 (.cells #[.func (.func 72) #[] #[], .func (.func 73) #[] #[], .func (.func 74) #[] #[]] 82)
  clear XS0 XR0 hb1 hB1 hB0 H0
  have s0 := XS1.out.c 0 rfl
  have s1 := XS1.out.c 1 rfl
  have s2 := XS1.out.c 2 rfl
  have r0 := XR1.out.f 0 rfl
  have r1 := XR1.out.f 1 rfl
  have r2 := XR1.out.f 2 rfl
  have k0 := XK1.out.c 0 rfl
  have k1 := XK1.out.c 1 rfl
  have k2 := XK1.out.c 2 rfl
  have rz := XR1.out.size
  go_wp2_with fail
  clear s0 s1 s2 r0 r1 r2 k0 k1 k2 rz
  refine (goodMap_is 1 a b _ true (HG.out)).mono ?_
  rintro e w2 ⟨rfl, hw2⟩
  have hb2 := below1 (w1.alloc (.cells #[.func (.func 72) #[] #[], .func (.func 73) #[] #[], .func (.func 74) #[] #[]] 82)) (.cells #[.int .i64 1, .int .i64 a, .int .i64 b] 30)
  rw [← hw2] at hb2
  have HW2 := hid hw2
  clear hw2
  have XR2 := hid (XR1.out.later hb2)
  have XK2 := hid (XK1.out.later hb2)
  have hB3 := hB2.trans (hb2.mono hB2.size)
  clear XS1 XR1 XK1 hb2 hB2 HW2
  have r0 := XR2.out.f 0 rfl
  have r1 := XR2.out.f 1 rfl
  have r2 := XR2.out.f 2 rfl
  have c0 := XR2.out.c 0 rfl
  have c1 := XR2.out.c 1 rfl
  have c2 := XR2.out.c 2 rfl
  have k0 := XK2.out.c 0 rfl
  have k1 := XK2.out.c 1 rfl
  have k2 := XK2.out.c 2 rfl
  have rz := XR2.out.size
  go_wp2
  exact bodyPost_ret (v := .tuple #[.agg #[.func (.func 72) #[] #[], .func (.func 73) #[] #[], .func (.func 74) #[] #[]], .bool true]) (by simp [results, Tryd.results53, go_sem, c0, c1, c2]) rfl ⟨rfl, ((hB3.setCell (p := ⟨w.heap.size + 1, 0, none⟩) (by dsimp only; omega) _).setCell (p := ⟨w.heap.size + 1, 1, none⟩) (by dsimp only; omega) _).setCell (p := ⟨w.heap.size + 1, 2, none⟩) (by dsimp only; omega) _⟩
set_option maxHeartbeats 4000000 in
theorem goodKind1_false (a b : Int) (w : World) (hg : goodSt 1 a b = false) :
    Calls Tryd.prog 53 #[.agg #[.int .i64 1, .int .i64 a, .int .i64 b]] w fun e w' => e = .returned (.tuple #[.agg #[.nilFunc, .nilFunc, .nilFunc], .bool false]) ∧ Below w.heap.size w w' := by
  have HG := hid hg
  clear hg
  obtain ⟨w0, hw0⟩ : ∃ w0, w0 = (w.alloc (.cells #[.int .i64 1, .int .i64 a, .int .i64 b] 30)).alloc (.cells #[.nilFunc, .nilFunc, .nilFunc] 82) := ⟨_, rfl⟩
  have hB0 : Below w.heap.size w w0 := by rw [hw0]; exact below2 _ _ _
  have XS0 : Hid (Bx w0 w.heap.size [.int .i64 1, .int .i64 a, .int .i64 b]) := by rw [hw0]; exact Bx.alloc (Bx.new [.int .i64 1, .int .i64 a, .int .i64 b] _ rfl) _
  have XR0 : Hid (Bx w0 (w.heap.size + 1) [.nilFunc, .nilFunc, .nilFunc]) := by rw [hw0]; exact Bx.new [.nilFunc, .nilFunc, .nilFunc] _ (by simp)
  have H0 := hid hw0
  clear hw0
  go_enter Tryd.func53, Tryd.ntmps53
  go_wp2_with fail
  rw [← H0.out]
  refine (kindOf1_is a b w0).mono ?_
  rintro e w1 ⟨rfl, hb1⟩
  have hB1 := hB0.trans (hb1.mono hB0.size)
  have XS1 := hid ((XS0.out.later hb1).alloc (.cells #[.func (.func 72) #[] #[], .func (.func 73) #[] #[], .func (.func 74) #[] #[]] 82))
  have XR1 := hid ((XR0.out.later hb1).alloc (.cells #[.func (.func 72) #[] #[], .func (.func 73) #[] #[], .func (.func 74) #[] #[]] 82))
  have XK1 := hid (Bx.new (w := w1) (p := w1.heap.size) [.func (.func 72) #[] #[], .func (.func 73) #[] #[], .func (.func 74) #[] #[]] 82 rfl)
  have hB2 := Below.allocS hB1 (.cells #[.func (.func 72) #[] #[], .func (.func 73) #[] #[], .func (.func 74) #[] #[]] 82)
  clear XS0 XR0 hb1 hB1 hB0 H0
  have s0 := XS1.out.c 0 rfl
  have s1 := XS1.out.c 1 rfl
  have s2 := XS1.out.c 2 rfl
  have r0 := XR1.out.f 0 rfl
  have r1 := XR1.out.f 1 rfl
  have r2 := XR1.out.f 2 rfl
  have k0 := XK1.out.c 0 rfl
  have k1 := XK1.out.c 1 rfl
  have k2 := XK1.out.c 2 rfl
  have rz := XR1.out.size
  go_wp2_with fail
  clear s0 s1 s2 r0 r1 r2 k0 k1 k2 rz
  refine (goodMap_is 1 a b _ false (HG.out)).mono ?_
  rintro e w2 ⟨rfl, hw2⟩
  have hb2 := below1 (w1.alloc (.cells #[.func (.func 72) #[] #[], .func (.func 73) #[] #[], .func (.func 74) #[] #[]] 82)) (.cells #[.int .i64 1, .int .i64 a, .int .i64 b] 30)
  rw [← hw2] at hb2
  have HW2 := hid hw2
  clear hw2
  have XR2 := hid (XR1.out.later hb2)
  have XK2 := hid (XK1.out.later hb2)
  have hB3 := hB2.trans (hb2.mono hB2.size)
  clear XS1 XR1 XK1 hb2 hB2 HW2
  have r0 := XR2.out.f 0 rfl
  have r1 := XR2.out.f 1 rfl
  have r2 := XR2.out.f 2 rfl
  have c0 := XR2.out.c 0 rfl
  have c1 := XR2.out.c 1 rfl
  have c2 := XR2.out.c 2 rfl
  have k0 := XK2.out.c 0 rfl
  have k1 := XK2.out.c 1 rfl
  have k2 := XK2.out.c 2 rfl
  have rz := XR2.out.size
  go_wp2
  exact bodyPost_ret (v := .tuple #[.agg #[.nilFunc, .nilFunc, .nilFunc], .bool false]) (by simp [results, Tryd.results53, go_sem, c0, c1, c2]) rfl ⟨rfl, ((hB3.setCell (p := ⟨w.heap.size + 1, 0, none⟩) (by dsimp only; omega) _).setCell (p := ⟨w.heap.size + 1, 1, none⟩) (by dsimp only; omega) _).setCell (p := ⟨w.heap.size + 1, 2, none⟩) (by dsimp only; omega) _⟩
set_option maxHeartbeats 4000000 in
theorem goodKind2_true (a b : Int) (w : World) (hg : goodSt 2 a b = true) :
    Calls Tryd.prog 53 #[.agg #[.int .i64 2, .int .i64 a, .int .i64 b]] w fun e w' => e = .returned (.tuple #[.agg #[.func (.func 75) #[] #[], .func (.func 76) #[] #[], .func (.func 74) #[] #[]], .bool true]) ∧ Below w.heap.size w w' := by
  have HG := hid hg
  clear hg
  obtain ⟨w0, hw0⟩ : ∃ w0, w0 = (w.alloc (.cells #[.int .i64 2, .int .i64 a, .int .i64 b] 30)).alloc (.cells #[.nilFunc, .nilFunc, .nilFunc] 82) := ⟨_, rfl⟩
  have hB0 : Below w.heap.size w w0 := by rw [hw0]; exact below2 _ _ _
  have XS0 : Hid (Bx w0 w.heap.size [.int .i64 2, .int .i64 a, .int .i64 b]) := by rw [hw0]; exact Bx.alloc (Bx.new [.int .i64 2, .int .i64 a, .int .i64 b] _ rfl) _
  have XR0 : Hid (Bx w0 (w.heap.size + 1) [.nilFunc, .nilFunc, .nilFunc]) := by rw [hw0]; exact Bx.new [.nilFunc, .nilFunc, .nilFunc] _ (by simp)
  have H0 := hid hw0
  clear hw0
  go_enter Tryd.func53, Tryd.ntmps53
  go_wp2_with fail
  rw [← H0.out]
  refine (kindOf2_is a b w0).mono ?_
  rintro e w1 ⟨rfl, hb1⟩
  have hB1 := hB0.trans (hb1.mono hB0.size)
  have XS1 := hid ((XS0.out.later hb1).alloc (.cells #[.func (.func 75) #[] #[], .func (.func 76) #[] #[], .func (.func 74) #[] #[]] 82))
  have XR1 := hid ((XR0.out.later hb1).alloc (.cells #[.func (.func 75) #[] #[], .func (.func 76) #[] #[], .func (.func 74) #[] #[]] 82))
  have XK1 := hid (Bx.new (w := w1) (p := w1.heap.size) [.func (.func 75) #[] #[], .func (.func 76) #[] #[], .func (.func 74) #[] #[]] 82 rfl)
  have hB2 := Below.allocS hB1 (.cells #[.func (.func 75) #[] #[], .func (.func 76) #[] #[], .func (.func 74) #[] #[]] 82)
  clear XS0 XR0 hb1 hB1 hB0 H0
  have s0 := XS1.out.c 0 rfl
  have s1 := XS1.out.c 1 rfl
  have s2 := XS1.out.c 2 rfl
  have r0 := XR1.out.f 0 rfl
  have r1 := XR1.out.f 1 rfl
  have r2 := XR1.out.f 2 rfl
  have k0 := XK1.out.c 0 rfl
  have k1 := XK1.out.c 1 rfl
  have k2 := XK1.out.c 2 rfl
  have rz := XR1.out.size
  go_wp2_with fail
  clear s0 s1 s2 r0 r1 r2 k0 k1 k2 rz
  refine (goodRest_is 2 a b _ true (HG.out)).mono ?_
  rintro e w2 ⟨rfl, hw2⟩
  have hb2 := below1 (w1.alloc (.cells #[.func (.func 75) #[] #[], .func (.func 76) #[] #[], .func (.func 74) #[] #[]] 82)) (.cells #[.int .i64 2, .int .i64 a, .int .i64 b] 30)
  rw [← hw2] at hb2
  have HW2 := hid hw2
  clear hw2
  have XR2 := hid (XR1.out.later hb2)
  have XK2 := hid (XK1.out.later hb2)
  have hB3 := hB2.trans (hb2.mono hB2.size)
  clear XS1 XR1 XK1 hb2 hB2 HW2
  have r0 := XR2.out.f 0 rfl
  have r1 := XR2.out.f 1 rfl
  have r2 := XR2.out.f 2 rfl
  have c0 := XR2.out.c 0 rfl
  have c1 := XR2.out.c 1 rfl
  have c2 := XR2.out.c 2 rfl
  have k0 := XK2.out.c 0 rfl
  have k1 := XK2.out.c 1 rfl
  have k2 := XK2.out.c 2 rfl
  have rz := XR2.out.size
  go_wp2
  exact bodyPost_ret (v := .tuple #[.agg #[.func (.func 75) #[] #[], .func (.func 76) #[] #[], .func (.func 74) #[] #[]], .bool true]) (by simp [results, Tryd.results53, go_sem, c0, c1, c2]) rfl ⟨rfl, ((hB3.setCell (p := ⟨w.heap.size + 1, 0, none⟩) (by dsimp only; omega) _).setCell (p := ⟨w.heap.size + 1, 1, none⟩) (by dsimp only; omega) _).setCell (p := ⟨w.heap.size + 1, 2, none⟩) (by dsimp only; omega) _⟩
set_option maxHeartbeats 4000000 in
theorem goodKind2_false (a b : Int) (w : World) (hg : goodSt 2 a b = false) :
    Calls Tryd.prog 53 #[.agg #[.int .i64 2, .int .i64 a, .int .i64 b]] w fun e w' => e = .returned (.tuple #[.agg #[.nilFunc, .nilFunc, .nilFunc], .bool false]) ∧ Below w.heap.size w w' := by
  have HG := hid hg
  clear hg
  obtain ⟨w0, hw0⟩ : ∃ w0, w0 = (w.alloc (.cells #[.int .i64 2, .int .i64 a, .int .i64 b] 30)).alloc (.cells #[.nilFunc, .nilFunc, .nilFunc] 82) := ⟨_, rfl⟩
  have hB0 : Below w.heap.size w w0 := by rw [hw0]; exact below2 _ _ _
  have XS0 : Hid (Bx w0 w.heap.size [.int .i64 2, .int .i64 a, .int .i64 b]) := by rw [hw0]; exact Bx.alloc (Bx.new [.int .i64 2, .int .i64 a, .int .i64 b] _ rfl) _
  have XR0 : Hid (Bx w0 (w.heap.size + 1) [.nilFunc, .nilFunc, .nilFunc]) := by rw [hw0]; exact Bx.new [.nilFunc, .nilFunc, .nilFunc] _ (by simp)
  have H0 := hid hw0
  clear hw0
  go_enter Tryd.func53, Tryd.ntmps53
  go_wp2_with fail
  rw [← H0.out]
  refine (kindOf2_is a b w0).mono ?_
  rintro e w1 ⟨rfl, hb1⟩
  have hB1 := hB0.trans (hb1.mono hB0.size)
  have XS1 := hid ((XS0.out.later hb1).alloc (.cells #[.func (.func 75) #[] #[], .func (.func 76) #[] #[], .func (.func 74) #[] #[]] 82))
  have XR1 := hid ((XR0.out.later hb1).alloc (.cells #[.func (.func 75) #[] #[], .func (.func 76) #[] #[], .func (.func 74) #[] #[]] 82))
  have XK1 := hid (Bx.new (w := w1) (p := w1.heap.size) [.func (.func 75) #[] #[], .func (.func 76) #[] #[], .func (.func 74) #[] #[]] 82 rfl)
  have hB2 := Below.allocS hB1 (.cells #[.func (.func 75) #[] #[], .func (.func 76) #[] #[], .func (.func 74) #[] #[]] 82)
  clear XS0 XR0 hb1 hB1 hB0 H0
  have s0 := XS1.out.c 0 rfl
  have s1 := XS1.out.c 1 rfl
  have s2 := XS1.out.c 2 rfl
  have r0 := XR1.out.f 0 rfl
  have r1 := XR1.out.f 1 rfl
  have r2 := XR1.out.f 2 rfl
  have k0 := XK1.out.c 0 rfl
  have k1 := XK1.out.c 1 rfl
  have k2 := XK1.out.c 2 rfl
  have rz := XR1.out.size
  go_wp2_with fail
  clear s0 s1 s2 r0 r1 r2 k0 k1 k2 rz
  refine (goodRest_is 2 a b _ false (HG.out)).mono ?_
  rintro e w2 ⟨rfl, hw2⟩
  have hb2 := below1 (w1.alloc (.cells #[.func (.func 75) #[] #[], .func (.func 76) #[] #[], .func (.func 74) #[] #[]] 82)) (.cells #[.int .i64 2, .int .i64 a, .int .i64 b] 30)
  rw [← hw2] at hb2
  have HW2 := hid hw2
  clear hw2
  have XR2 := hid (XR1.out.later hb2)
  have XK2 := hid (XK1.out.later hb2)
  have hB3 := hB2.trans (hb2.mono hB2.size)
  clear XS1 XR1 XK1 hb2 hB2 HW2
  have r0 := XR2.out.f 0 rfl
  have r1 := XR2.out.f 1 rfl
  have r2 := XR2.out.f 2 rfl
  have c0 := XR2.out.c 0 rfl
  have c1 := XR2.out.c 1 rfl
  have c2 := XR2.out.c 2 rfl
  have k0 := XK2.out.c 0 rfl
  have k1 := XK2.out.c 1 rfl
  have k2 := XK2.out.c 2 rfl
  have rz := XR2.out.size
  go_wp2
  exact bodyPost_ret (v := .tuple #[.agg #[.nilFunc, .nilFunc, .nilFunc], .bool false]) (by simp [results, Tryd.results53, go_sem, c0, c1, c2]) rfl ⟨rfl, ((hB3.setCell (p := ⟨w.heap.size + 1, 0, none⟩) (by dsimp only; omega) _).setCell (p := ⟨w.heap.size + 1, 1, none⟩) (by dsimp only; omega) _).setCell (p := ⟨w.heap.size + 1, 2, none⟩) (by dsimp only; omega) _⟩
set_option maxHeartbeats 4000000 in
theorem goodKind3_true (a b : Int) (w : World) (hg : goodSt 3 a b = true) :
    Calls Tryd.prog 53 #[.agg #[.int .i64 3, .int .i64 a, .int .i64 b]] w fun e w' => e = .returned (.tuple #[.agg #[.func (.func 77) #[] #[], .func (.func 78) #[] #[], .func (.func 79) #[] #[]], .bool true]) ∧ Below w.heap.size w w' := by
  have HG := hid hg
  clear hg
  obtain ⟨w0, hw0⟩ : ∃ w0, w0 = (w.alloc (.cells #[.int .i64 3, .int .i64 a, .int .i64 b] 30)).alloc (.cells #[.nilFunc, .nilFunc, .nilFunc] 82) := ⟨_, rfl⟩
  have hB0 : Below w.heap.size w w0 := by rw [hw0]; exact below2 _ _ _
  have XS0 : Hid (Bx w0 w.heap.size [.int .i64 3, .int .i64 a, .int .i64 b]) := by rw [hw0]; exact Bx.alloc (Bx.new [.int .i64 3, .int .i64 a, .int .i64 b] _ rfl) _
  have XR0 : Hid (Bx w0 (w.heap.size + 1) [.nilFunc, .nilFunc, .nilFunc]) := by rw [hw0]; exact Bx.new [.nilFunc, .nilFunc, .nilFunc] _ (by simp)
  have H0 := hid hw0
  clear hw0
  go_enter Tryd.func53, Tryd.ntmps53
  go_wp2_with fail
  rw [← H0.out]
  refine (kindOf3_is a b w0).mono ?_
  rintro e w1 ⟨rfl, hb1⟩
  have hB1 := hB0.trans (hb1.mono hB0.size)
  have XS1 := hid ((XS0.out.later hb1).alloc (.cells #[.func (.func 77) #[] #[], .func (.func 78) #[] #[], .func (.func 79) #[] #[]] 82))
  have XR1 := hid ((XR0.out.later hb1).alloc (.cells #[.func (.func 77) #[] #[], .func (.func 78) #[] #[], .func (.func 79) #[] #[]] 82))
  have XK1 := hid (Bx.new (w := w1) (p := w1.heap.size) [.func (.func 77) #[] #[], .func (.func 78) #[] #[], .func (.func 79) #[] #[]] 82 rfl)
  have hB2 := Below.allocS hB1 (.cells #[.func (.func 77) #[] #[], .func (.func 78) #[] #[], .func (.func 79) #[] #[]] 82)
  clear XS0 XR0 hb1 hB1 hB0 H0
  have s0 := XS1.out.c 0 rfl
  have s1 := XS1.out.c 1 rfl
  have s2 := XS1.out.c 2 rfl
  have r0 := XR1.out.f 0 rfl
  have r1 := XR1.out.f 1 rfl
  have r2 := XR1.out.f 2 rfl
  have k0 := XK1.out.c 0 rfl
  have k1 := XK1.out.c 1 rfl
  have k2 := XK1.out.c 2 rfl
  have rz := XR1.out.size
  go_wp2_with fail
  clear s0 s1 s2 r0 r1 r2 k0 k1 k2 rz
  refine (goodExpand_is 3 a b _ true (HG.out)).mono ?_
  rintro e w2 ⟨rfl, hw2⟩
  have hb2 := below1 (w1.alloc (.cells #[.func (.func 77) #[] #[], .func (.func 78) #[] #[], .func (.func 79) #[] #[]] 82)) (.cells #[.int .i64 3, .int .i64 a, .int .i64 b] 30)
  rw [← hw2] at hb2
  have HW2 := hid hw2
  clear hw2
  have XR2 := hid (XR1.out.later hb2)
  have XK2 := hid (XK1.out.later hb2)
  have hB3 := hB2.trans (hb2.mono hB2.size)
  clear XS1 XR1 XK1 hb2 hB2 HW2
  have r0 := XR2.out.f 0 rfl
  have r1 := XR2.out.f 1 rfl
  have r2 := XR2.out.f 2 rfl
  have c0 := XR2.out.c 0 rfl
  have c1 := XR2.out.c 1 rfl
  have c2 := XR2.out.c 2 rfl
  have k0 := XK2.out.c 0 rfl
  have k1 := XK2.out.c 1 rfl
  have k2 := XK2.out.c 2 rfl
  have rz := XR2.out.size
  go_wp2
  exact bodyPost_ret (v := .tuple #[.agg #[.func (.func 77) #[] #[], .func (.func 78) #[] #[], .func (.func 79) #[] #[]], .bool true]) (by simp [results, Tryd.results53, go_sem, c0, c1, c2]) rfl ⟨rfl, ((hB3.setCell (p := ⟨w.heap.size + 1, 0, none⟩) (by dsimp only; omega) _).setCell (p := ⟨w.heap.size + 1, 1, none⟩) (by dsimp only; omega) _).setCell (p := ⟨w.heap.size + 1, 2, none⟩) (by dsimp only; omega) _⟩
set_option maxHeartbeats 4000000 in
theorem goodKind3_false (a b : Int) (w : World) (hg : goodSt 3 a b = false) :
    Calls Tryd.prog 53 #[.agg #[.int .i64 3, .int .i64 a, .int .i64 b]] w fun e w' => e = .returned (.tuple #[.agg #[.nilFunc, .nilFunc, .nilFunc], .bool false]) ∧ Below w.heap.size w w' := by
  have HG := hid hg
  clear hg
  obtain ⟨w0, hw0⟩ : ∃ w0, w0 = (w.alloc (.cells #[.int .i64 3, .int .i64 a, .int .i64 b] 30)).alloc (.cells #[.nilFunc, .nilFunc, .nilFunc] 82) := ⟨_, rfl⟩
  have hB0 : Below w.heap.size w w0 := by rw [hw0]; exact below2 _ _ _
  have XS0 : Hid (Bx w0 w.heap.size [.int .i64 3, .int .i64 a, .int .i64 b]) := by rw [hw0]; exact Bx.alloc (Bx.new [.int .i64 3, .int .i64 a, .int .i64 b] _ rfl) _
  have XR0 : Hid (Bx w0 (w.heap.size + 1) [.nilFunc, .nilFunc, .nilFunc]) := by rw [hw0]; exact Bx.new [.nilFunc, .nilFunc, .nilFunc] _ (by simp)
  have H0 := hid hw0
  clear hw0
  go_enter Tryd.func53, Tryd.ntmps53
  go_wp2_with fail
  rw [← H0.out]
  refine (kindOf3_is a b w0).mono ?_
  rintro e w1 ⟨rfl, hb1⟩
  have hB1 := hB0.trans (hb1.mono hB0.size)
  have XS1 := hid ((XS0.out.later hb1).alloc (.cells #[.func (.func 77) #[] #[], .func (.func 78) #[] #[], .func (.func 79) #[] #[]] 82))
  have XR1 := hid ((XR0.out.later hb1).alloc (.cells #[.func (.func 77) #[] #[], .func (.func 78) #[] #[], .func (.func 79) #[] #[]] 82))
  have XK1 := hid (Bx.new (w := w1) (p := w1.heap.size) [.func (.func 77) #[] #[], .func (.func 78) #[] #[], .func (.func 79) #[] #[]] 82 rfl)
  have hB2 := Below.allocS hB1 (.cells #[.func (.func 77) #[] #[], .func (.func 78) #[] #[], .func (.func 79) #[] #[]] 82)
  clear XS0 XR0 hb1 hB1 hB0 H0
  have s0 := XS1.out.c 0 rfl
  have s1 := XS1.out.c 1 rfl
  have s2 := XS1.out.c 2 rfl
  have r0 := XR1.out.f 0 rfl
  have r1 := XR1.out.f 1 rfl
  have r2 := XR1.out.f 2 rfl
  have k0 := XK1.out.c 0 rfl
  have k1 := XK1.out.c 1 rfl
  have k2 := XK1.out.c 2 rfl
  have rz := XR1.out.size
  go_wp2_with fail
  clear s0 s1 s2 r0 r1 r2 k0 k1 k2 rz
  refine (goodExpand_is 3 a b _ false (HG.out)).mono ?_
  rintro e w2 ⟨rfl, hw2⟩
  have hb2 := below1 (w1.alloc (.cells #[.func (.func 77) #[] #[], .func (.func 78) #[] #[], .func (.func 79) #[] #[]] 82)) (.cells #[.int .i64 3, .int .i64 a, .int .i64 b] 30)
  rw [← hw2] at hb2
  have HW2 := hid hw2
  clear hw2
  have XR2 := hid (XR1.out.later hb2)
  have XK2 := hid (XK1.out.later hb2)
  have hB3 := hB2.trans (hb2.mono hB2.size)
  clear XS1 XR1 XK1 hb2 hB2 HW2
  have r0 := XR2.out.f 0 rfl
  have r1 := XR2.out.f 1 rfl
  have r2 := XR2.out.f 2 rfl
  have c0 := XR2.out.c 0 rfl
  have c1 := XR2.out.c 1 rfl
  have c2 := XR2.out.c 2 rfl
  have k0 := XK2.out.c 0 rfl
  have k1 := XK2.out.c 1 rfl
  have k2 := XK2.out.c 2 rfl
  have rz := XR2.out.size
  go_wp2
  exact bodyPost_ret (v := .tuple #[.agg #[.nilFunc, .nilFunc, .nilFunc], .bool false]) (by simp [results, Tryd.results53, go_sem, c0, c1, c2]) rfl ⟨rfl, ((hB3.setCell (p := ⟨w.heap.size + 1, 0, none⟩) (by dsimp only; omega) _).setCell (p := ⟨w.heap.size + 1, 1, none⟩) (by dsimp only; omega) _).setCell (p := ⟨w.heap.size + 1, 2, none⟩) (by dsimp only; omega) _⟩
set_option maxHeartbeats 4000000 in
theorem goodKind4_true (a b : Int) (w : World) (hg : goodSt 4 a b = true) :
    Calls Tryd.prog 53 #[.agg #[.int .i64 4, .int .i64 a, .int .i64 b]] w fun e w' => e = .returned (.tuple #[.agg #[.func (.func 75) #[] #[], .func (.func 80) #[] #[], .func (.func 74) #[] #[]], .bool true]) ∧ Below w.heap.size w w' := by
  have HG := hid hg
  clear hg
  obtain ⟨w0, hw0⟩ : ∃ w0, w0 = (w.alloc (.cells #[.int .i64 4, .int .i64 a, .int .i64 b] 30)).alloc (.cells #[.nilFunc, .nilFunc, .nilFunc] 82) := ⟨_, rfl⟩
  have hB0 : Below w.heap.size w w0 := by rw [hw0]; exact below2 _ _ _
  have XS0 : Hid (Bx w0 w.heap.size [.int .i64 4, .int .i64 a, .int .i64 b]) := by rw [hw0]; exact Bx.alloc (Bx.new [.int .i64 4, .int .i64 a, .int .i64 b] _ rfl) _
  have XR0 : Hid (Bx w0 (w.heap.size + 1) [.nilFunc, .nilFunc, .nilFunc]) := by rw [hw0]; exact Bx.new [.nilFunc, .nilFunc, .nilFunc] _ (by simp)
  have H0 := hid hw0
  clear hw0
  go_enter Tryd.func53, Tryd.ntmps53
  go_wp2_with fail
  rw [← H0.out]
  refine (kindOf4_is a b w0).mono ?_
  rintro e w1 ⟨rfl, hb1⟩
  have hB1 := hB0.trans (hb1.mono hB0.size)
  have XS1 := hid ((XS0.out.later hb1).alloc (.cells #[.func (.func 75) #[] #[], .func (.func 80) #[] #[], .func (.func 74) #[] #[]] 82))
  have XR1 := hid ((XR0.out.later hb1).alloc (.cells #[.func (.func 75) #[] #[], .func (.func 80) #[] #[], .func (.func 74) #[] #[]] 82))
  have XK1 := hid (Bx.new (w := w1) (p := w1.heap.size) [.func (.func 75) #[] #[], .func (.func 80) #[] #[], .func (.func 74) #[] #[]] 82 rfl)
  have hB2 := Below.allocS hB1 (.cells #[.func (.func 75) #[] #[], .func (.func 80) #[] #[], .func (.func 74) #[] #[]] 82)
  clear XS0 XR0 hb1 hB1 hB0 H0
  have s0 := XS1.out.c 0 rfl
  have s1 := XS1.out.c 1 rfl
  have s2 := XS1.out.c 2 rfl
  have r0 := XR1.out.f 0 rfl
  have r1 := XR1.out.f 1 rfl
  have r2 := XR1.out.f 2 rfl
  have k0 := XK1.out.c 0 rfl
  have k1 := XK1.out.c 1 rfl
  have k2 := XK1.out.c 2 rfl
  have rz := XR1.out.size
  go_wp2_with fail
  clear s0 s1 s2 r0 r1 r2 k0 k1 k2 rz
  refine (goodRest_is 4 a b _ true (HG.out)).mono ?_
  rintro e w2 ⟨rfl, hw2⟩
  have hb2 := below1 (w1.alloc (.cells #[.func (.func 75) #[] #[], .func (.func 80) #[] #[], .func (.func 74) #[] #[]] 82)) (.cells #[.int .i64 4, .int .i64 a, .int .i64 b] 30)
  rw [← hw2] at hb2
  have HW2 := hid hw2
  clear hw2
  have XR2 := hid (XR1.out.later hb2)
  have XK2 := hid (XK1.out.later hb2)
  have hB3 := hB2.trans (hb2.mono hB2.size)
  clear XS1 XR1 XK1 hb2 hB2 HW2
  have r0 := XR2.out.f 0 rfl
  have r1 := XR2.out.f 1 rfl
  have r2 := XR2.out.f 2 rfl
  have c0 := XR2.out.c 0 rfl
  have c1 := XR2.out.c 1 rfl
  have c2 := XR2.out.c 2 rfl
  have k0 := XK2.out.c 0 rfl
  have k1 := XK2.out.c 1 rfl
  have k2 := XK2.out.c 2 rfl
  have rz := XR2.out.size
  go_wp2
  exact bodyPost_ret (v := .tuple #[.agg #[.func (.func 75) #[] #[], .func (.func 80) #[] #[], .func (.func 74) #[] #[]], .bool true]) (by simp [results, Tryd.results53, go_sem, c0, c1, c2]) rfl ⟨rfl, ((hB3.setCell (p := ⟨w.heap.size + 1, 0, none⟩) (by dsimp only; omega) _).setCell (p := ⟨w.heap.size + 1, 1, none⟩) (by dsimp only; omega) _).setCell (p := ⟨w.heap.size + 1, 2, none⟩) (by dsimp only; omega) _⟩
set_option maxHeartbeats 4000000 in
theorem goodKind4_false (a b : Int) (w : World) (hg : goodSt 4 a b = false) :
    Calls Tryd.prog 53 #[.agg #[.int .i64 4, .int .i64 a, .int .i64 b]] w fun e w' => e = .returned (.tuple #[.agg #[.nilFunc, .nilFunc, .nilFunc], .bool false]) ∧ Below w.heap.size w w' := by
  have HG := hid hg
  clear hg
  obtain ⟨w0, hw0⟩ : ∃ w0, w0 = (w.alloc (.cells #[.int .i64 4, .int .i64 a, .int .i64 b] 30)).alloc (.cells #[.nilFunc, .nilFunc, .nilFunc] 82) := ⟨_, rfl⟩
  have hB0 : Below w.heap.size w w0 := by rw [hw0]; exact below2 _ _ _
  have XS0 : Hid (Bx w0 w.heap.size [.int .i64 4, .int .i64 a, .int .i64 b]) := by rw [hw0]; exact Bx.alloc (Bx.new [.int .i64 4, .int .i64 a, .int .i64 b] _ rfl) _
  have XR0 : Hid (Bx w0 (w.heap.size + 1) [.nilFunc, .nilFunc, .nilFunc]) := by rw [hw0]; exact Bx.new [.nilFunc, .nilFunc, .nilFunc] _ (by simp)
  have H0 := hid hw0
  clear hw0
  go_enter Tryd.func53, Tryd.ntmps53
  go_wp2_with fail
  rw [← H0.out]
  refine (kindOf4_is a b w0).mono ?_
  rintro e w1 ⟨rfl, hb1⟩
  have hB1 := hB0.trans (hb1.mono hB0.size)
  have XS1 := hid ((XS0.out.later hb1).alloc (.cells #[.func (.func 75) #[] #[], .func (.func 80) #[] #[], .func (.func 74) #[] #[]] 82))
  have XR1 := hid ((XR0.out.later hb1).alloc (.cells #[.func (.func 75) #[] #[], .func (.func 80) #[] #[], .func (.func 74) #[] #[]] 82))
  have XK1 := hid (Bx.new (w := w1) (p := w1.heap.size) [.func (.func 75) #[] #[], .func (.func 80) #[] #[], .func (.func 74) #[] #[]] 82 rfl)
  have hB2 := Below.allocS hB1 (.cells #[.func (.func 75) #[] #[], .func (.func 80) #[] #[], .func (.func 74) #[] #[]] 82)
  clear XS0 XR0 hb1 hB1 hB0 H0
  have s0 := XS1.out.c 0 rfl
  have s1 := XS1.out.c 1 rfl
  have s2 := XS1.out.c 2 rfl
  have r0 := XR1.out.f 0 rfl
  have r1 := XR1.out.f 1 rfl
  have r2 := XR1.out.f 2 rfl
  have k0 := XK1.out.c 0 rfl
  have k1 := XK1.out.c 1 rfl
  have k2 := XK1.out.c 2 rfl
  have rz := XR1.out.size
  go_wp2_with fail
  clear s0 s1 s2 r0 r1 r2 k0 k1 k2 rz
  refine (goodRest_is 4 a b _ false (HG.out)).mono ?_
  rintro e w2 ⟨rfl, hw2⟩
  have hb2 := below1 (w1.alloc (.cells #[.func (.func 75) #[] #[], .func (.func 80) #[] #[], .func (.func 74) #[] #[]] 82)) (.cells #[.int .i64 4, .int .i64 a, .int .i64 b] 30)
  rw [← hw2] at hb2
  have HW2 := hid hw2
  clear hw2
  have XR2 := hid (XR1.out.later hb2)
  have XK2 := hid (XK1.out.later hb2)
  have hB3 := hB2.trans (hb2.mono hB2.size)
  clear XS1 XR1 XK1 hb2 hB2 HW2
  have r0 := XR2.out.f 0 rfl
  have r1 := XR2.out.f 1 rfl
  have r2 := XR2.out.f 2 rfl
  have c0 := XR2.out.c 0 rfl
  have c1 := XR2.out.c 1 rfl
  have c2 := XR2.out.c 2 rfl
  have k0 := XK2.out.c 0 rfl
  have k1 := XK2.out.c 1 rfl
  have k2 := XK2.out.c 2 rfl
  have rz := XR2.out.size
  go_wp2
  exact bodyPost_ret (v := .tuple #[.agg #[.nilFunc, .nilFunc, .nilFunc], .bool false]) (by simp [results, Tryd.results53, go_sem, c0, c1, c2]) rfl ⟨rfl, ((hB3.setCell (p := ⟨w.heap.size + 1, 0, none⟩) (by dsimp only; omega) _).setCell (p := ⟨w.heap.size + 1, 1, none⟩) (by dsimp only; omega) _).setCell (p := ⟨w.heap.size + 1, 2, none⟩) (by dsimp only; omega) _⟩
set_option maxHeartbeats 4000000 in
theorem goodKind0 (k a b : Int) (w : World) (h1 : k ≠ 1) (h2 : k ≠ 2) (h3 : k ≠ 3) (h4 : k ≠ 4) :
    Calls Tryd.prog 53 #[.agg #[.int .i64 k, .int .i64 a, .int .i64 b]] w fun e w' => e = .returned (.tuple #[.agg #[.nilFunc, .nilFunc, .nilFunc], .bool false]) ∧ Below w.heap.size w w' := by
  obtain ⟨w0, hw0⟩ : ∃ w0, w0 = (w.alloc (.cells #[.int .i64 k, .int .i64 a, .int .i64 b] 30)).alloc (.cells #[.nilFunc, .nilFunc, .nilFunc] 82) := ⟨_, rfl⟩
  have hB0 : Below w.heap.size w w0 := by rw [hw0]; exact below2 _ _ _
  have XR0 : Hid (Bx w0 (w.heap.size + 1) [.nilFunc, .nilFunc, .nilFunc]) := by rw [hw0]; exact Bx.new [.nilFunc, .nilFunc, .nilFunc] _ (by simp)
  have H0 := hid hw0
  clear hw0
  go_enter Tryd.func53, Tryd.ntmps53
  go_wp2_with fail
  rw [← H0.out]
  refine (kindOf0_is k a b w0 h1 h2 h3 h4).mono ?_
  rintro e w1 ⟨rfl, hb1⟩
  have hB1 := hB0.trans (hb1.mono hB0.size)
  have XR1 := hid ((XR0.out.later hb1).alloc (.cells #[.nilFunc, .nilFunc, .nilFunc] 82))
  have hB2 := Below.allocS hB1 (.cells #[.nilFunc, .nilFunc, .nilFunc] 82)
  clear XR0 hb1 hB1 hB0 H0
  have r0 := XR1.out.f 0 rfl
  have r1 := XR1.out.f 1 rfl
  have r2 := XR1.out.f 2 rfl
  have c0 := XR1.out.c 0 rfl
  have c1 := XR1.out.c 1 rfl
  have c2 := XR1.out.c 2 rfl
  have rz := XR1.out.size
  go_wp2
  exact bodyPost_ret (v := .tuple #[.agg #[.nilFunc, .nilFunc, .nilFunc], .bool false]) (by simp [results, Tryd.results53, go_sem, c0, c1, c2]) rfl ⟨rfl, ((hB2.setCell (p := ⟨w.heap.size + 1, 0, none⟩) (by dsimp only; omega) _).setCell (p := ⟨w.heap.size + 1, 1, none⟩) (by dsimp only; omega) _).setCell (p := ⟨w.heap.size + 1, 2, none⟩) (by dsimp only; omega) _⟩
theorem goodKind_no (k a b : Int) (w : World) (hg : goodSt k a b = false) :
    Calls Tryd.prog 53 #[.agg #[.int .i64 k, .int .i64 a, .int .i64 b]] w fun e w' => e = .returned (.tuple #[.agg #[.nilFunc, .nilFunc, .nilFunc], .bool false]) ∧ Below w.heap.size w w' := by
  rcases kinds k with rfl | rfl | rfl | rfl | ⟨h1, h2, h3, h4⟩
  · exact goodKind1_false a b w hg
  · exact goodKind2_false a b w hg
  · exact goodKind3_false a b w hg
  · exact goodKind4_false a b w hg
  · exact goodKind0 k a b w h1 h2 h3 h4
/-- What the program keeps of a kind. -/
def kindV (k : Int) : List Value := if k = 1 then [.func (.func 72) #[] #[], .func (.func 73) #[] #[], .func (.func 74) #[] #[]] else if k = 2 then [.func (.func 75) #[] #[], .func (.func 76) #[] #[], .func (.func 74) #[] #[]] else if k = 3 then [.func (.func 77) #[] #[], .func (.func 78) #[] #[], .func (.func 79) #[] #[]] else [.func (.func 75) #[] #[], .func (.func 80) #[] #[], .func (.func 74) #[] #[]]
theorem goodKind_yes (k a b : Int) (w : World) (hg : goodSt k a b = true) :
    Calls Tryd.prog 53 #[.agg #[.int .i64 k, .int .i64 a, .int .i64 b]] w fun e w' => (∃ g f m, kindV k = [g, f, m] ∧ e = .returned (.tuple #[.agg #[g, f, m], .bool true])) ∧ Below w.heap.size w w' := by
  rcases kinds k with rfl | rfl | rfl | rfl | ⟨h1, h2, h3, h4⟩
  · exact (goodKind1_true a b w hg).mono fun e w' h => ⟨⟨_, _, _, rfl, h.1⟩, h.2⟩
  · exact (goodKind2_true a b w hg).mono fun e w' h => ⟨⟨_, _, _, rfl, h.1⟩, h.2⟩
  · exact (goodKind3_true a b w hg).mono fun e w' h => ⟨⟨_, _, _, rfl, h.1⟩, h.2⟩
  · exact (goodKind4_true a b w hg).mono fun e w' h => ⟨⟨_, _, _, rfl, h.1⟩, h.2⟩
  · rw [goodSt0 h1 h2 h3 h4] at hg; cases hg
end Go.Proofs.YtekadjjofcicaaaDoor
