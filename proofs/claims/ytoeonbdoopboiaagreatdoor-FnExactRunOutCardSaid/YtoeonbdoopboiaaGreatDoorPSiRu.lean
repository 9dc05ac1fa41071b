/- Stages: what the program finds good, and how many come out. No conditions but those written. Stages: GoodStage and FactorOf on both sides, and their laws' walks. No conditions but those written. A region that draws its order, whose operations only read and whose callees read and make: walked once, in whatever later world. No conditions but those written. What each node of a graph must keep to: the program's tests. No conditions but those written. -/
import Derived.Test.YtoeonbdoopboiaaGreatDoorPOnSh
import Derived.Deep.Cut
import Derived.Test.YtoeonbdoopboiaaGreatDoorPGenBx
import Derived.BigQuiet
import Derived.Test.YtoeonbdoopboiaaGreatDoorPDpFx
namespace Go.Proofs.YtoeonbdoopboiaaGreatDoor
section
open Go.RowKit

set_option maxHeartbeats 4000000 in
theorem goodKind1_true (a b : Int) (w : World) (hg : goodSt 1 a b = true) :
    Calls Tryz.prog 154 #[.agg #[.int .i64 1, .int .i64 a, .int .i64 b]] w fun e w' => e = .returned (.tuple #[.agg #[.func (.func 198) #[] #[], .func (.func 199) #[] #[], .func (.func 200) #[] #[]], .bool true]) ∧ Below w.heap.size w w' := by
  have HG := hid hg
  clear hg
  obtain ⟨w0, hw0⟩ : ∃ w0, w0 = (w.alloc (.cells #[.int .i64 1, .int .i64 a, .int .i64 b] 69)).alloc (.cells #[.nilFunc, .nilFunc, .nilFunc] 192) := ⟨_, rfl⟩
  have hB0 : Below w.heap.size w w0 := by rw [hw0]; exact below2 _ _ _
  have XS0 : Hid (Bx w0 w.heap.size [.int .i64 1, .int .i64 a, .int .i64 b]) := by rw [hw0]; exact Bx.alloc (Bx.new [.int .i64 1, .int .i64 a, .int .i64 b] _ rfl) _
  have XR0 : Hid (Bx w0 (w.heap.size + 1) [.nilFunc, .nilFunc, .nilFunc]) := by rw [hw0]; exact Bx.new [.nilFunc, .nilFunc, .nilFunc] _ (by simp)
  have H0 := hid hw0
  clear hw0
  go_enter Tryz.func154, Tryz.ntmps154
  go_wp2_with fail
  rw [← H0.out]
  refine (kindOf1_is a b w0).mono ?_
  rintro e w1 ⟨rfl, hb1⟩
  have hB1 := hB0.trans (hb1.mono hB0.size)
  have XS1 := hid ((XS0.out.later hb1).alloc (.cells #[.func (.func 198) #[] #[], .func (.func 199) #[] #[], .func (.func 200) #[] #[]] 192))
  have XR1 := hid ((XR0.out.later hb1).alloc (.cells #[.func (.func 198) #[] #[], .func (.func 199) #[] #[], .func (.func 200) #[] #[]] 192))
  have XK1 := hid (Bx.new (w := w1) (p := w1.heap.size) [.func (.func 198) #[] #[], .func (.func 199) #[] #[], .func (.func 200) #[] #[]] 192 rfl)
  have hB2 := Below.allocS hB1 (.cells #[.func (.func 198) #[] #[], .func (.func 199) #[] #[], .func (.func 200) #[] #[]] 192)
  clear XS0 XR0 hb1 hB1 hB0 H0
  have s0 := XS1.out.c 0 rfl
  have s1 := XS1.out.c 1 rfl
  have s2 := XS1.out.c 2 rfl
  have r0 := XR1.out.f 0 rfl
  have r1 := XR1.out.f 1 rfl
  have r2 := XR1.out.f 2 rfl
  have k0 := XK1.out.c 0 rfl
  have k1 := XK1.out.c 1 rfl
  have k2 := XK1.out.c 2 rfl
  have rz := XR1.out.size
  go_wp2_with fail
  clear s0 s1 s2 r0 r1 r2 k0 k1 k2 rz
  refine (goodMap_is 1 a b _ true (HG.out)).mono ?_
  rintro e w2 ⟨rfl, hw2⟩
  have hb2 := below1 (w1.alloc (.cells #[.func (.func 198) #[] #[], .func (.func 199) #[] #[], .func (.func 200) #[] #[]] 192)) (.cells #[.int .i64 1, .int .i64 a, .int .i64 b] 69)
  rw [← hw2] at hb2
  have HW2 := hid hw2
  clear hw2
  have XR2 := hid (XR1.out.later hb2)
  have XK2 := hid (XK1.out.later hb2)
  have hB3 := hB2.trans (hb2.mono hB2.size)
  clear XS1 XR1 XK1 hb2 hB2 HW2
  have r0 := XR2.out.f 0 rfl
  have r1 := XR2.out.f 1 rfl
  have r2 := XR2.out.f 2 rfl
  have c0 := XR2.out.c 0 rfl
  have c1 := XR2.out.c 1 rfl
  have c2 := XR2.out.c 2 rfl
  have k0 := XK2.out.c 0 rfl
  have k1 := XK2.out.c 1 rfl
  have k2 := XK2.out.c 2 rfl
  have rz := XR2.out.size
  go_wp2
  exact bodyPost_ret (v := .tuple #[.agg #[.func (.func 198) #[] #[], .func (.func 199) #[] #[], .func (.func 200) #[] #[]], .bool true]) (by simp [results, Tryz.results154, go_sem, c0, c1, c2]) rfl ⟨rfl, ((hB3.setCell (p := ⟨w.heap.size + 1, 0, none⟩) (by dsimp only; omega) _).setCell (p := ⟨w.heap.size + 1, 1, none⟩) (by dsimp only; omega) _).setCell (p := ⟨w.heap.size + 1, 2, none⟩) (by dsimp only; omega) _⟩
set_option maxHeartbeats 4000000 in
theorem goodKind1_false (a b : Int) (w : World) (hg : goodSt 1 a b = false) :
    Calls Tryz.prog 154 #[.agg #[.int .i64 1, .int .i64 a, .int .i64 b]] w fun e w' => e = .returned (.tuple #[.agg #[.nilFunc, .nilFunc, .nilFunc], .bool false]) ∧ Below w.heap.size w w' := by
  have HG := hid hg
  clear hg
  obtain ⟨w0, hw0⟩ : ∃ w0, w0 = (w.alloc (.cells #[.int .i64 1, .int .i64 a, .int .i64 b] 69)).alloc (.cells #[.nilFunc, .nilFunc, .nilFunc] 192) := ⟨_, rfl⟩
  have hB0 : Below w.heap.size w w0 := by rw [hw0]; exact below2 _ _ _
  have XS0 : Hid (Bx w0 w.heap.size [.int .i64 1, .int .i64 a, .int .i64 b]) := by rw [hw0]; exact Bx.alloc (Bx.new [.int .i64 1, .int .i64 a, .int .i64 b] _ rfl) _
  have XR0 : Hid (Bx w0 (w.heap.size + 1) [.nilFunc, .nilFunc, .nilFunc]) := by rw [hw0]; exact Bx.new [.nilFunc, .nilFunc, .nilFunc] _ (by simp)
  have H0 := hid hw0
  clear hw0
  go_enter Tryz.func154, Tryz.ntmps154
  go_wp2_with fail
  rw [← H0.out]
  refine (kindOf1_is a b w0).mono ?_
  rintro e w1 ⟨rfl, hb1⟩
  have hB1 := hB0.trans (hb1.mono hB0.size)
  have XS1 := hid ((XS0.out.later hb1).alloc (.cells #[.func (.func 198) #[] #[], .func (.func 199) #[] #[], .func (.func 200) #[] #[]] 192))
  have XR1 := hid ((XR0.out.later hb1).alloc (.cells #[.func (.func 198) #[] #[], .func (.func 199) #[] #[], .func (.func 200) #[] #[]] 192))
  have XK1 := hid (Bx.new (w := w1) (p := w1.heap.size) [.func (.func 198) #[] #[], .func (.func 199) #[] #[], .func (.func 200) #[] #[]] 192 rfl)
  have hB2 := Below.allocS hB1 (.cells #[.func (.func 198) #[] #[], .func (.func 199) #[] #[], .func (.func 200) #[] #[]] 192)
  clear XS0 XR0 hb1 hB1 hB0 H0
  have s0 := XS1.out.c 0 rfl
  have s1 := XS1.out.c 1 rfl
  have s2 := XS1.out.c 2 rfl
  have r0 := XR1.out.f 0 rfl
  have r1 := XR1.out.f 1 rfl
  have r2 := XR1.out.f 2 rfl
  have k0 := XK1.out.c 0 rfl
  have k1 := XK1.out.c 1 rfl
  have k2 := XK1.out.c 2 rfl
  have rz := XR1.out.size
  go_wp2_with fail
  clear s0 s1 s2 r0 r1 r2 k0 k1 k2 rz
  refine (goodMap_is 1 a b _ false (HG.out)).mono ?_
  rintro e w2 ⟨rfl, hw2⟩
  have hb2 := below1 (w1.alloc (.cells #[.func (.func 198) #[] #[], .func (.func 199) #[] #[], .func (.func 200) #[] #[]] 192)) (.cells #[.int .i64 1, .int .i64 a, .int .i64 b] 69)
  rw [← hw2] at hb2
  have HW2 := hid hw2
  clear hw2
  have XR2 := hid (XR1.out.later hb2)
  have XK2 := hid (XK1.out.later hb2)
  have hB3 := hB2.trans (hb2.mono hB2.size)
  clear XS1 XR1 XK1 hb2 hB2 HW2
  have r0 := XR2.out.f 0 rfl
  have r1 := XR2.out.f 1 rfl
  have r2 := XR2.out.f 2 rfl
  have c0 := XR2.out.c 0 rfl
  have c1 := XR2.out.c 1 rfl
  have c2 := XR2.out.c 2 rfl
  have k0 := XK2.out.c 0 rfl
  have k1 := XK2.out.c 1 rfl
  have k2 := XK2.out.c 2 rfl
  have rz := XR2.out.size
  go_wp2
  exact bodyPost_ret (v := .tuple #[.agg #[.nilFunc, .nilFunc, .nilFunc], .bool false]) (by simp [results, Tryz.results154, go_sem, c0, c1, c2]) rfl ⟨rfl, ((hB3.setCell (p := ⟨w.heap.size + 1, 0, none⟩) (by dsimp only; omega) _).setCell (p := ⟨w.heap.size + 1, 1, none⟩) (by dsimp only; omega) _).setCell (p := ⟨w.heap.size + 1, 2, none⟩) (by dsimp only; omega) _⟩
set_option maxHeartbeats 4000000 in
theorem goodKind2_true (a b : Int) (w : World) (hg : goodSt 2 a b = true) :
    Calls Tryz.prog 154 #[.agg #[.int .i64 2, .int .i64 a, .int .i64 b]] w fun e w' => e = .returned (.tuple #[.agg #[.func (.func 201) #[] #[], .func (.func 202) #[] #[], .func (.func 200) #[] #[]], .bool true]) ∧ Below w.heap.size w w' := by
  have HG := hid hg
  clear hg
  obtain ⟨w0, hw0⟩ : ∃ w0, w0 = (w.alloc (.cells #[.int .i64 2, .int .i64 a, .int .i64 b] 69)).alloc (.cells #[.nilFunc, .nilFunc, .nilFunc] 192) := ⟨_, rfl⟩
  have hB0 : Below w.heap.size w w0 := by rw [hw0]; exact below2 _ _ _
  have XS0 : Hid (Bx w0 w.heap.size [.int .i64 2, .int .i64 a, .int .i64 b]) := by rw [hw0]; exact Bx.alloc (Bx.new [.int .i64 2, .int .i64 a, .int .i64 b] _ rfl) _
  have XR0 : Hid (Bx w0 (w.heap.size + 1) [.nilFunc, .nilFunc, .nilFunc]) := by rw [hw0]; exact Bx.new [.nilFunc, .nilFunc, .nilFunc] _ (by simp)
  have H0 := hid hw0
  clear hw0
  go_enter Tryz.func154, Tryz.ntmps154
  go_wp2_with fail
  rw [← H0.out]
  refine (kindOf2_is a b w0).mono ?_
  rintro e w1 ⟨rfl, hb1⟩
  have hB1 := hB0.trans (hb1.mono hB0.size)
  have XS1 := hid ((XS0.out.later hb1).alloc (.cells #[.func (.func 201) #[] #[], .func (.func 202) #[] #[], .func (.func 200) #[] #[]] 192))
  have XR1 := hid ((XR0.out.later hb1).alloc (.cells #[.func (.func 201) #[] #[], .func (.func 202) #[] #[], .func (.func 200) #[] #[]] 192))
  have XK1 := hid (Bx.new (w := w1) (p := w1.heap.size) [.func (.func 201) #[] #[], .func (.func 202) #[] #[], .func (.func 200) #[] #[]] 192 rfl)
  have hB2 := Below.allocS hB1 (.cells #[.func (.func 201) #[] #[], .func (.func 202) #[] #[], .func (.func 200) #[] #[]] 192)
  clear XS0 XR0 hb1 hB1 hB0 H0
  have s0 := XS1.out.c 0 rfl
  have s1 := XS1.out.c 1 rfl
  have s2 := XS1.out.c 2 rfl
  have r0 := XR1.out.f 0 rfl
  have r1 := XR1.out.f 1 rfl
  have r2 := XR1.out.f 2 rfl
  have k0 := XK1.out.c 0 rfl
  have k1 := XK1.out.c 1 rfl
  have k2 := XK1.out.c 2 rfl
  have rz := XR1.out.size
  go_wp2_with fail
  clear s0 s1 s2 r0 r1 r2 k0 k1 k2 rz
  refine (goodRest_is 2 a b _ true (HG.out)).mono ?_
  rintro e w2 ⟨rfl, hw2⟩
  have hb2 := below1 (w1.alloc (.cells #[.func (.func 201) #[] #[], .func (.func 202) #[] #[], .func (.func 200) #[] #[]] 192)) (.cells #[.int .i64 2, .int .i64 a, .int .i64 b] 69)
  rw [← hw2] at hb2
  have HW2 := hid hw2
  clear hw2
  have XR2 := hid (XR1.out.later hb2)
  have XK2 := hid (XK1.out.later hb2)
  have hB3 := hB2.trans (hb2.mono hB2.size)
  clear XS1 XR1 XK1 hb2 hB2 HW2
  have r0 := XR2.out.f 0 rfl
  have r1 := XR2.out.f 1 rfl
  have r2 := XR2.out.f 2 rfl
  have c0 := XR2.out.c 0 rfl
  have c1 := XR2.out.c 1 rfl
  have c2 := XR2.out.c 2 rfl
  have k0 := XK2.out.c 0 rfl
  have k1 := XK2.out.c 1 rfl
  have k2 := XK2.out.c 2 rfl
  have rz := XR2.out.size
  go_wp2
  exact bodyPost_ret (v := .tuple #[.agg #[.func (.func 201) #[] #[], .func (.func 202) #[] #[], .func (.func 200) #[] #[]], .bool true]) (by simp [results, Tryz.results154, go_sem, c0, c1, c2]) rfl ⟨rfl, ((hB3.setCell (p := ⟨w.heap.size + 1, 0, none⟩) (by dsimp only; omega) _).setCell (p := ⟨w.heap.size + 1, 1, none⟩) (by dsimp only; omega) _).setCell (p := ⟨w.heap.size + 1, 2, none⟩) (by dsimp only; omega) _⟩
set_option maxHeartbeats 4000000 in
theorem goodKind2_false (a b : Int) (w : World) (hg : goodSt 2 a b = false) :
    Calls Tryz.prog 154 #[.agg #[.int .i64 2, .int .i64 a, .int .i64 b]] w fun e w' => e = .returned (.tuple #[.agg #[.nilFunc, .nilFunc, .nilFunc], .bool false]) ∧ Below w.heap.size w w' := by
  have HG := hid hg
  clear hg
  obtain ⟨w0, hw0⟩ : ∃ w0, w0 = (w.alloc (.cells #[.int .i64 2, .int .i64 a, .int .i64 b] 69)).alloc (.cells #[.nilFunc, .nilFunc, .nilFunc] 192) := ⟨_, rfl⟩
  have hB0 : Below w.heap.size w w0 := by rw [hw0]; exact below2 _ _ _
  have XS0 : Hid (Bx w0 w.heap.size [.int .i64 2, .int .i64 a, .int .i64 b]) := by rw [hw0]; exact Bx.alloc (Bx.new [.int .i64 2, .int .i64 a, .int .i64 b] _ rfl) _
  have XR0 : Hid (Bx w0 (w.heap.size + 1) [.nilFunc, .nilFunc, .nilFunc]) := by rw [hw0]; exact Bx.new [.nilFunc, .nilFunc, .nilFunc] _ (by simp)
  have H0 := hid hw0
  clear hw0
  go_enter Tryz.func154, Tryz.ntmps154
  go_wp2_with fail
  rw [← H0.out]
  refine (kindOf2_is a b w0).mono ?_
  rintro e w1 ⟨rfl, hb1⟩
  have hB1 := hB0.trans (hb1.mono hB0.size)
  have XS1 := hid ((XS0.out.later hb1).alloc (.cells #[.func (.func 201) #[] #[], .func (.func 202) #[] #[], .func (.func 200) #[] #[]] 192))
  have XR1 := hid ((XR0.out.later hb1).alloc (.cells #[.func (.func 201) #[] #[], .func (.func 202) #[] #[], .func (.func 200) #[] #[]] 192))
  have XK1 := hid (Bx.new (w := w1) (p := w1.heap.size) [.func (.func 201) #[] #[], .func (.func 202) #[] #[], .func (.func 200) #[] #[]] 192 rfl)
  have hB2 := Below.allocS hB1 (.cells #[.func (.func 201) #[] #[], .func (.func 202) #[] #[], .func (.func 200) #[] #[]] 192)
  clear XS0 XR0 hb1 hB1 hB0 H0
  have s0 := XS1.out.c 0 rfl
  have s1 := XS1.out.c 1 rfl
  have s2 := XS1.out.c 2 rfl
  have r0 := XR1.out.f 0 rfl
  have r1 := XR1.out.f 1 rfl
  have r2 := XR1.out.f 2 rfl
  have k0 := XK1.out.c 0 rfl
  have k1 := XK1.out.c 1 rfl
  have k2 := XK1.out.c 2 rfl
  have rz := XR1.out.size
  go_wp2_with fail
  clear s0 s1 s2 r0 r1 r2 k0 k1 k2 rz
  refine (goodRest_is 2 a b _ false (HG.out)).mono ?_
  rintro e w2 ⟨rfl, hw2⟩
  have hb2 := below1 (w1.alloc (.cells #[.func (.func 201) #[] #[], .func (.func 202) #[] #[], .func (.func 200) #[] #[]] 192)) (.cells #[.int .i64 2, .int .i64 a, .int .i64 b] 69)
  rw [← hw2] at hb2
  have HW2 := hid hw2
  clear hw2
  have XR2 := hid (XR1.out.later hb2)
  have XK2 := hid (XK1.out.later hb2)
  have hB3 := hB2.trans (hb2.mono hB2.size)
  clear XS1 XR1 XK1 hb2 hB2 HW2
  have r0 := XR2.out.f 0 rfl
  have r1 := XR2.out.f 1 rfl
  have r2 := XR2.out.f 2 rfl
  have c0 := XR2.out.c 0 rfl
  have c1 := XR2.out.c 1 rfl
  have c2 := XR2.out.c 2 rfl
  have k0 := XK2.out.c 0 rfl
  have k1 := XK2.out.c 1 rfl
  have k2 := XK2.out.c 2 rfl
  have rz := XR2.out.size
  go_wp2
  exact bodyPost_ret (v := .tuple #[.agg #[.nilFunc, .nilFunc, .nilFunc], .bool false]) (by simp [results, Tryz.results154, go_sem, c0, c1, c2]) rfl ⟨rfl, ((hB3.setCell (p := ⟨w.heap.size + 1, 0, none⟩) (by dsimp only; omega) _).setCell (p := ⟨w.heap.size + 1, 1, none⟩) (by dsimp only; omega) _).setCell (p := ⟨w.heap.size + 1, 2, none⟩) (by dsimp only; omega) _⟩
set_option maxHeartbeats 4000000 in
theorem goodKind3_true (a b : Int) (w : World) (hg : goodSt 3 a b = true) :
    Calls Tryz.prog 154 #[.agg #[.int .i64 3, .int .i64 a, .int .i64 b]] w fun e w' => e = .returned (.tuple #[.agg #[.func (.func 203) #[] #[], .func (.func 204) #[] #[], .func (.func 205) #[] #[]], .bool true]) ∧ Below w.heap.size w w' := by
  have HG := hid hg
  clear hg
  obtain ⟨w0, hw0⟩ : ∃ w0, w0 = (w.alloc (.cells #[.int .i64 3, .int .i64 a, .int .i64 b] 69)).alloc (.cells #[.nilFunc, .nilFunc, .nilFunc] 192) := ⟨_, rfl⟩
  have hB0 : Below w.heap.size w w0 := by rw [hw0]; exact below2 _ _ _
  have XS0 : Hid (Bx w0 w.heap.size [.int .i64 3, .int .i64 a, .int .i64 b]) := by rw [hw0]; exact Bx.alloc (Bx.new [.int .i64 3, .int .i64 a, .int .i64 b] _ rfl) _
  have XR0 : Hid (Bx w0 (w.heap.size + 1) [.nilFunc, .nilFunc, .nilFunc]) := by rw [hw0]; exact Bx.new [.nilFunc, .nilFunc, .nilFunc] _ (by simp)
  have H0 := hid hw0
  clear hw0
  go_enter Tryz.func154, Tryz.ntmps154
  go_wp2_with fail
  rw [← H0.out]
  refine (kindOf3_is a b w0).mono ?_
  rintro e w1 ⟨rfl, hb1⟩
  have hB1 := hB0.trans (hb1.mono hB0.size)
  have XS1 := hid ((XS0.out.later hb1).alloc (.cells #[.func (.func 203) #[] #[], .func (.func 204) #[] #[], .func (.func 205) #[] #[]] 192))
  have XR1 := hid ((XR0.out.later hb1).alloc (.cells #[.func (.func 203) #[] #[], .func (.func 204) #[] #[], .func (.func 205) #[] #[]] 192))
  have XK1 := hid (Bx.new (w := w1) (p := w1.heap.size) [.func (.func 203) #[] #[], .func (.func 204) #[] #[], .func (.func 205) #[] #[]] 192 rfl)
  have hB2 := Below.allocS hB1 (.cells #[.func (.func 203) #[] #[], .func (.func 204) #[] #[], .func (.func 205) #[] #[]] 192)
  clear XS0 XR0 hb1 hB1 hB0 H0
  have s0 := XS1.out.c 0 rfl
  have s1 := XS1.out.c 1 rfl
  have s2 := XS1.out.c 2 rfl
  have r0 := XR1.out.f 0 rfl
  have r1 := XR1.out.f 1 rfl
  have r2 := XR1.out.f 2 rfl
  have k0 := XK1.out.c 0 rfl
  have k1 := XK1.out.c 1 rfl
  have k2 := XK1.out.c 2 rfl
  have rz := XR1.out.size
  go_wp2_with fail
  clear s0 s1 s2 r0 r1 r2 k0 k1 k2 rz
  refine (goodExpand_is 3 a b _ true (HG.out)).mono ?_
  rintro e w2 ⟨rfl, hw2⟩
  have hb2 := below1 (w1.alloc (.cells #[.func (.func 203) #[] #[], .func (.func 204) #[] #[], .func (.func 205) #[] #[]] 192)) (.cells #[.int .i64 3, .int .i64 a, .int .i64 b] 69)
  rw [← hw2] at hb2
  have HW2 := hid hw2
  clear hw2
  have XR2 := hid (XR1.out.later hb2)
  have XK2 := hid (XK1.out.later hb2)
  have hB3 := hB2.trans (hb2.mono hB2.size)
  clear XS1 XR1 XK1 hb2 hB2 HW2
  have r0 := XR2.out.f 0 rfl
  have r1 := XR2.out.f 1 rfl
  have r2 := XR2.out.f 2 rfl
  have c0 := XR2.out.c 0 rfl
  have c1 := XR2.out.c 1 rfl
  have c2 := XR2.out.c 2 rfl
  have k0 := XK2.out.c 0 rfl
  have k1 := XK2.out.c 1 rfl
  have k2 := XK2.out.c 2 rfl
  have rz := XR2.out.size
  go_wp2
  exact bodyPost_ret (v := .tuple #[.agg #[.func (.func 203) #[] #[], .func (.func 204) #[] #[], .func (.func 205) #[] #[]], .bool true]) (by simp [results, Tryz.results154, go_sem, c0, c1, c2]) rfl ⟨rfl, ((hB3.setCell (p := ⟨w.heap.size + 1, 0, none⟩) (by dsimp only; omega) _).setCell (p := ⟨w.heap.size + 1, 1, none⟩) (by dsimp only; omega) _).setCell (p := ⟨w.heap.size + 1, 2, none⟩) (by dsimp only; omega) _⟩
set_option maxHeartbeats 4000000 in
theorem goodKind3_false (a b : Int) (w : World) (hg : goodSt 3 a b = false) :
    Calls Tryz.prog 154 #[.agg #[.int .i64 3, .int .i64 a, .int .i64 b]] w fun e w' => e = .returned (.tuple #[.agg #[.nilFunc, .nilFunc, .nilFunc], .bool false]) ∧ Below w.heap.size w w' := by
  have HG := hid hg
  clear hg
  obtain ⟨w0, hw0⟩ : ∃ w0, w0 = (w.alloc (.cells #[.int .i64 3, .int .i64 a, .int .i64 b] 69)).alloc (.cells #[.nilFunc, .nilFunc, .nilFunc] 192) := ⟨_, rfl⟩
  have hB0 : Below w.heap.size w w0 := by rw [hw0]; exact below2 _ _ _
  have XS0 : Hid (Bx w0 w.heap.size [.int .i64 3, .int .i64 a, .int .i64 b]) := by rw [hw0]; exact Bx.alloc (Bx.new [.int .i64 3, .int .i64 a, .int .i64 b] _ rfl) _
  have XR0 : Hid (Bx w0 (w.heap.size + 1) [.nilFunc, .nilFunc, .nilFunc]) := by rw [hw0]; exact Bx.new [.nilFunc, .nilFunc, .nilFunc] _ (by simp)
  have H0 := hid hw0
  clear hw0
  go_enter Tryz.func154, Tryz.ntmps154
  go_wp2_with fail
  rw [← H0.out]
  refine (kindOf3_is a b w0).mono ?_
  rintro e w1 ⟨rfl, hb1⟩
  have hB1 := hB0.trans (hb1.mono hB0.size)
  have XS1 := hid ((XS0.out.later hb1).alloc (.cells #[.func (.func 203) #[] #[], .func (.func 204) #[] #[], .func (.func 205) #[] #[]] 192))
  have XR1 := hid ((XR0.out.later hb1).alloc (.cells #[.func (.func 203) #[] #[], .func (.func 204) #[] #[], .func (.func 205) #[] #[]] 192))
  have XK1 := hid (Bx.new (w := w1) (p := w1.heap.size) [.func (.func 203) #[] #[], .func (.func 204) #[] #[], .func (.func 205) #[] #[]] 192 rfl)
  have hB2 := Below.allocS hB1 (.cells #[.func (.func 203) #[] #[], .func (.func 204) #[] #[], .func (.func 205) #[] #[]] 192)
  clear XS0 XR0 hb1 hB1 hB0 H0
  have s0 := XS1.out.c 0 rfl
  have s1 := XS1.out.c 1 rfl
  have s2 := XS1.out.c 2 rfl
  have r0 := XR1.out.f 0 rfl
  have r1 := XR1.out.f 1 rfl
  have r2 := XR1.out.f 2 rfl
  have k0 := XK1.out.c 0 rfl
  have k1 := XK1.out.c 1 rfl
  have k2 := XK1.out.c 2 rfl
  have rz := XR1.out.size
  go_wp2_with fail
  clear s0 s1 s2 r0 r1 r2 k0 k1 k2 rz
  refine (goodExpand_is 3 a b _ false (HG.out)).mono ?_
  rintro e w2 ⟨rfl, hw2⟩
  have hb2 := below1 (w1.alloc (.cells #[.func (.func 203) #[] #[], .func (.func 204) #[] #[], .func (.func 205) #[] #[]] 192)) (.cells #[.int .i64 3, .int .i64 a, .int .i64 b] 69)
  rw [← hw2] at hb2
  have HW2 := hid hw2
  clear hw2
  have XR2 := hid (XR1.out.later hb2)
  have XK2 := hid (XK1.out.later hb2)
  have hB3 := hB2.trans (hb2.mono hB2.size)
  clear XS1 XR1 XK1 hb2 hB2 HW2
  have r0 := XR2.out.f 0 rfl
  have r1 := XR2.out.f 1 rfl
  have r2 := XR2.out.f 2 rfl
  have c0 := XR2.out.c 0 rfl
  have c1 := XR2.out.c 1 rfl
  have c2 := XR2.out.c 2 rfl
  have k0 := XK2.out.c 0 rfl
  have k1 := XK2.out.c 1 rfl
  have k2 := XK2.out.c 2 rfl
  have rz := XR2.out.size
  go_wp2
  exact bodyPost_ret (v := .tuple #[.agg #[.nilFunc, .nilFunc, .nilFunc], .bool false]) (by simp [results, Tryz.results154, go_sem, c0, c1, c2]) rfl ⟨rfl, ((hB3.setCell (p := ⟨w.heap.size + 1, 0, none⟩) (by dsimp only; omega) _).setCell (p := ⟨w.heap.size + 1, 1, none⟩) (by dsimp only; omega) _).setCell (p := ⟨w.heap.size + 1, 2, none⟩) (by dsimp only; omega) _⟩
set_option maxHeartbeats 4000000 in
theorem goodKind4_true (a b : Int) (w : World) (hg : goodSt 4 a b = true) :
    Calls Tryz.prog 154 #[.agg #[.int .i64 4, .int .i64 a, .int .i64 b]] w fun e w' => e = .returned (.tuple #[.agg #[.func (.func 201) #[] #[], .func (.func 206) #[] #[], .func (.func 200) #[] #[]], .bool true]) ∧ Below w.heap.size w w' := by
  have HG := hid hg
  clear hg
  obtain ⟨w0, hw0⟩ : ∃ w0, w0 = (w.alloc (.cells #[.int .i64 4, .int .i64 a, .int .i64 b] 69)).alloc (.cells #[.nilFunc, .nilFunc, .nilFunc] 192) := ⟨_, rfl⟩
  have hB0 : Below w.heap.size w w0 := by rw [hw0]; exact below2 _ _ _
  have XS0 : Hid (Bx w0 w.heap.size [.int .i64 4, .int .i64 a, .int .i64 b]) := by rw [hw0]; exact Bx.alloc (Bx.new [.int .i64 4, .int .i64 a, .int .i64 b] _ rfl) _
  have XR0 : Hid (Bx w0 (w.heap.size + 1) [.nilFunc, .nilFunc, .nilFunc]) := by rw [hw0]; exact Bx.new [.nilFunc, .nilFunc, .nilFunc] _ (by simp)
  have H0 := hid hw0
  clear hw0
  go_enter Tryz.func154, Tryz.ntmps154
  go_wp2_with fail
  rw [← H0.out]
  refine (kindOf4_is a b w0).mono ?_
  rintro e w1 ⟨rfl, hb1⟩
  have hB1 := hB0.trans (hb1.mono hB0.size)
  have XS1 := hid ((XS0.out.later hb1).alloc (.cells #[.func (.func 201) #[] #[], .func (.func 206) #[] #[], .func (.func 200) #[] #[]] 192))
  have XR1 := hid ((XR0.out.later hb1).alloc (.cells #[.func (.func 201) #[] #[], .func (.func 206) #[] #[], .func (.func 200) #[] #[]] 192))
  have XK1 := hid (Bx.new (w := w1) (p := w1.heap.size) [.func (.func 201) #[] #[], .func (.func 206) #[] #[], .func (.func 200) #[] #[]] 192 rfl)
  have hB2 := Below.allocS hB1 (.cells #[.func (.func 201) #[] #[], .func (.func 206) #[] #[], .func (.func 200) #[] #[]] 192)
  clear XS0 XR0 hb1 hB1 hB0 H0
  have s0 := XS1.out.c 0 rfl
  have s1 := XS1.out.c 1 rfl
  have s2 := XS1.out.c 2 rfl
  have r0 := XR1.out.f 0 rfl
  have r1 := XR1.out.f 1 rfl
  have r2 := XR1.out.f 2 rfl
  have k0 := XK1.out.c 0 rfl
  have k1 := XK1.out.c 1 rfl
  have k2 := XK1.out.c 2 rfl
  have rz := XR1.out.size
  go_wp2_with fail
  clear s0 s1 s2 r0 r1 r2 k0 k1 k2 rz
  refine (goodRest_is 4 a b _ true (HG.out)).mono ?_
  rintro e w2 ⟨rfl, hw2⟩
  have hb2 := below1 (w1.alloc (.cells #[.func (.func 201) #[] #[], .func (.func 206) #[] #[], .func (.func 200) #[] #[]] 192)) (.cells #[.int .i64 4, .int .i64 a, .int .i64 b] 69)
  rw [← hw2] at hb2
  have HW2 := hid hw2
  clear hw2
  have XR2 := hid (XR1.out.later hb2)
  have XK2 := hid (XK1.out.later hb2)
  have hB3 := hB2.trans (hb2.mono hB2.size)
  clear XS1 XR1 XK1 hb2 hB2 HW2
  have r0 := XR2.out.f 0 rfl
  have r1 := XR2.out.f 1 rfl
  have r2 := XR2.out.f 2 rfl
  have c0 := XR2.out.c 0 rfl
  have c1 := XR2.out.c 1 rfl
  have c2 := XR2.out.c 2 rfl
  have k0 := XK2.out.c 0 rfl
  have k1 := XK2.out.c 1 rfl
  have k2 := XK2.out.c 2 rfl
  have rz := XR2.out.size
  go_wp2
  exact bodyPost_ret (v := .tuple #[.agg #[.func (.func 201) #[] #[], .func (.func 206) #[] #[], .func (.func 200) #[] #[]], .bool true]) (by simp [results, Tryz.results154, go_sem, c0, c1, c2]) rfl ⟨rfl, ((hB3.setCell (p := ⟨w.heap.size + 1, 0, none⟩) (by dsimp only; omega) _).setCell (p := ⟨w.heap.size + 1, 1, none⟩) (by dsimp only; omega) _).setCell (p := ⟨w.heap.size + 1, 2, none⟩) (by dsimp only; omega) _⟩
set_option maxHeartbeats 4000000 in
theorem goodKind4_false (a b : Int) (w : World) (hg : goodSt 4 a b = false) :
    Calls Tryz.prog 154 #[.agg #[.int .i64 4, .int .i64 a, .int .i64 b]] w fun e w' => e = .returned (.tuple #[.agg #[.nilFunc, .nilFunc, .nilFunc], .bool false]) ∧ Below w.heap.size w w' := by
  have HG := hid hg
  clear hg
  obtain ⟨w0, hw0⟩ : ∃ w0, w0 = (w.alloc (.cells #[.int .i64 4, .int .i64 a, .int .i64 b] 69)).alloc (.cells #[.nilFunc, .nilFunc, .nilFunc] 192) := ⟨_, rfl⟩
  have hB0 : Below w.heap.size w w0 := by rw [hw0]; exact below2 _ _ _
  have XS0 : Hid (Bx w0 w.heap.size [.int .i64 4, .int .i64 a, .int .i64 b]) := by rw [hw0]; exact Bx.alloc (Bx.new [.int .i64 4, .int .i64 a, .int .i64 b] _ rfl) _
  have XR0 : Hid (Bx w0 (w.heap.size + 1) [.nilFunc, .nilFunc, .nilFunc]) := by rw [hw0]; exact Bx.new [.nilFunc, .nilFunc, .nilFunc] _ (by simp)
  have H0 := hid hw0
  clear hw0
  go_enter Tryz.func154, Tryz.ntmps154
  go_wp2_with fail
  rw [← H0.out]
  refine (kindOf4_is a b w0).mono ?_
  rintro e w1 ⟨rfl, hb1⟩
  have hB1 := hB0.trans (hb1.mono hB0.size)
  have XS1 := hid ((XS0.out.later hb1).alloc (.cells #[.func (.func 201) #[] #[], .func (.func 206) #[] #[], .func (.func 200) #[] #[]] 192))
  have XR1 := hid ((XR0.out.later hb1).alloc (.cells #[.func (.func 201) #[] #[], .func (.func 206) #[] #[], .func (.func 200) #[] #[]] 192))
  have XK1 := hid (Bx.new (w := w1) (p := w1.heap.size) [.func (.func 201) #[] #[], .func (.func 206) #[] #[], .func (.func 200) #[] #[]] 192 rfl)
  have hB2 := Below.allocS hB1 (.cells #[.func (.func 201) #[] #[], .func (.func 206) #[] #[], .func (.func 200) #[] #[]] 192)
  clear XS0 XR0 hb1 hB1 hB0 H0
  have s0 := XS1.out.c 0 rfl
  have s1 := XS1.out.c 1 rfl
  have s2 := XS1.out.c 2 rfl
  have r0 := XR1.out.f 0 rfl
  have r1 := XR1.out.f 1 rfl
  have r2 := XR1.out.f 2 rfl
  have k0 := XK1.out.c 0 rfl
  have k1 := XK1.out.c 1 rfl
  have k2 := XK1.out.c 2 rfl
  have rz := XR1.out.size
  go_wp2_with fail
  clear s0 s1 s2 r0 r1 r2 k0 k1 k2 rz
  refine (goodRest_is 4 a b _ false (HG.out)).mono ?_
  rintro e w2 ⟨rfl, hw2⟩
  have hb2 := below1 (w1.alloc (.cells #[.func (.func 201) #[] #[], .func (.func 206) #[] #[], .func (.func 200) #[] #[]] 192)) (.cells #[.int .i64 4, .int .i64 a, .int .i64 b] 69)
  rw [← hw2] at hb2
  have HW2 := hid hw2
  clear hw2
  have XR2 := hid (XR1.out.later hb2)
  have XK2 := hid (XK1.out.later hb2)
  have hB3 := hB2.trans (hb2.mono hB2.size)
  clear XS1 XR1 XK1 hb2 hB2 HW2
  have r0 := XR2.out.f 0 rfl
  have r1 := XR2.out.f 1 rfl
  have r2 := XR2.out.f 2 rfl
  have c0 := XR2.out.c 0 rfl
  have c1 := XR2.out.c 1 rfl
  have c2 := XR2.out.c 2 rfl
  have k0 := XK2.out.c 0 rfl
  have k1 := XK2.out.c 1 rfl
  have k2 := XK2.out.c 2 rfl
  have rz := XR2.out.size
  go_wp2
  exact bodyPost_ret (v := .tuple #[.agg #[.nilFunc, .nilFunc, .nilFunc], .bool false]) (by simp [results, Tryz.results154, go_sem, c0, c1, c2]) rfl ⟨rfl, ((hB3.setCell (p := ⟨w.heap.size + 1, 0, none⟩) (by dsimp only; omega) _).setCell (p := ⟨w.heap.size + 1, 1, none⟩) (by dsimp only; omega) _).setCell (p := ⟨w.heap.size + 1, 2, none⟩) (by dsimp only; omega) _⟩
set_option maxHeartbeats 4000000 in
theorem goodKind0 (k a b : Int) (w : World) (h1 : k ≠ 1) (h2 : k ≠ 2) (h3 : k ≠ 3) (h4 : k ≠ 4) :
    Calls Tryz.prog 154 #[.agg #[.int .i64 k, .int .i64 a, .int .i64 b]] w fun e w' => e = .returned (.tuple #[.agg #[.nilFunc, .nilFunc, .nilFunc], .bool false]) ∧ Below w.heap.size w w' := by
  obtain ⟨w0, hw0⟩ : ∃ w0, w0 = (w.alloc (.cells #[.int .i64 k, .int .i64 a, .int .i64 b] 69)).alloc (.cells #[.nilFunc, .nilFunc, .nilFunc] 192) := ⟨_, rfl⟩
  have hB0 : Below w.heap.size w w0 := by rw [hw0]; exact below2 _ _ _
  have XR0 : Hid (Bx w0 (w.heap.size + 1) [.nilFunc, .nilFunc, .nilFunc]) := by rw [hw0]; exact Bx.new [.nilFunc, .nilFunc, .nilFunc] _ (by simp)
  have H0 := hid hw0
  clear hw0
  go_enter Tryz.func154, Tryz.ntmps154
  go_wp2_with fail
  rw [← H0.out]
  refine (kindOf0_is k a b w0 h1 h2 h3 h4).mono ?_
  rintro e w1 ⟨rfl, hb1⟩
  have hB1 := hB0.trans (hb1.mono hB0.size)
  have XR1 := hid ((XR0.out.later hb1).alloc (.cells #[.nilFunc, .nilFunc, .nilFunc] 192))
  have hB2 := Below.allocS hB1 (.cells #[.nilFunc, .nilFunc, .nilFunc] 192)
  clear XR0 hb1 hB1 hB0 H0
  have r0 := XR1.out.f 0 rfl
  have r1 := XR1.out.f 1 rfl
  have r2 := XR1.out.f 2 rfl
  have c0 := XR1.out.c 0 rfl
  have c1 := XR1.out.c 1 rfl
  have c2 := XR1.out.c 2 rfl
  have rz := XR1.out.size
  go_wp2
  exact bodyPost_ret (v := .tuple #[.agg #[.nilFunc, .nilFunc, .nilFunc], .bool false]) (by simp [results, Tryz.results154, go_sem, c0, c1, c2]) rfl ⟨rfl, ((hB2.setCell (p := ⟨w.heap.size + 1, 0, none⟩) (by dsimp only; omega) _).setCell (p := ⟨w.heap.size + 1, 1, none⟩) (by dsimp only; omega) _).setCell (p := ⟨w.heap.size + 1, 2, none⟩) (by dsimp only; omega) _⟩
theorem goodKind_no (k a b : Int) (w : World) (hg : goodSt k a b = false) :
    Calls Tryz.prog 154 #[.agg #[.int .i64 k, .int .i64 a, .int .i64 b]] w fun e w' => e = .returned (.tuple #[.agg #[.nilFunc, .nilFunc, .nilFunc], .bool false]) ∧ Below w.heap.size w w' := by
  rcases kinds k with rfl | rfl | rfl | rfl | ⟨h1, h2, h3, h4⟩
  · exact goodKind1_false a b w hg
  · exact goodKind2_false a b w hg
  · exact goodKind3_false a b w hg
  · exact goodKind4_false a b w hg
  · exact goodKind0 k a b w h1 h2 h3 h4
/-- What the program keeps of a kind. -/
def kindV (k : Int) : List Value := if k = 1 then [.func (.func 198) #[] #[], .func (.func 199) #[] #[], .func (.func 200) #[] #[]] else if k = 2 then [.func (.func 201) #[] #[], .func (.func 202) #[] #[], .func (.func 200) #[] #[]] else if k = 3 then [.func (.func 203) #[] #[], .func (.func 204) #[] #[], .func (.func 205) #[] #[]] else [.func (.func 201) #[] #[], .func (.func 206) #[] #[], .func (.func 200) #[] #[]]
theorem goodKind_yes (k a b : Int) (w : World) (hg : goodSt k a b = true) :
    Calls Tryz.prog 154 #[.agg #[.int .i64 k, .int .i64 a, .int .i64 b]] w fun e w' => (∃ g f m, kindV k = [g, f, m] ∧ e = .returned (.tuple #[.agg #[g, f, m], .bool true])) ∧ Below w.heap.size w w' := by
  rcases kinds k with rfl | rfl | rfl | rfl | ⟨h1, h2, h3, h4⟩
  · exact (goodKind1_true a b w hg).mono fun e w' h => ⟨⟨_, _, _, rfl, h.1⟩, h.2⟩
  · exact (goodKind2_true a b w hg).mono fun e w' h => ⟨⟨_, _, _, rfl, h.1⟩, h.2⟩
  · exact (goodKind3_true a b w hg).mono fun e w' h => ⟨⟨_, _, _, rfl, h.1⟩, h.2⟩
  · exact (goodKind4_true a b w hg).mono fun e w' h => ⟨⟨_, _, _, rfl, h.1⟩, h.2⟩
  · rw [goodSt0 h1 h2 h3 h4] at hg; cases hg
end
section
open Go.RowKit

set_option maxHeartbeats 2000000 in
theorem implGood1 (a b : Int) (w : World) (hg : goodSt 1 a b = true) :
    Calls Tryz.prog 183 #[.agg #[.int .i64 1, .int .i64 a, .int .i64 b]] w fun e w' => e = .returned (.bool true) ∧ Below w.heap.size w w' := by
  go_enter Tryz.func183, Tryz.ntmps183
  go_wp2_with fail
  refine (goodKind1_true a b _ hg).mono ?_
  rintro e w1 ⟨rfl, hb1⟩
  have hB1 := (below1 w (.cells #[.int .i64 1, .int .i64 a, .int .i64 b] 69)).trans (hb1.mono (by simp))
  clear hb1
  go_wp2
  go_ret
  exact ⟨rfl, Below.allocS hB1 _⟩
set_option maxHeartbeats 2000000 in
theorem implGood2 (a b : Int) (w : World) (hg : goodSt 2 a b = true) :
    Calls Tryz.prog 183 #[.agg #[.int .i64 2, .int .i64 a, .int .i64 b]] w fun e w' => e = .returned (.bool true) ∧ Below w.heap.size w w' := by
  go_enter Tryz.func183, Tryz.ntmps183
  go_wp2_with fail
  refine (goodKind2_true a b _ hg).mono ?_
  rintro e w1 ⟨rfl, hb1⟩
  have hB1 := (below1 w (.cells #[.int .i64 2, .int .i64 a, .int .i64 b] 69)).trans (hb1.mono (by simp))
  clear hb1
  go_wp2
  go_ret
  exact ⟨rfl, Below.allocS hB1 _⟩
set_option maxHeartbeats 2000000 in
theorem implGood3 (a b : Int) (w : World) (hg : goodSt 3 a b = true) :
    Calls Tryz.prog 183 #[.agg #[.int .i64 3, .int .i64 a, .int .i64 b]] w fun e w' => e = .returned (.bool true) ∧ Below w.heap.size w w' := by
  go_enter Tryz.func183, Tryz.ntmps183
  go_wp2_with fail
  refine (goodKind3_true a b _ hg).mono ?_
  rintro e w1 ⟨rfl, hb1⟩
  have hB1 := (below1 w (.cells #[.int .i64 3, .int .i64 a, .int .i64 b] 69)).trans (hb1.mono (by simp))
  clear hb1
  go_wp2
  go_ret
  exact ⟨rfl, Below.allocS hB1 _⟩
set_option maxHeartbeats 2000000 in
theorem implGood4 (a b : Int) (w : World) (hg : goodSt 4 a b = true) :
    Calls Tryz.prog 183 #[.agg #[.int .i64 4, .int .i64 a, .int .i64 b]] w fun e w' => e = .returned (.bool true) ∧ Below w.heap.size w w' := by
  go_enter Tryz.func183, Tryz.ntmps183
  go_wp2_with fail
  refine (goodKind4_true a b _ hg).mono ?_
  rintro e w1 ⟨rfl, hb1⟩
  have hB1 := (below1 w (.cells #[.int .i64 4, .int .i64 a, .int .i64 b] 69)).trans (hb1.mono (by simp))
  clear hb1
  go_wp2
  go_ret
  exact ⟨rfl, Below.allocS hB1 _⟩
set_option maxHeartbeats 2000000 in
theorem implGood0 (k a b : Int) (w : World) (hg : goodSt k a b = false) :
    Calls Tryz.prog 183 #[.agg #[.int .i64 k, .int .i64 a, .int .i64 b]] w fun e w' => e = .returned (.bool false) ∧ Below w.heap.size w w' := by
  go_enter Tryz.func183, Tryz.ntmps183
  go_wp2_with fail
  refine (goodKind_no k a b _ hg).mono ?_
  rintro e w1 ⟨rfl, hb1⟩
  have hB1 := (below1 w (.cells #[.int .i64 k, .int .i64 a, .int .i64 b] 69)).trans (hb1.mono (by simp))
  clear hb1
  go_wp2
  go_ret
  exact ⟨rfl, Below.allocS hB1 _⟩
theorem implGood_is (k a b : Int) (w : World) (r : Bool) (hg : goodSt k a b = r) :
    Calls Tryz.prog 183 #[.agg #[.int .i64 k, .int .i64 a, .int .i64 b]] w fun e w' => e = .returned (.bool r) ∧ Below w.heap.size w w' := by
  cases r with
  | false => exact implGood0 k a b w hg
  | true =>
    rcases kinds k with rfl | rfl | rfl | rfl | ⟨h1, h2, h3, h4⟩
    · exact implGood1 a b w hg
    · exact implGood2 a b w hg
    · exact implGood3 a b w hg
    · exact implGood4 a b w hg
    · rw [goodSt0 h1 h2 h3 h4] at hg; cases hg
/-- How many come out at most. -/
def factI (k a b : Int) : Int := if goodSt k a b = true then (if k = 3 then a else 1) else 0
set_option maxHeartbeats 2000000 in
theorem atMostOne_is (k a b : Int) (w : World) :
    Calls Tryz.prog 200 #[.agg #[.int .i64 k, .int .i64 a, .int .i64 b]] w fun e w' => e = .returned (.int .i64 1) ∧ Below w.heap.size w w' := by
  go_enter Tryz.func200, Tryz.ntmps200
  go_wp2
  go_ret
  exact ⟨rfl, below1 _ _⟩
set_option maxHeartbeats 2000000 in
theorem expandedTo_is (k a b : Int) (w : World) :
    Calls Tryz.prog 205 #[.agg #[.int .i64 k, .int .i64 a, .int .i64 b]] w fun e w' => e = .returned (.int .i64 a) ∧ Below w.heap.size w w' := by
  go_enter Tryz.func205, Tryz.ntmps205
  go_wp2
  go_ret
  exact ⟨rfl, below1 _ _⟩
set_option maxHeartbeats 2000000 in
theorem implFact0 (k a b : Int) (w : World) (hg : goodSt k a b = false) :
    Calls Tryz.prog 123 #[.agg #[.int .i64 k, .int .i64 a, .int .i64 b]] w fun e w' => e = .returned (.int .i64 0) ∧ Below w.heap.size w w' := by
  go_enter Tryz.func123, Tryz.ntmps123
  go_wp2_with fail
  refine (goodKind_no k a b _ hg).mono ?_
  rintro e w1 ⟨rfl, hb1⟩
  have hB1 := (below1 w (.cells #[.int .i64 k, .int .i64 a, .int .i64 b] 69)).trans (hb1.mono (by simp))
  clear hb1
  go_wp2
  go_ret
  exact ⟨rfl, Below.allocS hB1 _⟩
set_option maxHeartbeats 2000000 in
theorem implFact1 (a b : Int) (w : World) (hg : goodSt 1 a b = true) :
    Calls Tryz.prog 123 #[.agg #[.int .i64 1, .int .i64 a, .int .i64 b]] w fun e w' => e = .returned (.int .i64 1) ∧ Below w.heap.size w w' := by
  go_enter Tryz.func123, Tryz.ntmps123
  go_wp2_with fail
  refine (goodKind1_true a b _ hg).mono ?_
  rintro e w1 ⟨rfl, hb1⟩
  have hB1 := Below.allocS ((below1 w (.cells #[.int .i64 1, .int .i64 a, .int .i64 b] 69)).trans (hb1.mono (by simp))) (.cells #[.func (.func 198) #[] #[], .func (.func 199) #[] #[], .func (.func 200) #[] #[]] 192)
  have XS := hid (((Bx.new (w := w) (p := w.heap.size) [.int .i64 1, .int .i64 a, .int .i64 b] 69 rfl).later hb1).alloc (.cells #[.func (.func 198) #[] #[], .func (.func 199) #[] #[], .func (.func 200) #[] #[]] 192))
  have XK := hid (Bx.new (w := w1) (p := w1.heap.size) [.func (.func 198) #[] #[], .func (.func 199) #[] #[], .func (.func 200) #[] #[]] 192 rfl)
  clear hb1
  have s0 := XS.out.c 0 rfl
  have s1 := XS.out.c 1 rfl
  have s2 := XS.out.c 2 rfl
  have k0 := XK.out.c 0 rfl
  have k1 := XK.out.c 1 rfl
  have k2 := XK.out.c 2 rfl
  go_wp2_with fail
  refine (atMostOne_is 1 a b _).mono ?_
  rintro e w2 ⟨rfl, hb2⟩
  have hB2 := hB1.trans (hb2.mono hB1.size)
  clear hb2 hB1 XS XK s0 s1 s2 k0 k1 k2
  go_wp2
  go_ret
  exact ⟨rfl, hB2⟩
set_option maxHeartbeats 2000000 in
theorem implFact2 (a b : Int) (w : World) (hg : goodSt 2 a b = true) :
    Calls Tryz.prog 123 #[.agg #[.int .i64 2, .int .i64 a, .int .i64 b]] w fun e w' => e = .returned (.int .i64 1) ∧ Below w.heap.size w w' := by
  go_enter Tryz.func123, Tryz.ntmps123
  go_wp2_with fail
  refine (goodKind2_true a b _ hg).mono ?_
  rintro e w1 ⟨rfl, hb1⟩
  have hB1 := Below.allocS ((below1 w (.cells #[.int .i64 2, .int .i64 a, .int .i64 b] 69)).trans (hb1.mono (by simp))) (.cells #[.func (.func 201) #[] #[], .func (.func 202) #[] #[], .func (.func 200) #[] #[]] 192)
  have XS := hid (((Bx.new (w := w) (p := w.heap.size) [.int .i64 2, .int .i64 a, .int .i64 b] 69 rfl).later hb1).alloc (.cells #[.func (.func 201) #[] #[], .func (.func 202) #[] #[], .func (.func 200) #[] #[]] 192))
  have XK := hid (Bx.new (w := w1) (p := w1.heap.size) [.func (.func 201) #[] #[], .func (.func 202) #[] #[], .func (.func 200) #[] #[]] 192 rfl)
  clear hb1
  have s0 := XS.out.c 0 rfl
  have s1 := XS.out.c 1 rfl
  have s2 := XS.out.c 2 rfl
  have k0 := XK.out.c 0 rfl
  have k1 := XK.out.c 1 rfl
  have k2 := XK.out.c 2 rfl
  go_wp2_with fail
  refine (atMostOne_is 2 a b _).mono ?_
  rintro e w2 ⟨rfl, hb2⟩
  have hB2 := hB1.trans (hb2.mono hB1.size)
  clear hb2 hB1 XS XK s0 s1 s2 k0 k1 k2
  go_wp2
  go_ret
  exact ⟨rfl, hB2⟩
set_option maxHeartbeats 2000000 in
theorem implFact3 (a b : Int) (w : World) (hg : goodSt 3 a b = true) :
    Calls Tryz.prog 123 #[.agg #[.int .i64 3, .int .i64 a, .int .i64 b]] w fun e w' => e = .returned (.int .i64 a) ∧ Below w.heap.size w w' := by
  go_enter Tryz.func123, Tryz.ntmps123
  go_wp2_with fail
  refine (goodKind3_true a b _ hg).mono ?_
  rintro e w1 ⟨rfl, hb1⟩
  have hB1 := Below.allocS ((below1 w (.cells #[.int .i64 3, .int .i64 a, .int .i64 b] 69)).trans (hb1.mono (by simp))) (.cells #[.func (.func 203) #[] #[], .func (.func 204) #[] #[], .func (.func 205) #[] #[]] 192)
  have XS := hid (((Bx.new (w := w) (p := w.heap.size) [.int .i64 3, .int .i64 a, .int .i64 b] 69 rfl).later hb1).alloc (.cells #[.func (.func 203) #[] #[], .func (.func 204) #[] #[], .func (.func 205) #[] #[]] 192))
  have XK := hid (Bx.new (w := w1) (p := w1.heap.size) [.func (.func 203) #[] #[], .func (.func 204) #[] #[], .func (.func 205) #[] #[]] 192 rfl)
  clear hb1
  have s0 := XS.out.c 0 rfl
  have s1 := XS.out.c 1 rfl
  have s2 := XS.out.c 2 rfl
  have k0 := XK.out.c 0 rfl
  have k1 := XK.out.c 1 rfl
  have k2 := XK.out.c 2 rfl
  go_wp2_with fail
  refine (expandedTo_is 3 a b _).mono ?_
  rintro e w2 ⟨rfl, hb2⟩
  have hB2 := hB1.trans (hb2.mono hB1.size)
  clear hb2 hB1 XS XK s0 s1 s2 k0 k1 k2
  go_wp2
  go_ret
  exact ⟨rfl, hB2⟩
set_option maxHeartbeats 2000000 in
theorem implFact4 (a b : Int) (w : World) (hg : goodSt 4 a b = true) :
    Calls Tryz.prog 123 #[.agg #[.int .i64 4, .int .i64 a, .int .i64 b]] w fun e w' => e = .returned (.int .i64 1) ∧ Below w.heap.size w w' := by
  go_enter Tryz.func123, Tryz.ntmps123
  go_wp2_with fail
  refine (goodKind4_true a b _ hg).mono ?_
  rintro e w1 ⟨rfl, hb1⟩
  have hB1 := Below.allocS ((below1 w (.cells #[.int .i64 4, .int .i64 a, .int .i64 b] 69)).trans (hb1.mono (by simp))) (.cells #[.func (.func 201) #[] #[], .func (.func 206) #[] #[], .func (.func 200) #[] #[]] 192)
  have XS := hid (((Bx.new (w := w) (p := w.heap.size) [.int .i64 4, .int .i64 a, .int .i64 b] 69 rfl).later hb1).alloc (.cells #[.func (.func 201) #[] #[], .func (.func 206) #[] #[], .func (.func 200) #[] #[]] 192))
  have XK := hid (Bx.new (w := w1) (p := w1.heap.size) [.func (.func 201) #[] #[], .func (.func 206) #[] #[], .func (.func 200) #[] #[]] 192 rfl)
  clear hb1
  have s0 := XS.out.c 0 rfl
  have s1 := XS.out.c 1 rfl
  have s2 := XS.out.c 2 rfl
  have k0 := XK.out.c 0 rfl
  have k1 := XK.out.c 1 rfl
  have k2 := XK.out.c 2 rfl
  go_wp2_with fail
  refine (atMostOne_is 4 a b _).mono ?_
  rintro e w2 ⟨rfl, hb2⟩
  have hB2 := hB1.trans (hb2.mono hB1.size)
  clear hb2 hB1 XS XK s0 s1 s2 k0 k1 k2
  go_wp2
  go_ret
  exact ⟨rfl, hB2⟩
theorem implFact_is (k a b : Int) (w : World) (z : Int) (hz : factI k a b = z) :
    Calls Tryz.prog 123 #[.agg #[.int .i64 k, .int .i64 a, .int .i64 b]] w fun e w' => e = .returned (.int .i64 z) ∧ Below w.heap.size w w' := by
  subst hz
  unfold factI
  rcases hg : goodSt k a b with _ | _
  · exact implFact0 k a b w hg
  · rw [if_pos rfl]
    rcases kinds k with rfl | rfl | rfl | rfl | ⟨h1, h2, h3, h4⟩
    · exact implFact1 a b w hg
    · exact implFact2 a b w hg
    · exact implFact3 a b w hg
    · exact implFact4 a b w hg
    · rw [goodSt0 h1 h2 h3 h4] at hg; cases hg
set_option maxHeartbeats 2000000 in
theorem specFact_is (k a b : Int) (w : World) (z : Int) (hz : factI k a b = z) :
    Calls Tryz.prog 118 #[.agg #[.int .i64 k, .int .i64 a, .int .i64 b]] w fun e w' => e = .returned (.int .i64 z) ∧ Below w.heap.size w w' := by
  subst hz
  unfold factI
  rcases hg : goodSt k a b with _ | _
  · have HG := hid hg
    clear hg
    go_enter Tryz.func118, Tryz.ntmps118
    go_wp2_with fail
    refine (specGood_is k a b _ _ HG.out).mono ?_
    rintro e w1 ⟨rfl, hw1⟩
    rw [hw1]; clear hw1 w1
    go_wp2
    go_ret
    exact ⟨rfl, below2 _ _ _⟩
  · have HG := hid hg
    clear hg
    rw [if_pos rfl]
    by_cases h3 : k = 3
    · subst h3
      go_enter Tryz.func118, Tryz.ntmps118
      go_wp2_with fail
      refine (specGood_is 3 a b _ _ HG.out).mono ?_
      rintro e w1 ⟨rfl, hw1⟩
      rw [hw1]; clear hw1 w1
      go_wp2
      go_ret
      exact ⟨rfl, below2 _ _ _⟩
    · have k3 : (k == 3) = false := by simpa using h3
      rw [if_neg h3]
      clear h3
      go_enter Tryz.func118, Tryz.ntmps118
      go_wp2_with fail
      refine (specGood_is k a b _ _ HG.out).mono ?_
      rintro e w1 ⟨rfl, hw1⟩
      rw [hw1]; clear hw1 w1
      go_wp2
      go_ret
      exact ⟨rfl, below2 _ _ _⟩
set_option maxHeartbeats 2000000 in
theorem toStage_any (x1 x2 x3 : Int) (w : World) :
    Calls Tryz.prog 66 #[.agg #[.int .i64 x1, .int .i64 x2, .int .i64 x3]] w fun e w' => e = .returned (.agg #[.int .i64 x1, .int .i64 x2, .int .i64 x3]) ∧ Below w.heap.size w w' := by
  go_enter Tryz.func66, Tryz.ntmps66
  go_wp2
  exact bodyPost_ret (v := .agg #[.int .i64 x1, .int .i64 x2, .int .i64 x3]) (by simp [results, Tryz.results66, go_sem]) rfl ⟨rfl, below3 _ _ _ _⟩
end
section
open Go.RowKit

/-- A world in which all that V holds stands as it stood. -/
structure Later (V : World) where
  w : World
  h : Below V.heap.size V w
theorem later_some (V : World) : Nonempty (Later V) := ⟨⟨V, Below.refl _ _⟩⟩
theorem wp_region_later (V : World) {id : Nat} {Q : Exit → Act → World → Prop} {a : Act} {w : World} {l : List Oper} (hm : Tryz.prog.follows .mixedOrders = true) (hB : Region.lexB .any l.toArray = true) (hw : Below V.heap.size V w)
    (h : wpQuiet Tryz.prog l.toArray (fun w' => ∃ W : Later V, w' = W.w) (fun a' => ∀ w', (∃ W : Later V, w' = W.w) → Q .normal a' w') l a) : (Code.region id l.toArray true).wp Tryz.prog Q a w :=
  wp_region_quiet (C := fun w' => ∃ W : Later V, w' = W.w) hm hB ⟨⟨_, hw.drew⟩, rfl⟩ (by simpa using h)
theorem Later.cell {V : World} {p : Addr} {v : Value} (h : V.cell? p = some v) (hp : p.block < V.heap.size) (W : Later V) : W.w.cell? p = some v := (W.h.cell hp).trans h
theorem Bx.at {V : World} {p : Nat} {us : List Value} (h : Bx V p us) (i : Nat) {v : Value} (e : us[i]? = some v) (W : Later V) : W.w.cell? ⟨p, i, none⟩ = some v := (h.later W.h).c i e
theorem Calls.later {V : World} {W : Later V} {f : FuncId} {args : Array Value} {v : Value} (h : Calls Tryz.prog f args W.w fun e w' => e = .returned v ∧ Below W.w.heap.size W.w w') : Calls Tryz.prog f args W.w fun e w'' => e = .returned v ∧ ∃ W' : Later V, w'' = W'.w :=
  h.mono fun _ w2 ⟨he, hb⟩ => ⟨he, ⟨w2, W.h.trans (hb.mono W.h.size)⟩, rfl⟩
theorem Calls.later_same {V : World} {W : Later V} {f : FuncId} {args : Array Value} {v : Value} (h : Calls Tryz.prog f args W.w fun e w' => e = .returned v ∧ w' = W.w) : Calls Tryz.prog f args W.w fun e w'' => e = .returned v ∧ ∃ W' : Later V, w'' = W'.w :=
  h.mono fun _ _ ⟨he, hb⟩ => ⟨he, W, hb⟩
end
section
open Go.RowKit

/-- Two texts are one. -/
def sameT (a b : ByteArray) : Bool := a.toList == b.toList
/-- Texts that are not too long for any machine. -/
def FitN (ts : List LNode) : Prop := ∀ a ∈ ts, a.1.size ≤ 1048576 ∧ a.2.2.2.2.2.2.2.length ≤ 1048576
theorem Tryz.enters84 : ∀ args w, (callFunc 195 args).run Tryz.prog w = .ok (.enter 195 args) w := enters_of Tryz.func195 (by kernel_rfl) rfl
theorem Tryz.enters85 : ∀ args w, (callFunc 196 args).run Tryz.prog w = .ok (.enter 196 args) w := enters_of Tryz.func196 (by kernel_rfl) rfl
set_option maxHeartbeats 1000000 in
theorem hasName1_is (x : LNode) (p : Nat) (nm : ByteArray) (w : World) (hp : p < w.heap.size) (hc : w.cell? ⟨p, 0, none⟩ = some (.string nm)) :
    Calls Tryz.prog 195 #[nodeV x, .pointer (some ⟨p, 0, none⟩)] w fun e w' => e = .returned (.bool (sameT x.1 nm)) ∧ Below w.heap.size w w' := by
  obtain ⟨n2, kd, sa, sb, cp, ⟨nxo, nxc, nx⟩⟩ := x
  unfold nodeV
  dsimp only
  go_enter Tryz.func195, Tryz.ntmps195
  go_wp2
  go_ret
  exact ⟨rfl, below1 _ _⟩
set_option maxHeartbeats 1000000 in
theorem hasName_is (ao : Option Addr) (cap : Nat) (ts : List LNode) (nm : ByteArray) (w : World) (hl : ts.length ≤ 1048576) (hz : hNode.In w.heap.size w ao ts) :
    Calls Tryz.prog 181 #[.slice ao ts.length cap, .string nm] w fun e w' => e = .returned (.bool (ts.any fun x => sameT x.1 nm)) ∧ Below w.heap.size w w' := by
  obtain ⟨V, hV⟩ : ∃ V, V = w.alloc (.cells #[.string nm] 9) := ⟨_, rfl⟩
  have hb : Below w.heap.size w V := by rw [hV]; exact below1 _ _
  have hX : Bx V w.heap.size [.string nm] := by rw [hV]; exact Bx.new [.string nm] _ rfl
  have hcon := containsFuncN_any 195 #[.pointer (some ⟨w.heap.size, 0, none⟩)] Tryz.enters84 ao cap ts (fun x => sameT x.1 nm) V hl (hz.later hb) (fun x W _ hW => hasName1_is x w.heap.size nm W (by have := hW.size; have := hX.size; omega) ((hX.later hW).c 0 rfl))
  have HV := hid hV
  have HB := hid hb
  clear hV hX hz hb
  go_enter Tryz.func181, Tryz.ntmps181
  go_wp2_with fail
  rw [← HV.out]
  refine hcon.mono ?_
  rintro e w1 ⟨rfl, hb1⟩
  have hB1 : Below w.heap.size w w1 := HB.out.trans (hb1.mono HB.out.size)
  clear hb1
  go_wp2
  go_ret
  exact ⟨rfl, hB1⟩
/-- What a node leads to is as it must be. -/
def noneI (m x : Int) : Bool := decide (x < 0) || decide (m ≤ x)
def goodNx (nx : List Int) (m : Int) : Bool := decide ((nx.length : Int) ≤ m) && (!nx.any (noneI m) && onceB nx)
set_option maxHeartbeats 1000000 in
theorem goodNext1_is (x m : Int) (p : Nat) (w : World) (hc : w.cell? ⟨p, 0, none⟩ = some (.int .i64 m)) :
    Calls Tryz.prog 196 #[.int .i64 x, .pointer (some ⟨p, 0, none⟩)] w fun e w' => e = .returned (.bool (noneI m x)) ∧ Below w.heap.size w w' := by
  by_cases h : x < 0
  · have e : noneI m x = true := by simp [noneI, h]
    rw [e]
    go_enter Tryz.func196, Tryz.ntmps196
    go_wp2
    go_ret
    exact ⟨rfl, Below.refl _ _⟩
  · have e : noneI m x = decide (m ≤ x) := by simp [noneI, h]
    rw [e]
    go_enter Tryz.func196, Tryz.ntmps196
    go_wp2
    go_ret
    exact ⟨rfl, Below.refl _ _⟩
set_option maxHeartbeats 2000000 in
theorem goodNext_is (ao : Option Addr) (cap : Nat) (nx : List Int) (m : Int) (w : World) (hl : nx.length ≤ 1048576) (hcap : nx.length ≤ cap) (hz : kI.In w.heap.size w ao nx) :
    Calls Tryz.prog 186 #[.slice ao nx.length cap, .int .i64 m] w fun e w' => e = .returned (.bool (goodNx nx m)) ∧ Below w.heap.size w w' := by
  obtain ⟨V, hV⟩ : ∃ V, V = w.alloc (.cells #[.int .i64 m] 3) := ⟨_, rfl⟩
  have hb : Below w.heap.size w V := by rw [hV]; exact below1 _ _
  have hX : Bx V w.heap.size [.int .i64 m] := by rw [hV]; exact Bx.new [.int .i64 m] _ rfl
  have hcon := containsFuncI_any 196 #[.pointer (some ⟨w.heap.size, 0, none⟩)] Tryz.enters85 ao cap nx (noneI m) V hl (hz.later hb) (fun x W _ hW => goodNext1_is x m w.heap.size W ((hX.later hW).c 0 rfl))
  have c0 := hX.c 0 rfl
  have hs := hX.size
  have HV := hid hV
  have HB := hid hb
  have HZ := hid hz
  clear hV hX hz hb
  by_cases h1 : (nx.length : Int) ≤ m
  · cases h2 : nx.any (noneI m)
    · rw [h2] at hcon
      have e : goodNx nx m = onceB nx := by simp [goodNx, h1, h2]
      rw [e]
      clear e h2
      go_enter Tryz.func186, Tryz.ntmps186
      go_wp2_with fail
      rw [← HV.out]
      refine hcon.mono ?_
      rintro e w1 ⟨rfl, hb1⟩
      have hB1 : Below w.heap.size w w1 := HB.out.trans (hb1.mono HB.out.size)
      clear hb1
      go_wp2_with fail
      refine (noneTwice_is w1.heap.size ao cap nx w1 (onceB nx) hl hcap (HZ.out.later hB1) rfl).mono ?_
      rintro e w2 ⟨rfl, rfl⟩
      go_wp2
      go_ret
      exact ⟨rfl, hB1⟩
    · rw [h2] at hcon
      have e : goodNx nx m = false := by simp [goodNx, h2]
      rw [e]
      clear e h2
      go_enter Tryz.func186, Tryz.ntmps186
      go_wp2_with fail
      rw [← HV.out]
      refine hcon.mono ?_
      rintro e w1 ⟨rfl, hb1⟩
      have hB1 : Below w.heap.size w w1 := HB.out.trans (hb1.mono HB.out.size)
      clear hb1
      go_wp2
      go_ret
      exact ⟨rfl, hB1⟩
  · have e : goodNx nx m = false := by simp [goodNx, h1]
    rw [e]
    clear hcon e
    go_enter Tryz.func186, Tryz.ntmps186
    go_wp2
    go_ret
    exact ⟨rfl, by rw [← HV.out]; exact HB.out⟩
end
end Go.Proofs.YtoeonbdoopboiaaGreatDoor
