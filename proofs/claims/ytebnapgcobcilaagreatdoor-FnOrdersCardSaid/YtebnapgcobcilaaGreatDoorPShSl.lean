/- Stages: when the program finds them good, and what it keeps of each kind. No conditions but those written. Stages: what the program finds good, and how many come out. No conditions but those written. Stages: GoodStage and FactorOf on both sides, and their laws' walks. No conditions but those written. Stages: what a stage makes of a value, on both sides. No conditions but those written. Stages: what a stage makes of a value: the walks. No conditions but those written. -/
import Derived.Test.YtebnapgcobcilaaGreatDoorPGenSg
import Derived.Laws.EntriesVeiled
import Derived.Deep.Cut
namespace Go.Proofs.YtebnapgcobcilaaGreatDoor
section
open Go.RowKit

set_option maxHeartbeats 2000000 in
theorem goodMap_is (k a b : Int) (w : World) (r : Bool) (hr : ((decide (-100 ≤ a) && decide (a ≤ 100)) && valB b) = r) :
    Calls Tryz.prog 102 #[.agg #[.int .i64 k, .int .i64 a, .int .i64 b]] w fun e w' => e = .returned (.bool r) ∧ w' = w.alloc (.cells #[.int .i64 k, .int .i64 a, .int .i64 b] 32) := by
  subst hr
  by_cases h1 : -100 ≤ a
  · by_cases h2 : a ≤ 100
    · have hd : Hid ((decide (-100 ≤ a) && decide (a ≤ 100) && valB b) = valB b) := by show _ = _; simp [h1, h2]
      rw [hd.out]
      go_enter Tryz.func102, Tryz.ntmps102
      go_wp2_with fail
      refine (isValue_is b _ _ rfl).mono ?_
      rintro e w1 ⟨rfl, hw1⟩
      rw [hw1]; clear hw1 w1
      go_wp2
      go_ret
      exact ⟨rfl, rfl⟩
    · have h2' : decide (a ≤ 100) = false := by simpa using h2
      have hd : Hid ((decide (-100 ≤ a) && decide (a ≤ 100) && valB b) = false) := by show _ = _; simp [h1, h2]
      rw [hd.out]
      go_enter Tryz.func102, Tryz.ntmps102
      go_wp2
      go_ret
      exact ⟨rfl, rfl⟩
  · have h1' : decide (-100 ≤ a) = false := by simpa using h1
    have hd : Hid ((decide (-100 ≤ a) && decide (a ≤ 100) && valB b) = false) := by show _ = _; simp [h1]
    rw [hd.out]
    go_enter Tryz.func102, Tryz.ntmps102
    go_wp2
    go_ret
    exact ⟨rfl, rfl⟩
set_option maxHeartbeats 2000000 in
theorem goodRest_is (k a b : Int) (w : World) (r : Bool) (hr : ((decide (1 ≤ a) && decide (a ≤ 1000)) && (decide (0 ≤ b) && decide (b ≤ a - 1))) = r) :
    Calls Tryz.prog 105 #[.agg #[.int .i64 k, .int .i64 a, .int .i64 b]] w fun e w' => e = .returned (.bool r) ∧ w' = w.alloc (.cells #[.int .i64 k, .int .i64 a, .int .i64 b] 32) := by
  subst hr
  by_cases h0 : 1 ≤ a
  · skip
    by_cases h1 : a ≤ 1000
    · skip
      by_cases h2 : 0 ≤ b
      · skip
        by_cases h3 : b < a
        · skip
          have hd : Hid (((decide (1 ≤ a) && decide (a ≤ 1000)) && (decide (0 ≤ b) && decide (b ≤ a - 1))) = true) := by show _ = _; simp; omega
          rw [hd.out]
          go_enter Tryz.func105, Tryz.ntmps105
          go_wp2
          go_ret
          exact ⟨rfl, rfl⟩
        · have hn : decide (b < a) = false := by simpa using h3
          have hd : Hid (((decide (1 ≤ a) && decide (a ≤ 1000)) && (decide (0 ≤ b) && decide (b ≤ a - 1))) = false) := by show _ = _; rcases hx : ((decide (1 ≤ a) && decide (a ≤ 1000)) && (decide (0 ≤ b) && decide (b ≤ a - 1))) with _ | _ <;> simp at hx <;> first | rfl | omega
          rw [hd.out]
          go_enter Tryz.func105, Tryz.ntmps105
          go_wp2
          go_ret
          exact ⟨rfl, rfl⟩
      · have hn : decide (0 ≤ b) = false := by simpa using h2
        have hd : Hid (((decide (1 ≤ a) && decide (a ≤ 1000)) && (decide (0 ≤ b) && decide (b ≤ a - 1))) = false) := by show _ = _; rcases hx : ((decide (1 ≤ a) && decide (a ≤ 1000)) && (decide (0 ≤ b) && decide (b ≤ a - 1))) with _ | _ <;> simp at hx <;> first | rfl | omega
        rw [hd.out]
        go_enter Tryz.func105, Tryz.ntmps105
        go_wp2
        go_ret
        exact ⟨rfl, rfl⟩
    · have hn : decide (a ≤ 1000) = false := by simpa using h1
      have hd : Hid (((decide (1 ≤ a) && decide (a ≤ 1000)) && (decide (0 ≤ b) && decide (b ≤ a - 1))) = false) := by show _ = _; rcases hx : ((decide (1 ≤ a) && decide (a ≤ 1000)) && (decide (0 ≤ b) && decide (b ≤ a - 1))) with _ | _ <;> simp at hx <;> first | rfl | omega
      rw [hd.out]
      go_enter Tryz.func105, Tryz.ntmps105
      go_wp2
      go_ret
      exact ⟨rfl, rfl⟩
  · have hn : decide (1 ≤ a) = false := by simpa using h0
    have hd : Hid (((decide (1 ≤ a) && decide (a ≤ 1000)) && (decide (0 ≤ b) && decide (b ≤ a - 1))) = false) := by show _ = _; rcases hx : ((decide (1 ≤ a) && decide (a ≤ 1000)) && (decide (0 ≤ b) && decide (b ≤ a - 1))) with _ | _ <;> simp at hx <;> first | rfl | omega
    rw [hd.out]
    go_enter Tryz.func105, Tryz.ntmps105
    go_wp2
    go_ret
    exact ⟨rfl, rfl⟩
set_option maxHeartbeats 2000000 in
theorem goodExpand_is (k a b : Int) (w : World) (r : Bool) (hr : ((decide (1 ≤ a) && decide (a ≤ 3)) && (decide (-1000 ≤ b) && decide (b ≤ 1000))) = r) :
    Calls Tryz.prog 107 #[.agg #[.int .i64 k, .int .i64 a, .int .i64 b]] w fun e w' => e = .returned (.bool r) ∧ w' = w.alloc (.cells #[.int .i64 k, .int .i64 a, .int .i64 b] 32) := by
  subst hr
  by_cases h0 : 1 ≤ a
  · skip
    by_cases h1 : a ≤ 3
    · skip
      by_cases h2 : -1000 ≤ b
      · skip
        by_cases h3 : b ≤ 1000
        · skip
          have hd : Hid (((decide (1 ≤ a) && decide (a ≤ 3)) && (decide (-1000 ≤ b) && decide (b ≤ 1000))) = true) := by show _ = _; simp; omega
          rw [hd.out]
          go_enter Tryz.func107, Tryz.ntmps107
          go_wp2
          go_ret
          exact ⟨rfl, rfl⟩
        · have hn : decide (b ≤ 1000) = false := by simpa using h3
          have hd : Hid (((decide (1 ≤ a) && decide (a ≤ 3)) && (decide (-1000 ≤ b) && decide (b ≤ 1000))) = false) := by show _ = _; rcases hx : ((decide (1 ≤ a) && decide (a ≤ 3)) && (decide (-1000 ≤ b) && decide (b ≤ 1000))) with _ | _ <;> simp at hx <;> first | rfl | omega
          rw [hd.out]
          go_enter Tryz.func107, Tryz.ntmps107
          go_wp2
          go_ret
          exact ⟨rfl, rfl⟩
      · have hn : decide (-1000 ≤ b) = false := by simpa using h2
        have hd : Hid (((decide (1 ≤ a) && decide (a ≤ 3)) && (decide (-1000 ≤ b) && decide (b ≤ 1000))) = false) := by show _ = _; rcases hx : ((decide (1 ≤ a) && decide (a ≤ 3)) && (decide (-1000 ≤ b) && decide (b ≤ 1000))) with _ | _ <;> simp at hx <;> first | rfl | omega
        rw [hd.out]
        go_enter Tryz.func107, Tryz.ntmps107
        go_wp2
        go_ret
        exact ⟨rfl, rfl⟩
    · have hn : decide (a ≤ 3) = false := by simpa using h1
      have hd : Hid (((decide (1 ≤ a) && decide (a ≤ 3)) && (decide (-1000 ≤ b) && decide (b ≤ 1000))) = false) := by show _ = _; rcases hx : ((decide (1 ≤ a) && decide (a ≤ 3)) && (decide (-1000 ≤ b) && decide (b ≤ 1000))) with _ | _ <;> simp at hx <;> first | rfl | omega
      rw [hd.out]
      go_enter Tryz.func107, Tryz.ntmps107
      go_wp2
      go_ret
      exact ⟨rfl, rfl⟩
  · have hn : decide (1 ≤ a) = false := by simpa using h0
    have hd : Hid (((decide (1 ≤ a) && decide (a ≤ 3)) && (decide (-1000 ≤ b) && decide (b ≤ 1000))) = false) := by show _ = _; rcases hx : ((decide (1 ≤ a) && decide (a ≤ 3)) && (decide (-1000 ≤ b) && decide (b ≤ 1000))) with _ | _ <;> simp at hx <;> first | rfl | omega
    rw [hd.out]
    go_enter Tryz.func107, Tryz.ntmps107
    go_wp2
    go_ret
    exact ⟨rfl, rfl⟩
set_option maxHeartbeats 2000000 in
theorem kindOf1_is (a b : Int) (w : World) :
    Calls Tryz.prog 94 #[.agg #[.int .i64 1, .int .i64 a, .int .i64 b]] w fun e w' => e = .returned (.tuple #[.agg #[.func (.func 102) #[] #[], .func (.func 103) #[] #[], .func (.func 104) #[] #[]], .bool true]) ∧ Below w.heap.size w w' := by
  go_enter Tryz.func94, Tryz.ntmps94
  go_wp2
  exact bodyPost_ret (v := .tuple #[.agg #[.func (.func 102) #[] #[], .func (.func 103) #[] #[], .func (.func 104) #[] #[]], .bool true]) (by simp [results, Tryz.results94, go_sem]) rfl ⟨rfl, below2 _ _ _⟩
set_option maxHeartbeats 2000000 in
theorem kindOf2_is (a b : Int) (w : World) :
    Calls Tryz.prog 94 #[.agg #[.int .i64 2, .int .i64 a, .int .i64 b]] w fun e w' => e = .returned (.tuple #[.agg #[.func (.func 105) #[] #[], .func (.func 106) #[] #[], .func (.func 104) #[] #[]], .bool true]) ∧ Below w.heap.size w w' := by
  go_enter Tryz.func94, Tryz.ntmps94
  go_wp2
  exact bodyPost_ret (v := .tuple #[.agg #[.func (.func 105) #[] #[], .func (.func 106) #[] #[], .func (.func 104) #[] #[]], .bool true]) (by simp [results, Tryz.results94, go_sem]) rfl ⟨rfl, below2 _ _ _⟩
set_option maxHeartbeats 2000000 in
theorem kindOf3_is (a b : Int) (w : World) :
    Calls Tryz.prog 94 #[.agg #[.int .i64 3, .int .i64 a, .int .i64 b]] w fun e w' => e = .returned (.tuple #[.agg #[.func (.func 107) #[] #[], .func (.func 108) #[] #[], .func (.func 109) #[] #[]], .bool true]) ∧ Below w.heap.size w w' := by
  go_enter Tryz.func94, Tryz.ntmps94
  go_wp2
  exact bodyPost_ret (v := .tuple #[.agg #[.func (.func 107) #[] #[], .func (.func 108) #[] #[], .func (.func 109) #[] #[]], .bool true]) (by simp [results, Tryz.results94, go_sem]) rfl ⟨rfl, below2 _ _ _⟩
set_option maxHeartbeats 2000000 in
theorem kindOf4_is (a b : Int) (w : World) :
    Calls Tryz.prog 94 #[.agg #[.int .i64 4, .int .i64 a, .int .i64 b]] w fun e w' => e = .returned (.tuple #[.agg #[.func (.func 105) #[] #[], .func (.func 110) #[] #[], .func (.func 104) #[] #[]], .bool true]) ∧ Below w.heap.size w w' := by
  go_enter Tryz.func94, Tryz.ntmps94
  go_wp2
  exact bodyPost_ret (v := .tuple #[.agg #[.func (.func 105) #[] #[], .func (.func 110) #[] #[], .func (.func 104) #[] #[]], .bool true]) (by simp [results, Tryz.results94, go_sem]) rfl ⟨rfl, below2 _ _ _⟩
set_option maxHeartbeats 2000000 in
theorem kindOf0_is (k a b : Int) (w : World) (h1 : k ≠ 1) (h2 : k ≠ 2) (h3 : k ≠ 3) (h4 : k ≠ 4) :
    Calls Tryz.prog 94 #[.agg #[.int .i64 k, .int .i64 a, .int .i64 b]] w fun e w' => e = .returned (.tuple #[.agg #[.nilFunc, .nilFunc, .nilFunc], .bool false]) ∧ Below w.heap.size w w' := by
  have k1 : (k == 1) = false := by simpa using h1
  have k2 : (k == 2) = false := by simpa using h2
  have k3 : (k == 3) = false := by simpa using h3
  have k4 : (k == 4) = false := by simpa using h4
  clear h1 h2 h3 h4
  go_enter Tryz.func94, Tryz.ntmps94
  go_wp2
  exact bodyPost_ret (v := .tuple #[.agg #[.nilFunc, .nilFunc, .nilFunc], .bool false]) (by simp [results, Tryz.results94, go_sem]) rfl ⟨rfl, below2 _ _ _⟩
end
section
open Go.RowKit

set_option maxHeartbeats 4000000 in
theorem goodKind1_true (a b : Int) (w : World) (hg : goodSt 1 a b = true) :
    Calls Tryz.prog 81 #[.agg #[.int .i64 1, .int .i64 a, .int .i64 b]] w fun e w' => e = .returned (.tuple #[.agg #[.func (.func 102) #[] #[], .func (.func 103) #[] #[], .func (.func 104) #[] #[]], .bool true]) ∧ Below w.heap.size w w' := by
  have HG := hid hg
  clear hg
  obtain ⟨w0, hw0⟩ : ∃ w0, w0 = (w.alloc (.cells #[.int .i64 1, .int .i64 a, .int .i64 b] 32)).alloc (.cells #[.nilFunc, .nilFunc, .nilFunc] 107) := ⟨_, rfl⟩
  have hB0 : Below w.heap.size w w0 := by rw [hw0]; exact below2 _ _ _
  have XS0 : Hid (Bx w0 w.heap.size [.int .i64 1, .int .i64 a, .int .i64 b]) := by rw [hw0]; exact Bx.alloc (Bx.new [.int .i64 1, .int .i64 a, .int .i64 b] _ rfl) _
  have XR0 : Hid (Bx w0 (w.heap.size + 1) [.nilFunc, .nilFunc, .nilFunc]) := by rw [hw0]; exact Bx.new [.nilFunc, .nilFunc, .nilFunc] _ (by simp)
  have H0 := hid hw0
  clear hw0
  go_enter Tryz.func81, Tryz.ntmps81
  go_wp2_with fail
  rw [← H0.out]
  refine (kindOf1_is a b w0).mono ?_
  rintro e w1 ⟨rfl, hb1⟩
  have hB1 := hB0.trans (hb1.mono hB0.size)
  have XS1 := hid ((XS0.out.later hb1).alloc (.cells #[.func (.func 102) #[] #[], .func (.func 103) #[] #[], .func (.func 104) #[] #[]] 107))
  have XR1 := hid ((XR0.out.later hb1).alloc (.cells #[.func (.func 102) #[] #[], .func (.func 103) #[] #[], .func (.func 104) #[] #[]] 107))
  have XK1 := hid (Bx.new (w := w1) (p := w1.heap.size) [.func (.func 102) #[] #[], .func (.func 103) #[] #[], .func (.func 104) #[] #[]] 107 rfl)
  have hB2 := Below.allocS hB1 (.cells #[.func (.func 102) #[] #[], .func (.func 103) #[] #[], .func (.func 104) #[] #[]] 107)
  clear XS0 XR0 hb1 hB1 hB0 H0
  have s0 := XS1.out.c 0 rfl
  have s1 := XS1.out.c 1 rfl
  have s2 := XS1.out.c 2 rfl
  have r0 := XR1.out.f 0 rfl
  have r1 := XR1.out.f 1 rfl
  have r2 := XR1.out.f 2 rfl
  have k0 := XK1.out.c 0 rfl
  have k1 := XK1.out.c 1 rfl
  have k2 := XK1.out.c 2 rfl
  have rz := XR1.out.size
  go_wp2_with fail
  clear s0 s1 s2 r0 r1 r2 k0 k1 k2 rz
  refine (goodMap_is 1 a b _ true (HG.out)).mono ?_
  rintro e w2 ⟨rfl, hw2⟩
  have hb2 := below1 (w1.alloc (.cells #[.func (.func 102) #[] #[], .func (.func 103) #[] #[], .func (.func 104) #[] #[]] 107)) (.cells #[.int .i64 1, .int .i64 a, .int .i64 b] 32)
  rw [← hw2] at hb2
  have HW2 := hid hw2
  clear hw2
  have XR2 := hid (XR1.out.later hb2)
  have XK2 := hid (XK1.out.later hb2)
  have hB3 := hB2.trans (hb2.mono hB2.size)
  clear XS1 XR1 XK1 hb2 hB2 HW2
  have r0 := XR2.out.f 0 rfl
  have r1 := XR2.out.f 1 rfl
  have r2 := XR2.out.f 2 rfl
  have c0 := XR2.out.c 0 rfl
  have c1 := XR2.out.c 1 rfl
  have c2 := XR2.out.c 2 rfl
  have k0 := XK2.out.c 0 rfl
  have k1 := XK2.out.c 1 rfl
  have k2 := XK2.out.c 2 rfl
  have rz := XR2.out.size
  go_wp2
  exact bodyPost_ret (v := .tuple #[.agg #[.func (.func 102) #[] #[], .func (.func 103) #[] #[], .func (.func 104) #[] #[]], .bool true]) (by simp [results, Tryz.results81, go_sem, c0, c1, c2]) rfl ⟨rfl, ((hB3.setCell (p := ⟨w.heap.size + 1, 0, none⟩) (by dsimp only; omega) _).setCell (p := ⟨w.heap.size + 1, 1, none⟩) (by dsimp only; omega) _).setCell (p := ⟨w.heap.size + 1, 2, none⟩) (by dsimp only; omega) _⟩
set_option maxHeartbeats 4000000 in
theorem goodKind1_false (a b : Int) (w : World) (hg : goodSt 1 a b = false) :
    Calls Tryz.prog 81 #[.agg #[.int .i64 1, .int .i64 a, .int .i64 b]] w fun e w' => e = .returned (.tuple #[.agg #[.nilFunc, .nilFunc, .nilFunc], .bool false]) ∧ Below w.heap.size w w' := by
  have HG := hid hg
  clear hg
  obtain ⟨w0, hw0⟩ : ∃ w0, w0 = (w.alloc (.cells #[.int .i64 1, .int .i64 a, .int .i64 b] 32)).alloc (.cells #[.nilFunc, .nilFunc, .nilFunc] 107) := ⟨_, rfl⟩
  have hB0 : Below w.heap.size w w0 := by rw [hw0]; exact below2 _ _ _
  have XS0 : Hid (Bx w0 w.heap.size [.int .i64 1, .int .i64 a, .int .i64 b]) := by rw [hw0]; exact Bx.alloc (Bx.new [.int .i64 1, .int .i64 a, .int .i64 b] _ rfl) _
  have XR0 : Hid (Bx w0 (w.heap.size + 1) [.nilFunc, .nilFunc, .nilFunc]) := by rw [hw0]; exact Bx.new [.nilFunc, .nilFunc, .nilFunc] _ (by simp)
  have H0 := hid hw0
  clear hw0
  go_enter Tryz.func81, Tryz.ntmps81
  go_wp2_with fail
  rw [← H0.out]
  refine (kindOf1_is a b w0).mono ?_
  rintro e w1 ⟨rfl, hb1⟩
  have hB1 := hB0.trans (hb1.mono hB0.size)
  have XS1 := hid ((XS0.out.later hb1).alloc (.cells #[.func (.func 102) #[] #[], .func (.func 103) #[] #[], .func (.func 104) #[] #[]] 107))
  have XR1 := hid ((XR0.out.later hb1).alloc (.cells #[.func (.func 102) #[] #[], .func (.func 103) #[] #[], .func (.func 104) #[] #[]] 107))
  have XK1 := hid (Bx.new (w := w1) (p := w1.heap.size) [.func (.func 102) #[] #[], .func (.func 103) #[] #[], .func (.func 104) #[] #[]] 107 rfl)
  have hB2 := Below.allocS hB1 (.cells #[.func (.func 102) #[] #[], .func (.func 103) #[] #[], .func (.func 104) #[] #[]] 107)
  clear XS0 XR0 hb1 hB1 hB0 H0
  have s0 := XS1.out.c 0 rfl
  have s1 := XS1.out.c 1 rfl
  have s2 := XS1.out.c 2 rfl
  have r0 := XR1.out.f 0 rfl
  have r1 := XR1.out.f 1 rfl
  have r2 := XR1.out.f 2 rfl
  have k0 := XK1.out.c 0 rfl
  have k1 := XK1.out.c 1 rfl
  have k2 := XK1.out.c 2 rfl
  have rz := XR1.out.size
  go_wp2_with fail
  clear s0 s1 s2 r0 r1 r2 k0 k1 k2 rz
  refine (goodMap_is 1 a b _ false (HG.out)).mono ?_
  rintro e w2 ⟨rfl, hw2⟩
  have hb2 := below1 (w1.alloc (.cells #[.func (.func 102) #[] #[], .func (.func 103) #[] #[], .func (.func 104) #[] #[]] 107)) (.cells #[.int .i64 1, .int .i64 a, .int .i64 b] 32)
  rw [← hw2] at hb2
  have HW2 := hid hw2
  clear hw2
  have XR2 := hid (XR1.out.later hb2)
  have XK2 := hid (XK1.out.later hb2)
  have hB3 := hB2.trans (hb2.mono hB2.size)
  clear XS1 XR1 XK1 hb2 hB2 HW2
  have r0 := XR2.out.f 0 rfl
  have r1 := XR2.out.f 1 rfl
  have r2 := XR2.out.f 2 rfl
  have c0 := XR2.out.c 0 rfl
  have c1 := XR2.out.c 1 rfl
  have c2 := XR2.out.c 2 rfl
  have k0 := XK2.out.c 0 rfl
  have k1 := XK2.out.c 1 rfl
  have k2 := XK2.out.c 2 rfl
  have rz := XR2.out.size
  go_wp2
  exact bodyPost_ret (v := .tuple #[.agg #[.nilFunc, .nilFunc, .nilFunc], .bool false]) (by simp [results, Tryz.results81, go_sem, c0, c1, c2]) rfl ⟨rfl, ((hB3.setCell (p := ⟨w.heap.size + 1, 0, none⟩) (by dsimp only; omega) _).setCell (p := ⟨w.heap.size + 1, 1, none⟩) (by dsimp only; omega) _).setCell (p := ⟨w.heap.size + 1, 2, none⟩) (by dsimp only; omega) _⟩
set_option maxHeartbeats 4000000 in
theorem goodKind2_true (a b : Int) (w : World) (hg : goodSt 2 a b = true) :
    Calls Tryz.prog 81 #[.agg #[.int .i64 2, .int .i64 a, .int .i64 b]] w fun e w' => e = .returned (.tuple #[.agg #[.func (.func 105) #[] #[], .func (.func 106) #[] #[], .func (.func 104) #[] #[]], .bool true]) ∧ Below w.heap.size w w' := by
  have HG := hid hg
  clear hg
  obtain ⟨w0, hw0⟩ : ∃ w0, w0 = (w.alloc (.cells #[.int .i64 2, .int .i64 a, .int .i64 b] 32)).alloc (.cells #[.nilFunc, .nilFunc, .nilFunc] 107) := ⟨_, rfl⟩
  have hB0 : Below w.heap.size w w0 := by rw [hw0]; exact below2 _ _ _
  have XS0 : Hid (Bx w0 w.heap.size [.int .i64 2, .int .i64 a, .int .i64 b]) := by rw [hw0]; exact Bx.alloc (Bx.new [.int .i64 2, .int .i64 a, .int .i64 b] _ rfl) _
  have XR0 : Hid (Bx w0 (w.heap.size + 1) [.nilFunc, .nilFunc, .nilFunc]) := by rw [hw0]; exact Bx.new [.nilFunc, .nilFunc, .nilFunc] _ (by simp)
  have H0 := hid hw0
  clear hw0
  go_enter Tryz.func81, Tryz.ntmps81
  go_wp2_with fail
  rw [← H0.out]
  refine (kindOf2_is a b w0).mono ?_
  rintro e w1 ⟨rfl, hb1⟩
  have hB1 := hB0.trans (hb1.mono hB0.size)
  have XS1 := hid ((XS0.out.later hb1).alloc (.cells #[.func (.func 105) #[] #[], .func (.func 106) #[] #[], .func (.func 104) #[] #[]] 107))
  have XR1 := hid ((XR0.out.later hb1).alloc (.cells #[.func (.func 105) #[] #[], .func (.func 106) #[] #[], .func (.func 104) #[] #[]] 107))
  have XK1 := hid (Bx.new (w := w1) (p := w1.heap.size) [.func (.func 105) #[] #[], .func (.func 106) #[] #[], .func (.func 104) #[] #[]] 107 rfl)
  have hB2 := Below.allocS hB1 (.cells #[.func (.func 105) #[] #[], .func (.func 106) #[] #[], .func (.func 104) #[] #[]] 107)
  clear XS0 XR0 hb1 hB1 hB0 H0
  have s0 := XS1.out.c 0 rfl
  have s1 := XS1.out.c 1 rfl
  have s2 := XS1.out.c 2 rfl
  have r0 := XR1.out.f 0 rfl
  have r1 := XR1.out.f 1 rfl
  have r2 := XR1.out.f 2 rfl
  have k0 := XK1.out.c 0 rfl
  have k1 := XK1.out.c 1 rfl
  have k2 := XK1.out.c 2 rfl
  have rz := XR1.out.size
  go_wp2_with fail
  clear s0 s1 s2 r0 r1 r2 k0 k1 k2 rz
  refine (goodRest_is 2 a b _ true (HG.out)).mono ?_
  rintro e w2 ⟨rfl, hw2⟩
  have hb2 := below1 (w1.alloc (.cells #[.func (.func 105) #[] #[], .func (.func 106) #[] #[], .func (.func 104) #[] #[]] 107)) (.cells #[.int .i64 2, .int .i64 a, .int .i64 b] 32)
  rw [← hw2] at hb2
  have HW2 := hid hw2
  clear hw2
  have XR2 := hid (XR1.out.later hb2)
  have XK2 := hid (XK1.out.later hb2)
  have hB3 := hB2.trans (hb2.mono hB2.size)
  clear XS1 XR1 XK1 hb2 hB2 HW2
  have r0 := XR2.out.f 0 rfl
  have r1 := XR2.out.f 1 rfl
  have r2 := XR2.out.f 2 rfl
  have c0 := XR2.out.c 0 rfl
  have c1 := XR2.out.c 1 rfl
  have c2 := XR2.out.c 2 rfl
  have k0 := XK2.out.c 0 rfl
  have k1 := XK2.out.c 1 rfl
  have k2 := XK2.out.c 2 rfl
  have rz := XR2.out.size
  go_wp2
  exact bodyPost_ret (v := .tuple #[.agg #[.func (.func 105) #[] #[], .func (.func 106) #[] #[], .func (.func 104) #[] #[]], .bool true]) (by simp [results, Tryz.results81, go_sem, c0, c1, c2]) rfl ⟨rfl, ((hB3.setCell (p := ⟨w.heap.size + 1, 0, none⟩) (by dsimp only; omega) _).setCell (p := ⟨w.heap.size + 1, 1, none⟩) (by dsimp only; omega) _).setCell (p := ⟨w.heap.size + 1, 2, none⟩) (by dsimp only; omega) _⟩
set_option maxHeartbeats 4000000 in
theorem goodKind2_false (a b : Int) (w : World) (hg : goodSt 2 a b = false) :
    Calls Tryz.prog 81 #[.agg #[.int .i64 2, .int .i64 a, .int .i64 b]] w fun e w' => e = .returned (.tuple #[.agg #[.nilFunc, .nilFunc, .nilFunc], .bool false]) ∧ Below w.heap.size w w' := by
  have HG := hid hg
  clear hg
  obtain ⟨w0, hw0⟩ : ∃ w0, w0 = (w.alloc (.cells #[.int .i64 2, .int .i64 a, .int .i64 b] 32)).alloc (.cells #[.nilFunc, .nilFunc, .nilFunc] 107) := ⟨_, rfl⟩
  have hB0 : Below w.heap.size w w0 := by rw [hw0]; exact below2 _ _ _
  have XS0 : Hid (Bx w0 w.heap.size [.int .i64 2, .int .i64 a, .int .i64 b]) := by rw [hw0]; exact Bx.alloc (Bx.new [.int .i64 2, .int .i64 a, .int .i64 b] _ rfl) _
  have XR0 : Hid (Bx w0 (w.heap.size + 1) [.nilFunc, .nilFunc, .nilFunc]) := by rw [hw0]; exact Bx.new [.nilFunc, .nilFunc, .nilFunc] _ (by simp)
  have H0 := hid hw0
  clear hw0
  go_enter Tryz.func81, Tryz.ntmps81
  go_wp2_with fail
  rw [← H0.out]
  refine (kindOf2_is a b w0).mono ?_
  rintro e w1 ⟨rfl, hb1⟩
  have hB1 := hB0.trans (hb1.mono hB0.size)
  have XS1 := hid ((XS0.out.later hb1).alloc (.cells #[.func (.func 105) #[] #[], .func (.func 106) #[] #[], .func (.func 104) #[] #[]] 107))
  have XR1 := hid ((XR0.out.later hb1).alloc (.cells #[.func (.func 105) #[] #[], .func (.func 106) #[] #[], .func (.func 104) #[] #[]] 107))
  have XK1 := hid (Bx.new (w := w1) (p := w1.heap.size) [.func (.func 105) #[] #[], .func (.func 106) #[] #[], .func (.func 104) #[] #[]] 107 rfl)
  have hB2 := Below.allocS hB1 (.cells #[.func (.func 105) #[] #[], .func (.func 106) #[] #[], .func (.func 104) #[] #[]] 107)
  clear XS0 XR0 hb1 hB1 hB0 H0
  have s0 := XS1.out.c 0 rfl
  have s1 := XS1.out.c 1 rfl
  have s2 := XS1.out.c 2 rfl
  have r0 := XR1.out.f 0 rfl
  have r1 := XR1.out.f 1 rfl
  have r2 := XR1.out.f 2 rfl
  have k0 := XK1.out.c 0 rfl
  have k1 := XK1.out.c 1 rfl
  have k2 := XK1.out.c 2 rfl
  have rz := XR1.out.size
  go_wp2_with fail
  clear s0 s1 s2 r0 r1 r2 k0 k1 k2 rz
  refine (goodRest_is 2 a b _ false (HG.out)).mono ?_
  rintro e w2 ⟨rfl, hw2⟩
  have hb2 := below1 (w1.alloc (.cells #[.func (.func 105) #[] #[], .func (.func 106) #[] #[], .func (.func 104) #[] #[]] 107)) (.cells #[.int .i64 2, .int .i64 a, .int .i64 b] 32)
  rw [← hw2] at hb2
  have HW2 := hid hw2
  clear hw2
  have XR2 := hid (XR1.out.later hb2)
  have XK2 := hid (XK1.out.later hb2)
  have hB3 := hB2.trans (hb2.mono hB2.size)
  clear XS1 XR1 XK1 hb2 hB2 HW2
  have r0 := XR2.out.f 0 rfl
  have r1 := XR2.out.f 1 rfl
  have r2 := XR2.out.f 2 rfl
  have c0 := XR2.out.c 0 rfl
  have c1 := XR2.out.c 1 rfl
  have c2 := XR2.out.c 2 rfl
  have k0 := XK2.out.c 0 rfl
  have k1 := XK2.out.c 1 rfl
  have k2 := XK2.out.c 2 rfl
  have rz := XR2.out.size
  go_wp2
  exact bodyPost_ret (v := .tuple #[.agg #[.nilFunc, .nilFunc, .nilFunc], .bool false]) (by simp [results, Tryz.results81, go_sem, c0, c1, c2]) rfl ⟨rfl, ((hB3.setCell (p := ⟨w.heap.size + 1, 0, none⟩) (by dsimp only; omega) _).setCell (p := ⟨w.heap.size + 1, 1, none⟩) (by dsimp only; omega) _).setCell (p := ⟨w.heap.size + 1, 2, none⟩) (by dsimp only; omega) _⟩
set_option maxHeartbeats 4000000 in
theorem goodKind3_true (a b : Int) (w : World) (hg : goodSt 3 a b = true) :
    Calls Tryz.prog 81 #[.agg #[.int .i64 3, .int .i64 a, .int .i64 b]] w fun e w' => e = .returned (.tuple #[.agg #[.func (.func 107) #[] #[], .func (.func 108) #[] #[], .func (.func 109) #[] #[]], .bool true]) ∧ Below w.heap.size w w' := by
  have HG := hid hg
  clear hg
  obtain ⟨w0, hw0⟩ : ∃ w0, w0 = (w.alloc (.cells #[.int .i64 3, .int .i64 a, .int .i64 b] 32)).alloc (.cells #[.nilFunc, .nilFunc, .nilFunc] 107) := ⟨_, rfl⟩
  have hB0 : Below w.heap.size w w0 := by rw [hw0]; exact below2 _ _ _
  have XS0 : Hid (Bx w0 w.heap.size [.int .i64 3, .int .i64 a, .int .i64 b]) := by rw [hw0]; exact Bx.alloc (Bx.new [.int .i64 3, .int .i64 a, .int .i64 b] _ rfl) _
  have XR0 : Hid (Bx w0 (w.heap.size + 1) [.nilFunc, .nilFunc, .nilFunc]) := by rw [hw0]; exact Bx.new [.nilFunc, .nilFunc, .nilFunc] _ (by simp)
  have H0 := hid hw0
  clear hw0
  go_enter Tryz.func81, Tryz.ntmps81
  go_wp2_with fail
  rw [← H0.out]
  refine (kindOf3_is a b w0).mono ?_
  rintro e w1 ⟨rfl, hb1⟩
  have hB1 := hB0.trans (hb1.mono hB0.size)
  have XS1 := hid ((XS0.out.later hb1).alloc (.cells #[.func (.func 107) #[] #[], .func (.func 108) #[] #[], .func (.func 109) #[] #[]] 107))
  have XR1 := hid ((XR0.out.later hb1).alloc (.cells #[.func (.func 107) #[] #[], .func (.func 108) #[] #[], .func (.func 109) #[] #[]] 107))
  have XK1 := hid (Bx.new (w := w1) (p := w1.heap.size) [.func (.func 107) #[] #[], .func (.func 108) #[] #[], .func (.func 109) #[] #[]] 107 rfl)
  have hB2 := Below.allocS hB1 (.cells #[.func (.func 107) #[] #[], .func (.func 108) #[] #[], .func (.func 109) #[] #[]] 107)
  clear XS0 XR0 hb1 hB1 hB0 H0
  have s0 := XS1.out.c 0 rfl
  have s1 := XS1.out.c 1 rfl
  have s2 := XS1.out.c 2 rfl
  have r0 := XR1.out.f 0 rfl
  have r1 := XR1.out.f 1 rfl
  have r2 := XR1.out.f 2 rfl
  have k0 := XK1.out.c 0 rfl
  have k1 := XK1.out.c 1 rfl
  have k2 := XK1.out.c 2 rfl
  have rz := XR1.out.size
  go_wp2_with fail
  clear s0 s1 s2 r0 r1 r2 k0 k1 k2 rz
  refine (goodExpand_is 3 a b _ true (HG.out)).mono ?_
  rintro e w2 ⟨rfl, hw2⟩
  have hb2 := below1 (w1.alloc (.cells #[.func (.func 107) #[] #[], .func (.func 108) #[] #[], .func (.func 109) #[] #[]] 107)) (.cells #[.int .i64 3, .int .i64 a, .int .i64 b] 32)
  rw [← hw2] at hb2
  have HW2 := hid hw2
  clear hw2
  have XR2 := hid (XR1.out.later hb2)
  have XK2 := hid (XK1.out.later hb2)
  have hB3 := hB2.trans (hb2.mono hB2.size)
  clear XS1 XR1 XK1 hb2 hB2 HW2
  have r0 := XR2.out.f 0 rfl
  have r1 := XR2.out.f 1 rfl
  have r2 := XR2.out.f 2 rfl
  have c0 := XR2.out.c 0 rfl
  have c1 := XR2.out.c 1 rfl
  have c2 := XR2.out.c 2 rfl
  have k0 := XK2.out.c 0 rfl
  have k1 := XK2.out.c 1 rfl
  have k2 := XK2.out.c 2 rfl
  have rz := XR2.out.size
  go_wp2
  exact bodyPost_ret (v := .tuple #[.agg #[.func (.func 107) #[] #[], .func (.func 108) #[] #[], .func (.func 109) #[] #[]], .bool true]) (by simp [results, Tryz.results81, go_sem, c0, c1, c2]) rfl ⟨rfl, ((hB3.setCell (p := ⟨w.heap.size + 1, 0, none⟩) (by dsimp only; omega) _).setCell (p := ⟨w.heap.size + 1, 1, none⟩) (by dsimp only; omega) _).setCell (p := ⟨w.heap.size + 1, 2, none⟩) (by dsimp only; omega) _⟩
set_option maxHeartbeats 4000000 in
theorem goodKind3_false (a b : Int) (w : World) (hg : goodSt 3 a b = false) :
    Calls Tryz.prog 81 #[.agg #[.int .i64 3, .int .i64 a, .int .i64 b]] w fun e w' => e = .returned (.tuple #[.agg #[.nilFunc, .nilFunc, .nilFunc], .bool false]) ∧ Below w.heap.size w w' := by
  have HG := hid hg
  clear hg
  obtain ⟨w0, hw0⟩ : ∃ w0, w0 = (w.alloc (.cells #[.int .i64 3, .int .i64 a, .int .i64 b] 32)).alloc (.cells #[.nilFunc, .nilFunc, .nilFunc] 107) := ⟨_, rfl⟩
  have hB0 : Below w.heap.size w w0 := by rw [hw0]; exact below2 _ _ _
  have XS0 : Hid (Bx w0 w.heap.size [.int .i64 3, .int .i64 a, .int .i64 b]) := by rw [hw0]; exact Bx.alloc (Bx.new [.int .i64 3, .int .i64 a, .int .i64 b] _ rfl) _
  have XR0 : Hid (Bx w0 (w.heap.size + 1) [.nilFunc, .nilFunc, .nilFunc]) := by rw [hw0]; exact Bx.new [.nilFunc, .nilFunc, .nilFunc] _ (by simp)
  have H0 := hid hw0
  clear hw0
  go_enter Tryz.func81, Tryz.ntmps81
  go_wp2_with fail
  rw [← H0.out]
  refine (kindOf3_is a b w0).mono ?_
  rintro e w1 ⟨rfl, hb1⟩
  have hB1 := hB0.trans (hb1.mono hB0.size)
  have XS1 := hid ((XS0.out.later hb1).alloc (.cells #[.func (.func 107) #[] #[], .func (.func 108) #[] #[], .func (.func 109) #[] #[]] 107))
  have XR1 := hid ((XR0.out.later hb1).alloc (.cells #[.func (.func 107) #[] #[], .func (.func 108) #[] #[], .func (.func 109) #[] #[]] 107))
  have XK1 := hid (Bx.new (w := w1) (p := w1.heap.size) [.func (.func 107) #[] #[], .func (.func 108) #[] #[], .func (.func 109) #[] #[]] 107 rfl)
  have hB2 := Below.allocS hB1 (.cells #[.func (.func 107) #[] #[], .func (.func 108) #[] #[], .func (.func 109) #[] #[]] 107)
  clear XS0 XR0 hb1 hB1 hB0 H0
  have s0 := XS1.out.c 0 rfl
  have s1 := XS1.out.c 1 rfl
  have s2 := XS1.out.c 2 rfl
  have r0 := XR1.out.f 0 rfl
  have r1 := XR1.out.f 1 rfl
  have r2 := XR1.out.f 2 rfl
  have k0 := XK1.out.c 0 rfl
  have k1 := XK1.out.c 1 rfl
  have k2 := XK1.out.c 2 rfl
  have rz := XR1.out.size
  go_wp2_with fail
  clear s0 s1 s2 r0 r1 r2 k0 k1 k2 rz
  refine (goodExpand_is 3 a b _ false (HG.out)).mono ?_
  rintro e w2 ⟨rfl, hw2⟩
  have hb2 := below1 (w1.alloc (.cells #[.func (.func 107) #[] #[], .func (.func 108) #[] #[], .func (.func 109) #[] #[]] 107)) (.cells #[.int .i64 3, .int .i64 a, .int .i64 b] 32)
  rw [← hw2] at hb2
  have HW2 := hid hw2
  clear hw2
  have XR2 := hid (XR1.out.later hb2)
  have XK2 := hid (XK1.out.later hb2)
  have hB3 := hB2.trans (hb2.mono hB2.size)
  clear XS1 XR1 XK1 hb2 hB2 HW2
  have r0 := XR2.out.f 0 rfl
  have r1 := XR2.out.f 1 rfl
  have r2 := XR2.out.f 2 rfl
  have c0 := XR2.out.c 0 rfl
  have c1 := XR2.out.c 1 rfl
  have c2 := XR2.out.c 2 rfl
  have k0 := XK2.out.c 0 rfl
  have k1 := XK2.out.c 1 rfl
  have k2 := XK2.out.c 2 rfl
  have rz := XR2.out.size
  go_wp2
  exact bodyPost_ret (v := .tuple #[.agg #[.nilFunc, .nilFunc, .nilFunc], .bool false]) (by simp [results, Tryz.results81, go_sem, c0, c1, c2]) rfl ⟨rfl, ((hB3.setCell (p := ⟨w.heap.size + 1, 0, none⟩) (by dsimp only; omega) _).setCell (p := ⟨w.heap.size + 1, 1, none⟩) (by dsimp only; omega) _).setCell (p := ⟨w.heap.size + 1, 2, none⟩) (by dsimp only; omega) _⟩
set_option maxHeartbeats 4000000 in
theorem goodKind4_true (a b : Int) (w : World) (hg : goodSt 4 a b = true) :
    Calls Tryz.prog 81 #[.agg #[.int .i64 4, .int .i64 a, .int .i64 b]] w fun e w' => e = .returned (.tuple #[.agg #[.func (.func 105) #[] #[], .func (.func 110) #[] #[], .func (.func 104) #[] #[]], .bool true]) ∧ Below w.heap.size w w' := by
  have HG := hid hg
  clear hg
  obtain ⟨w0, hw0⟩ : ∃ w0, w0 = (w.alloc (.cells #[.int .i64 4, .int .i64 a, .int .i64 b] 32)).alloc (.cells #[.nilFunc, .nilFunc, .nilFunc] 107) := ⟨_, rfl⟩
  have hB0 : Below w.heap.size w w0 := by rw [hw0]; exact below2 _ _ _
  have XS0 : Hid (Bx w0 w.heap.size [.int .i64 4, .int .i64 a, .int .i64 b]) := by rw [hw0]; exact Bx.alloc (Bx.new [.int .i64 4, .int .i64 a, .int .i64 b] _ rfl) _
  have XR0 : Hid (Bx w0 (w.heap.size + 1) [.nilFunc, .nilFunc, .nilFunc]) := by rw [hw0]; exact Bx.new [.nilFunc, .nilFunc, .nilFunc] _ (by simp)
  have H0 := hid hw0
  clear hw0
  go_enter Tryz.func81, Tryz.ntmps81
  go_wp2_with fail
  rw [← H0.out]
  refine (kindOf4_is a b w0).mono ?_
  rintro e w1 ⟨rfl, hb1⟩
  have hB1 := hB0.trans (hb1.mono hB0.size)
  have XS1 := hid ((XS0.out.later hb1).alloc (.cells #[.func (.func 105) #[] #[], .func (.func 110) #[] #[], .func (.func 104) #[] #[]] 107))
  have XR1 := hid ((XR0.out.later hb1).alloc (.cells #[.func (.func 105) #[] #[], .func (.func 110) #[] #[], .func (.func 104) #[] #[]] 107))
  have XK1 := hid (Bx.new (w := w1) (p := w1.heap.size) [.func (.func 105) #[] #[], .func (.func 110) #[] #[], .func (.func 104) #[] #[]] 107 rfl)
  have hB2 := Below.allocS hB1 (.cells #[.func (.func 105) #[] #[], .func (.func 110) #[] #[], .func (.func 104) #[] #[]] 107)
  clear XS0 XR0 hb1 hB1 hB0 H0
  have s0 := XS1.out.c 0 rfl
  have s1 := XS1.out.c 1 rfl
  have s2 := XS1.out.c 2 rfl
  have r0 := XR1.out.f 0 rfl
  have r1 := XR1.out.f 1 rfl
  have r2 := XR1.out.f 2 rfl
  have k0 := XK1.out.c 0 rfl
  have k1 := XK1.out.c 1 rfl
  have k2 := XK1.out.c 2 rfl
  have rz := XR1.out.size
  go_wp2_with fail
  clear s0 s1 s2 r0 r1 r2 k0 k1 k2 rz
  refine (goodRest_is 4 a b _ true (HG.out)).mono ?_
  rintro e w2 ⟨rfl, hw2⟩
  have hb2 := below1 (w1.alloc (.cells #[.func (.func 105) #[] #[], .func (.func 110) #[] #[], .func (.func 104) #[] #[]] 107)) (.cells #[.int .i64 4, .int .i64 a, .int .i64 b] 32)
  rw [← hw2] at hb2
  have HW2 := hid hw2
  clear hw2
  have XR2 := hid (XR1.out.later hb2)
  have XK2 := hid (XK1.out.later hb2)
  have hB3 := hB2.trans (hb2.mono hB2.size)
  clear XS1 XR1 XK1 hb2 hB2 HW2
  have r0 := XR2.out.f 0 rfl
  have r1 := XR2.out.f 1 rfl
  have r2 := XR2.out.f 2 rfl
  have c0 := XR2.out.c 0 rfl
  have c1 := XR2.out.c 1 rfl
  have c2 := XR2.out.c 2 rfl
  have k0 := XK2.out.c 0 rfl
  have k1 := XK2.out.c 1 rfl
  have k2 := XK2.out.c 2 rfl
  have rz := XR2.out.size
  go_wp2
  exact bodyPost_ret (v := .tuple #[.agg #[.func (.func 105) #[] #[], .func (.func 110) #[] #[], .func (.func 104) #[] #[]], .bool true]) (by simp [results, Tryz.results81, go_sem, c0, c1, c2]) rfl ⟨rfl, ((hB3.setCell (p := ⟨w.heap.size + 1, 0, none⟩) (by dsimp only; omega) _).setCell (p := ⟨w.heap.size + 1, 1, none⟩) (by dsimp only; omega) _).setCell (p := ⟨w.heap.size + 1, 2, none⟩) (by dsimp only; omega) _⟩
set_option maxHeartbeats 4000000 in
theorem goodKind4_false (a b : Int) (w : World) (hg : goodSt 4 a b = false) :
    Calls Tryz.prog 81 #[.agg #[.int .i64 4, .int .i64 a, .int .i64 b]] w fun e w' => e = .returned (.tuple #[.agg #[.nilFunc, .nilFunc, .nilFunc], .bool false]) ∧ Below w.heap.size w w' := by
  have HG := hid hg
  clear hg
  obtain ⟨w0, hw0⟩ : ∃ w0, w0 = (w.alloc (.cells #[.int .i64 4, .int .i64 a, .int .i64 b] 32)).alloc (.cells #[.nilFunc, .nilFunc, .nilFunc] 107) := ⟨_, rfl⟩
  have hB0 : Below w.heap.size w w0 := by rw [hw0]; exact below2 _ _ _
  have XS0 : Hid (Bx w0 w.heap.size [.int .i64 4, .int .i64 a, .int .i64 b]) := by rw [hw0]; exact Bx.alloc (Bx.new [.int .i64 4, .int .i64 a, .int .i64 b] _ rfl) _
  have XR0 : Hid (Bx w0 (w.heap.size + 1) [.nilFunc, .nilFunc, .nilFunc]) := by rw [hw0]; exact Bx.new [.nilFunc, .nilFunc, .nilFunc] _ (by simp)
  have H0 := hid hw0
  clear hw0
  go_enter Tryz.func81, Tryz.ntmps81
  go_wp2_with fail
  rw [← H0.out]
  refine (kindOf4_is a b w0).mono ?_
  rintro e w1 ⟨rfl, hb1⟩
  have hB1 := hB0.trans (hb1.mono hB0.size)
  have XS1 := hid ((XS0.out.later hb1).alloc (.cells #[.func (.func 105) #[] #[], .func (.func 110) #[] #[], .func (.func 104) #[] #[]] 107))
  have XR1 := hid ((XR0.out.later hb1).alloc (.cells #[.func (.func 105) #[] #[], .func (.func 110) #[] #[], .func (.func 104) #[] #[]] 107))
  have XK1 := hid (Bx.new (w := w1) (p := w1.heap.size) [.func (.func 105) #[] #[], .func (.func 110) #[] #[], .func (.func 104) #[] #[]] 107 rfl)
  have hB2 := Below.allocS hB1 (.cells #[.func (.func 105) #[] #[], .func (.func 110) #[] #[], .func (.func 104) #[] #[]] 107)
  clear XS0 XR0 hb1 hB1 hB0 H0
  have s0 := XS1.out.c 0 rfl
  have s1 := XS1.out.c 1 rfl
  have s2 := XS1.out.c 2 rfl
  have r0 := XR1.out.f 0 rfl
  have r1 := XR1.out.f 1 rfl
  have r2 := XR1.out.f 2 rfl
  have k0 := XK1.out.c 0 rfl
  have k1 := XK1.out.c 1 rfl
  have k2 := XK1.out.c 2 rfl
  have rz := XR1.out.size
  go_wp2_with fail
  clear s0 s1 s2 r0 r1 r2 k0 k1 k2 rz
  refine (goodRest_is 4 a b _ false (HG.out)).mono ?_
  rintro e w2 ⟨rfl, hw2⟩
  have hb2 := below1 (w1.alloc (.cells #[.func (.func 105) #[] #[], .func (.func 110) #[] #[], .func (.func 104) #[] #[]] 107)) (.cells #[.int .i64 4, .int .i64 a, .int .i64 b] 32)
  rw [← hw2] at hb2
  have HW2 := hid hw2
  clear hw2
  have XR2 := hid (XR1.out.later hb2)
  have XK2 := hid (XK1.out.later hb2)
  have hB3 := hB2.trans (hb2.mono hB2.size)
  clear XS1 XR1 XK1 hb2 hB2 HW2
  have r0 := XR2.out.f 0 rfl
  have r1 := XR2.out.f 1 rfl
  have r2 := XR2.out.f 2 rfl
  have c0 := XR2.out.c 0 rfl
  have c1 := XR2.out.c 1 rfl
  have c2 := XR2.out.c 2 rfl
  have k0 := XK2.out.c 0 rfl
  have k1 := XK2.out.c 1 rfl
  have k2 := XK2.out.c 2 rfl
  have rz := XR2.out.size
  go_wp2
  exact bodyPost_ret (v := .tuple #[.agg #[.nilFunc, .nilFunc, .nilFunc], .bool false]) (by simp [results, Tryz.results81, go_sem, c0, c1, c2]) rfl ⟨rfl, ((hB3.setCell (p := ⟨w.heap.size + 1, 0, none⟩) (by dsimp only; omega) _).setCell (p := ⟨w.heap.size + 1, 1, none⟩) (by dsimp only; omega) _).setCell (p := ⟨w.heap.size + 1, 2, none⟩) (by dsimp only; omega) _⟩
set_option maxHeartbeats 4000000 in
theorem goodKind0 (k a b : Int) (w : World) (h1 : k ≠ 1) (h2 : k ≠ 2) (h3 : k ≠ 3) (h4 : k ≠ 4) :
    Calls Tryz.prog 81 #[.agg #[.int .i64 k, .int .i64 a, .int .i64 b]] w fun e w' => e = .returned (.tuple #[.agg #[.nilFunc, .nilFunc, .nilFunc], .bool false]) ∧ Below w.heap.size w w' := by
  obtain ⟨w0, hw0⟩ : ∃ w0, w0 = (w.alloc (.cells #[.int .i64 k, .int .i64 a, .int .i64 b] 32)).alloc (.cells #[.nilFunc, .nilFunc, .nilFunc] 107) := ⟨_, rfl⟩
  have hB0 : Below w.heap.size w w0 := by rw [hw0]; exact below2 _ _ _
  have XR0 : Hid (Bx w0 (w.heap.size + 1) [.nilFunc, .nilFunc, .nilFunc]) := by rw [hw0]; exact Bx.new [.nilFunc, .nilFunc, .nilFunc] _ (by simp)
  have H0 := hid hw0
  clear hw0
  go_enter Tryz.func81, Tryz.ntmps81
  go_wp2_with fail
  rw [← H0.out]
  refine (kindOf0_is k a b w0 h1 h2 h3 h4).mono ?_
  rintro e w1 ⟨rfl, hb1⟩
  have hB1 := hB0.trans (hb1.mono hB0.size)
  have XR1 := hid ((XR0.out.later hb1).alloc (.cells #[.nilFunc, .nilFunc, .nilFunc] 107))
  have hB2 := Below.allocS hB1 (.cells #[.nilFunc, .nilFunc, .nilFunc] 107)
  clear XR0 hb1 hB1 hB0 H0
  have r0 := XR1.out.f 0 rfl
  have r1 := XR1.out.f 1 rfl
  have r2 := XR1.out.f 2 rfl
  have c0 := XR1.out.c 0 rfl
  have c1 := XR1.out.c 1 rfl
  have c2 := XR1.out.c 2 rfl
  have rz := XR1.out.size
  go_wp2
  exact bodyPost_ret (v := .tuple #[.agg #[.nilFunc, .nilFunc, .nilFunc], .bool false]) (by simp [results, Tryz.results81, go_sem, c0, c1, c2]) rfl ⟨rfl, ((hB2.setCell (p := ⟨w.heap.size + 1, 0, none⟩) (by dsimp only; omega) _).setCell (p := ⟨w.heap.size + 1, 1, none⟩) (by dsimp only; omega) _).setCell (p := ⟨w.heap.size + 1, 2, none⟩) (by dsimp only; omega) _⟩
theorem goodKind_no (k a b : Int) (w : World) (hg : goodSt k a b = false) :
    Calls Tryz.prog 81 #[.agg #[.int .i64 k, .int .i64 a, .int .i64 b]] w fun e w' => e = .returned (.tuple #[.agg #[.nilFunc, .nilFunc, .nilFunc], .bool false]) ∧ Below w.heap.size w w' := by
  rcases kinds k with rfl | rfl | rfl | rfl | ⟨h1, h2, h3, h4⟩
  · exact goodKind1_false a b w hg
  · exact goodKind2_false a b w hg
  · exact goodKind3_false a b w hg
  · exact goodKind4_false a b w hg
  · exact goodKind0 k a b w h1 h2 h3 h4
/-- What the program keeps of a kind. -/
def kindV (k : Int) : List Value := if k = 1 then [.func (.func 102) #[] #[], .func (.func 103) #[] #[], .func (.func 104) #[] #[]] else if k = 2 then [.func (.func 105) #[] #[], .func (.func 106) #[] #[], .func (.func 104) #[] #[]] else if k = 3 then [.func (.func 107) #[] #[], .func (.func 108) #[] #[], .func (.func 109) #[] #[]] else [.func (.func 105) #[] #[], .func (.func 110) #[] #[], .func (.func 104) #[] #[]]
theorem goodKind_yes (k a b : Int) (w : World) (hg : goodSt k a b = true) :
    Calls Tryz.prog 81 #[.agg #[.int .i64 k, .int .i64 a, .int .i64 b]] w fun e w' => (∃ g f m, kindV k = [g, f, m] ∧ e = .returned (.tuple #[.agg #[g, f, m], .bool true])) ∧ Below w.heap.size w w' := by
  rcases kinds k with rfl | rfl | rfl | rfl | ⟨h1, h2, h3, h4⟩
  · exact (goodKind1_true a b w hg).mono fun e w' h => ⟨⟨_, _, _, rfl, h.1⟩, h.2⟩
  · exact (goodKind2_true a b w hg).mono fun e w' h => ⟨⟨_, _, _, rfl, h.1⟩, h.2⟩
  · exact (goodKind3_true a b w hg).mono fun e w' h => ⟨⟨_, _, _, rfl, h.1⟩, h.2⟩
  · exact (goodKind4_true a b w hg).mono fun e w' h => ⟨⟨_, _, _, rfl, h.1⟩, h.2⟩
  · rw [goodSt0 h1 h2 h3 h4] at hg; cases hg
end
section
open Go.RowKit

set_option maxHeartbeats 2000000 in
theorem implGood1 (a b : Int) (w : World) (hg : goodSt 1 a b = true) :
    Calls Tryz.prog 76 #[.agg #[.int .i64 1, .int .i64 a, .int .i64 b]] w fun e w' => e = .returned (.bool true) ∧ Below w.heap.size w w' := by
  go_enter Tryz.func76, Tryz.ntmps76
  go_wp2_with fail
  refine (goodKind1_true a b _ hg).mono ?_
  rintro e w1 ⟨rfl, hb1⟩
  have hB1 := (below1 w (.cells #[.int .i64 1, .int .i64 a, .int .i64 b] 32)).trans (hb1.mono (by simp))
  clear hb1
  go_wp2
  go_ret
  exact ⟨rfl, Below.allocS hB1 _⟩
set_option maxHeartbeats 2000000 in
theorem implGood2 (a b : Int) (w : World) (hg : goodSt 2 a b = true) :
    Calls Tryz.prog 76 #[.agg #[.int .i64 2, .int .i64 a, .int .i64 b]] w fun e w' => e = .returned (.bool true) ∧ Below w.heap.size w w' := by
  go_enter Tryz.func76, Tryz.ntmps76
  go_wp2_with fail
  refine (goodKind2_true a b _ hg).mono ?_
  rintro e w1 ⟨rfl, hb1⟩
  have hB1 := (below1 w (.cells #[.int .i64 2, .int .i64 a, .int .i64 b] 32)).trans (hb1.mono (by simp))
  clear hb1
  go_wp2
  go_ret
  exact ⟨rfl, Below.allocS hB1 _⟩
set_option maxHeartbeats 2000000 in
theorem implGood3 (a b : Int) (w : World) (hg : goodSt 3 a b = true) :
    Calls Tryz.prog 76 #[.agg #[.int .i64 3, .int .i64 a, .int .i64 b]] w fun e w' => e = .returned (.bool true) ∧ Below w.heap.size w w' := by
  go_enter Tryz.func76, Tryz.ntmps76
  go_wp2_with fail
  refine (goodKind3_true a b _ hg).mono ?_
  rintro e w1 ⟨rfl, hb1⟩
  have hB1 := (below1 w (.cells #[.int .i64 3, .int .i64 a, .int .i64 b] 32)).trans (hb1.mono (by simp))
  clear hb1
  go_wp2
  go_ret
  exact ⟨rfl, Below.allocS hB1 _⟩
set_option maxHeartbeats 2000000 in
theorem implGood4 (a b : Int) (w : World) (hg : goodSt 4 a b = true) :
    Calls Tryz.prog 76 #[.agg #[.int .i64 4, .int .i64 a, .int .i64 b]] w fun e w' => e = .returned (.bool true) ∧ Below w.heap.size w w' := by
  go_enter Tryz.func76, Tryz.ntmps76
  go_wp2_with fail
  refine (goodKind4_true a b _ hg).mono ?_
  rintro e w1 ⟨rfl, hb1⟩
  have hB1 := (below1 w (.cells #[.int .i64 4, .int .i64 a, .int .i64 b] 32)).trans (hb1.mono (by simp))
  clear hb1
  go_wp2
  go_ret
  exact ⟨rfl, Below.allocS hB1 _⟩
set_option maxHeartbeats 2000000 in
theorem implGood0 (k a b : Int) (w : World) (hg : goodSt k a b = false) :
    Calls Tryz.prog 76 #[.agg #[.int .i64 k, .int .i64 a, .int .i64 b]] w fun e w' => e = .returned (.bool false) ∧ Below w.heap.size w w' := by
  go_enter Tryz.func76, Tryz.ntmps76
  go_wp2_with fail
  refine (goodKind_no k a b _ hg).mono ?_
  rintro e w1 ⟨rfl, hb1⟩
  have hB1 := (below1 w (.cells #[.int .i64 k, .int .i64 a, .int .i64 b] 32)).trans (hb1.mono (by simp))
  clear hb1
  go_wp2
  go_ret
  exact ⟨rfl, Below.allocS hB1 _⟩
theorem implGood_is (k a b : Int) (w : World) (r : Bool) (hg : goodSt k a b = r) :
    Calls Tryz.prog 76 #[.agg #[.int .i64 k, .int .i64 a, .int .i64 b]] w fun e w' => e = .returned (.bool r) ∧ Below w.heap.size w w' := by
  cases r with
  | false => exact implGood0 k a b w hg
  | true =>
    rcases kinds k with rfl | rfl | rfl | rfl | ⟨h1, h2, h3, h4⟩
    · exact implGood1 a b w hg
    · exact implGood2 a b w hg
    · exact implGood3 a b w hg
    · exact implGood4 a b w hg
    · rw [goodSt0 h1 h2 h3 h4] at hg; cases hg
/-- How many come out at most. -/
def factI (k a b : Int) : Int := if goodSt k a b = true then (if k = 3 then a else 1) else 0
set_option maxHeartbeats 2000000 in
theorem atMostOne_is (k a b : Int) (w : World) :
    Calls Tryz.prog 104 #[.agg #[.int .i64 k, .int .i64 a, .int .i64 b]] w fun e w' => e = .returned (.int .i64 1) ∧ Below w.heap.size w w' := by
  go_enter Tryz.func104, Tryz.ntmps104
  go_wp2
  go_ret
  exact ⟨rfl, below1 _ _⟩
set_option maxHeartbeats 2000000 in
theorem expandedTo_is (k a b : Int) (w : World) :
    Calls Tryz.prog 109 #[.agg #[.int .i64 k, .int .i64 a, .int .i64 b]] w fun e w' => e = .returned (.int .i64 a) ∧ Below w.heap.size w w' := by
  go_enter Tryz.func109, Tryz.ntmps109
  go_wp2
  go_ret
  exact ⟨rfl, below1 _ _⟩
set_option maxHeartbeats 2000000 in
theorem implFact0 (k a b : Int) (w : World) (hg : goodSt k a b = false) :
    Calls Tryz.prog 51 #[.agg #[.int .i64 k, .int .i64 a, .int .i64 b]] w fun e w' => e = .returned (.int .i64 0) ∧ Below w.heap.size w w' := by
  go_enter Tryz.func51, Tryz.ntmps51
  go_wp2_with fail
  refine (goodKind_no k a b _ hg).mono ?_
  rintro e w1 ⟨rfl, hb1⟩
  have hB1 := (below1 w (.cells #[.int .i64 k, .int .i64 a, .int .i64 b] 32)).trans (hb1.mono (by simp))
  clear hb1
  go_wp2
  go_ret
  exact ⟨rfl, Below.allocS hB1 _⟩
set_option maxHeartbeats 2000000 in
theorem implFact1 (a b : Int) (w : World) (hg : goodSt 1 a b = true) :
    Calls Tryz.prog 51 #[.agg #[.int .i64 1, .int .i64 a, .int .i64 b]] w fun e w' => e = .returned (.int .i64 1) ∧ Below w.heap.size w w' := by
  go_enter Tryz.func51, Tryz.ntmps51
  go_wp2_with fail
  refine (goodKind1_true a b _ hg).mono ?_
  rintro e w1 ⟨rfl, hb1⟩
  have hB1 := Below.allocS ((below1 w (.cells #[.int .i64 1, .int .i64 a, .int .i64 b] 32)).trans (hb1.mono (by simp))) (.cells #[.func (.func 102) #[] #[], .func (.func 103) #[] #[], .func (.func 104) #[] #[]] 107)
  have XS := hid (((Bx.new (w := w) (p := w.heap.size) [.int .i64 1, .int .i64 a, .int .i64 b] 32 rfl).later hb1).alloc (.cells #[.func (.func 102) #[] #[], .func (.func 103) #[] #[], .func (.func 104) #[] #[]] 107))
  have XK := hid (Bx.new (w := w1) (p := w1.heap.size) [.func (.func 102) #[] #[], .func (.func 103) #[] #[], .func (.func 104) #[] #[]] 107 rfl)
  clear hb1
  have s0 := XS.out.c 0 rfl
  have s1 := XS.out.c 1 rfl
  have s2 := XS.out.c 2 rfl
  have k0 := XK.out.c 0 rfl
  have k1 := XK.out.c 1 rfl
  have k2 := XK.out.c 2 rfl
  go_wp2_with fail
  refine (atMostOne_is 1 a b _).mono ?_
  rintro e w2 ⟨rfl, hb2⟩
  have hB2 := hB1.trans (hb2.mono hB1.size)
  clear hb2 hB1 XS XK s0 s1 s2 k0 k1 k2
  go_wp2
  go_ret
  exact ⟨rfl, hB2⟩
set_option maxHeartbeats 2000000 in
theorem implFact2 (a b : Int) (w : World) (hg : goodSt 2 a b = true) :
    Calls Tryz.prog 51 #[.agg #[.int .i64 2, .int .i64 a, .int .i64 b]] w fun e w' => e = .returned (.int .i64 1) ∧ Below w.heap.size w w' := by
  go_enter Tryz.func51, Tryz.ntmps51
  go_wp2_with fail
  refine (goodKind2_true a b _ hg).mono ?_
  rintro e w1 ⟨rfl, hb1⟩
  have hB1 := Below.allocS ((below1 w (.cells #[.int .i64 2, .int .i64 a, .int .i64 b] 32)).trans (hb1.mono (by simp))) (.cells #[.func (.func 105) #[] #[], .func (.func 106) #[] #[], .func (.func 104) #[] #[]] 107)
  have XS := hid (((Bx.new (w := w) (p := w.heap.size) [.int .i64 2, .int .i64 a, .int .i64 b] 32 rfl).later hb1).alloc (.cells #[.func (.func 105) #[] #[], .func (.func 106) #[] #[], .func (.func 104) #[] #[]] 107))
  have XK := hid (Bx.new (w := w1) (p := w1.heap.size) [.func (.func 105) #[] #[], .func (.func 106) #[] #[], .func (.func 104) #[] #[]] 107 rfl)
  clear hb1
  have s0 := XS.out.c 0 rfl
  have s1 := XS.out.c 1 rfl
  have s2 := XS.out.c 2 rfl
  have k0 := XK.out.c 0 rfl
  have k1 := XK.out.c 1 rfl
  have k2 := XK.out.c 2 rfl
  go_wp2_with fail
  refine (atMostOne_is 2 a b _).mono ?_
  rintro e w2 ⟨rfl, hb2⟩
  have hB2 := hB1.trans (hb2.mono hB1.size)
  clear hb2 hB1 XS XK s0 s1 s2 k0 k1 k2
  go_wp2
  go_ret
  exact ⟨rfl, hB2⟩
set_option maxHeartbeats 2000000 in
theorem implFact3 (a b : Int) (w : World) (hg : goodSt 3 a b = true) :
    Calls Tryz.prog 51 #[.agg #[.int .i64 3, .int .i64 a, .int .i64 b]] w fun e w' => e = .returned (.int .i64 a) ∧ Below w.heap.size w w' := by
  go_enter Tryz.func51, Tryz.ntmps51
  go_wp2_with fail
  refine (goodKind3_true a b _ hg).mono ?_
  rintro e w1 ⟨rfl, hb1⟩
  have hB1 := Below.allocS ((below1 w (.cells #[.int .i64 3, .int .i64 a, .int .i64 b] 32)).trans (hb1.mono (by simp))) (.cells #[.func (.func 107) #[] #[], .func (.func 108) #[] #[], .func (.func 109) #[] #[]] 107)
  have XS := hid (((Bx.new (w := w) (p := w.heap.size) [.int .i64 3, .int .i64 a, .int .i64 b] 32 rfl).later hb1).alloc (.cells #[.func (.func 107) #[] #[], .func (.func 108) #[] #[], .func (.func 109) #[] #[]] 107))
  have XK := hid (Bx.new (w := w1) (p := w1.heap.size) [.func (.func 107) #[] #[], .func (.func 108) #[] #[], .func (.func 109) #[] #[]] 107 rfl)
  clear hb1
  have s0 := XS.out.c 0 rfl
  have s1 := XS.out.c 1 rfl
  have s2 := XS.out.c 2 rfl
  have k0 := XK.out.c 0 rfl
  have k1 := XK.out.c 1 rfl
  have k2 := XK.out.c 2 rfl
  go_wp2_with fail
  refine (expandedTo_is 3 a b _).mono ?_
  rintro e w2 ⟨rfl, hb2⟩
  have hB2 := hB1.trans (hb2.mono hB1.size)
  clear hb2 hB1 XS XK s0 s1 s2 k0 k1 k2
  go_wp2
  go_ret
  exact ⟨rfl, hB2⟩
set_option maxHeartbeats 2000000 in
theorem implFact4 (a b : Int) (w : World) (hg : goodSt 4 a b = true) :
    Calls Tryz.prog 51 #[.agg #[.int .i64 4, .int .i64 a, .int .i64 b]] w fun e w' => e = .returned (.int .i64 1) ∧ Below w.heap.size w w' := by
  go_enter Tryz.func51, Tryz.ntmps51
  go_wp2_with fail
  refine (goodKind4_true a b _ hg).mono ?_
  rintro e w1 ⟨rfl, hb1⟩
  have hB1 := Below.allocS ((below1 w (.cells #[.int .i64 4, .int .i64 a, .int .i64 b] 32)).trans (hb1.mono (by simp))) (.cells #[.func (.func 105) #[] #[], .func (.func 110) #[] #[], .func (.func 104) #[] #[]] 107)
  have XS := hid (((Bx.new (w := w) (p := w.heap.size) [.int .i64 4, .int .i64 a, .int .i64 b] 32 rfl).later hb1).alloc (.cells #[.func (.func 105) #[] #[], .func (.func 110) #[] #[], .func (.func 104) #[] #[]] 107))
  have XK := hid (Bx.new (w := w1) (p := w1.heap.size) [.func (.func 105) #[] #[], .func (.func 110) #[] #[], .func (.func 104) #[] #[]] 107 rfl)
  clear hb1
  have s0 := XS.out.c 0 rfl
  have s1 := XS.out.c 1 rfl
  have s2 := XS.out.c 2 rfl
  have k0 := XK.out.c 0 rfl
  have k1 := XK.out.c 1 rfl
  have k2 := XK.out.c 2 rfl
  go_wp2_with fail
  refine (atMostOne_is 4 a b _).mono ?_
  rintro e w2 ⟨rfl, hb2⟩
  have hB2 := hB1.trans (hb2.mono hB1.size)
  clear hb2 hB1 XS XK s0 s1 s2 k0 k1 k2
  go_wp2
  go_ret
  exact ⟨rfl, hB2⟩
theorem implFact_is (k a b : Int) (w : World) (z : Int) (hz : factI k a b = z) :
    Calls Tryz.prog 51 #[.agg #[.int .i64 k, .int .i64 a, .int .i64 b]] w fun e w' => e = .returned (.int .i64 z) ∧ Below w.heap.size w w' := by
  subst hz
  unfold factI
  rcases hg : goodSt k a b with _ | _
  · exact implFact0 k a b w hg
  · rw [if_pos rfl]
    rcases kinds k with rfl | rfl | rfl | rfl | ⟨h1, h2, h3, h4⟩
    · exact implFact1 a b w hg
    · exact implFact2 a b w hg
    · exact implFact3 a b w hg
    · exact implFact4 a b w hg
    · rw [goodSt0 h1 h2 h3 h4] at hg; cases hg
set_option maxHeartbeats 2000000 in
theorem specFact_is (k a b : Int) (w : World) (z : Int) (hz : factI k a b = z) :
    Calls Tryz.prog 58 #[.agg #[.int .i64 k, .int .i64 a, .int .i64 b]] w fun e w' => e = .returned (.int .i64 z) ∧ Below w.heap.size w w' := by
  subst hz
  unfold factI
  rcases hg : goodSt k a b with _ | _
  · have HG := hid hg
    clear hg
    go_enter Tryz.func58, Tryz.ntmps58
    go_wp2_with fail
    refine (specGood_is k a b _ _ HG.out).mono ?_
    rintro e w1 ⟨rfl, hw1⟩
    rw [hw1]; clear hw1 w1
    go_wp2
    go_ret
    exact ⟨rfl, below2 _ _ _⟩
  · have HG := hid hg
    clear hg
    rw [if_pos rfl]
    by_cases h3 : k = 3
    · subst h3
      go_enter Tryz.func58, Tryz.ntmps58
      go_wp2_with fail
      refine (specGood_is 3 a b _ _ HG.out).mono ?_
      rintro e w1 ⟨rfl, hw1⟩
      rw [hw1]; clear hw1 w1
      go_wp2
      go_ret
      exact ⟨rfl, below2 _ _ _⟩
    · have k3 : (k == 3) = false := by simpa using h3
      rw [if_neg h3]
      clear h3
      go_enter Tryz.func58, Tryz.ntmps58
      go_wp2_with fail
      refine (specGood_is k a b _ _ HG.out).mono ?_
      rintro e w1 ⟨rfl, hw1⟩
      rw [hw1]; clear hw1 w1
      go_wp2
      go_ret
      exact ⟨rfl, below2 _ _ _⟩
end
section
open Go.RowKit

theorem mod_neg (a n : Int) (hn : 0 < n) (h : a.tmod n < 0) : a % n = a.tmod n + n := by
  have h2 : -n < a.tmod n := by have := Int.lt_tmod_of_pos a hn; omega
  have e : a = n * a.tdiv n + a.tmod n := (Int.mul_tdiv_add_tmod a n).symm
  have : a % n = (a.tmod n + n) % n := by
    conv => lhs; rw [e]
    rw [Int.add_emod_right, Int.mul_add_emod_self_left]
  rw [this, Int.emod_eq_of_lt (by omega) (by omega)]
theorem mod_pos (a n : Int) (hn : 0 < n) (h : ¬ a.tmod n < 0) : a % n = a.tmod n := by
  have h1 : a.tmod n < n := Int.tmod_lt_of_pos a hn
  have e : a = n * a.tdiv n + a.tmod n := (Int.mul_tdiv_add_tmod a n).symm
  have : a % n = (a.tmod n) % n := by
    conv => lhs; rw [e]
    rw [Int.mul_add_emod_self_left]
  rw [this, Int.emod_eq_of_lt (by omega) (by omega)]
set_option maxHeartbeats 1000000 in
theorem l1Mod_is (a n : Int) (w : World) (z : Int) (hz : a % n = z) (hn : 0 < n) (hn2 : n ≤ 1048576) :
    Calls Tryz.prog 99 #[.int .i64 a, .int .i64 n] w fun e w' => e = .returned (.int .i64 z) ∧ w' = w := by
  subst hz
  have h1 : a.tmod n < n := Int.tmod_lt_of_pos a hn
  have h2 : -n < a.tmod n := by have := Int.lt_tmod_of_pos a hn; omega
  have hne : n ≠ 0 := by omega
  go_enter Tryz.func99, Tryz.ntmps99
  by_cases h : a.tmod n < 0
  · rw [mod_neg a n hn h]
    go_wp2
    go_ret
    exact ⟨rfl, rfl⟩
  · rw [mod_pos a n hn h]
    go_wp2
    go_ret
    exact ⟨rfl, rfl⟩
set_option maxHeartbeats 1000000 in
theorem modulo_is (a n : Int) (w : World) (z : Int) (hz : a % n = z) (hn : 0 < n) (hn2 : n ≤ 1048576) :
    Calls Tryz.prog 122 #[.int .i64 a, .int .i64 n] w fun e w' => e = .returned (.int .i64 z) ∧ w' = w := by
  subst hz
  have h1 : a.tmod n < n := Int.tmod_lt_of_pos a hn
  have h2 : -n < a.tmod n := by have := Int.lt_tmod_of_pos a hn; omega
  have hne : n ≠ 0 := by omega
  go_enter Tryz.func122, Tryz.ntmps122
  by_cases h : a.tmod n < 0
  · rw [mod_neg a n hn h]
    go_wp2
    go_ret
    exact ⟨rfl, rfl⟩
  · rw [mod_pos a n hn h]
    go_wp2
    go_ret
    exact ⟨rfl, rfl⟩
/-- A number cut to the values. -/
def cutI (n : Int) : Int := if n > 1000000 then 1000000 else if n < -1000000 then -1000000 else n
theorem cutI_val (n : Int) : valB (cutI n) = true := by
  unfold cutI valB
  split
  · decide
  · split
    · decide
    · simp; omega
set_option maxHeartbeats 1000000 in
theorem l7Cut_is (n : Int) (w : World) (z : Int) (hz : cutI n = z) :
    Calls Tryz.prog 98 #[.int .i64 n] w fun e w' => e = .returned (.int .i64 z) ∧ w' = w := by
  subst hz
  unfold cutI
  by_cases h : n > 1000000
  · rw [if_pos h]
    have h' : decide (1000000 < n) = true := by simpa using h
    go_enter Tryz.func98, Tryz.ntmps98
    go_wp2
    go_ret
    exact ⟨rfl, rfl⟩
  · rw [if_neg h]
    by_cases h2 : n < -1000000
    · rw [if_pos h2]
      go_enter Tryz.func98, Tryz.ntmps98
      go_wp2
      go_ret
      exact ⟨rfl, rfl⟩
    · rw [if_neg h2]
      go_enter Tryz.func98, Tryz.ntmps98
      go_wp2
      go_ret
      exact ⟨rfl, rfl⟩
set_option maxHeartbeats 1000000 in
theorem cutTo_is (n : Int) (w : World) (z : Int) (hz : cutI n = z) :
    Calls Tryz.prog 121 #[.int .i64 n] w fun e w' => e = .returned (.int .i64 z) ∧ w' = w := by
  subst hz
  unfold cutI
  by_cases h : n > 1000000
  · rw [if_pos h]
    go_enter Tryz.func121, Tryz.ntmps121
    go_wp2
    all_goals go_ret
    all_goals exact ⟨ret_int (by omega), rfl⟩
  · rw [if_neg h]
    by_cases h2 : n < -1000000
    · rw [if_pos h2]
      go_enter Tryz.func121, Tryz.ntmps121
      go_wp2
      all_goals go_ret
      all_goals exact ⟨ret_int (by omega), rfl⟩
    · rw [if_neg h2]
      go_enter Tryz.func121, Tryz.ntmps121
      go_wp2
      all_goals go_ret
      all_goals exact ⟨ret_int (by omega), rfl⟩
/-- What a stage makes of a value: what comes out, and whether it fails. -/
def expI (n : Nat) (b v : Int) : List Int := (List.range n).map fun i : Nat => cutI (v + (i : Int) * b)
def appSt (k a b v : Int) : List Int × Bool :=
  if k = 1 then ([cutI (v * a + b)], false)
  else if k = 2 then (if v % a = b then [v] else [], false)
  else if k = 3 then (expI a.toNat b v, false)
  else if v % a = b then ([], true) else ([v], false)
theorem expI_len (n : Nat) (b v : Int) : (expI n b v).length = n := by simp [expI]
theorem expI_succ (n : Nat) (b v : Int) : expI (n + 1) b v = expI n b v ++ [cutI (v + (n : Int) * b)] := by simp [expI, List.range_succ]
theorem good3 {a b : Int} (h : goodSt 3 a b = true) : 1 ≤ a ∧ a ≤ 3 ∧ -1000 ≤ b ∧ b ≤ 1000 := by
  rw [goodSt3] at h; simpa [and_assoc] using h
theorem good2 {a b : Int} (h : goodSt 2 a b = true) : 1 ≤ a ∧ a ≤ 1000 ∧ 0 ≤ b ∧ b ≤ a - 1 := by
  rw [goodSt2] at h; simpa [and_assoc] using h
theorem good4 {a b : Int} (h : goodSt 4 a b = true) : 1 ≤ a ∧ a ≤ 1000 ∧ 0 ≤ b ∧ b ≤ a - 1 := by
  rw [goodSt4] at h; simpa [and_assoc] using h
theorem good1 {a b : Int} (h : goodSt 1 a b = true) : -100 ≤ a ∧ a ≤ 100 ∧ -1000000 ≤ b ∧ b ≤ 1000000 := by
  rw [goodSt1] at h; simpa [valB, and_assoc] using h
theorem val_of {v : Int} (h : valB v = true) : -1000000 ≤ v ∧ v ≤ 1000000 := by simpa [valB] using h
theorem good_kind {k a b : Int} (h : goodSt k a b = true) : k = 1 ∨ k = 2 ∨ k = 3 ∨ k = 4 := by
  rcases kinds k with h1 | h1 | h1 | h1 | ⟨h1, h2, h3, h4⟩
  · exact .inl h1
  · exact .inr (.inl h1)
  · exact .inr (.inr (.inl h1))
  · exact .inr (.inr (.inr h1))
  · rw [goodSt0 h1 h2 h3 h4] at h; cases h
theorem appSt1 (a b v : Int) : appSt 1 a b v = ([cutI (v * a + b)], false) := rfl
theorem appSt2 (a b v : Int) : appSt 2 a b v = (if v % a = b then [v] else [], false) := rfl
theorem appSt3 (a b v : Int) : appSt 3 a b v = (expI a.toNat b v, false) := rfl
theorem appSt4 (a b v : Int) : appSt 4 a b v = if v % a = b then ([], true) else ([v], false) := rfl
theorem appSt_len {k a b v : Int} (h : goodSt k a b = true) : (appSt k a b v).1.length ≤ 3 := by
  rcases good_kind h with rfl | rfl | rfl | rfl
  · simp [appSt]
  · rw [appSt2]; dsimp only; split <;> simp
  · have := good3 h
    rw [appSt3]; dsimp only; rw [expI_len]; omega
  · rw [appSt4]; split <;> simp
theorem appSt_val {k a b v : Int} (h : goodSt k a b = true) (hv : valB v = true) : ∀ x ∈ (appSt k a b v).1, valB x = true := by
  intro x hx
  rcases good_kind h with rfl | rfl | rfl | rfl
  · simp [appSt] at hx; subst hx; exact cutI_val _
  · rw [appSt2] at hx; dsimp only at hx
    split at hx <;> simp at hx; subst hx; exact hv
  · rw [appSt3] at hx; dsimp only at hx
    simp [expI] at hx; obtain ⟨i, _, rfl⟩ := hx; exact cutI_val _
  · rw [appSt4] at hx
    split at hx <;> simp at hx; subst hx; exact hv
theorem mul_le100 {v a : Int} (h1 : -1000000 ≤ v ∧ v ≤ 1000000) (h2 : -100 ≤ a ∧ a ≤ 100) : -100000000 ≤ v * a ∧ v * a ≤ 100000000 := by
  have hn : (v * a).natAbs ≤ 1000000 * 100 := by rw [Int.natAbs_mul]; exact Nat.mul_le_mul (by omega) (by omega)
  omega
end
section
open Go.RowKit

/-- A row of ints of its own and a bool are answered. -/
def AnsA (w : World) (r : List Int × Bool) (e : Ending) (w' : World) : Prop :=
  (∃ o c, e = .returned (.tuple #[.slice o r.1.length c, .bool r.2]) ∧ (o = none → c = 0) ∧ kI.Fresh w.heap.size w'.heap.size w' o c r.1) ∧ Below w.heap.size w w'
theorem fresh_one {lo : Nat} {W : World} {z : Int} (h : lo ≤ W.heap.size) : kI.Fresh lo (W.alloc (.cells #[.int .i64 z] 3)).heap.size (W.alloc (.cells #[.int .i64 z] 3)) (some ⟨W.heap.size, 0, none⟩) 1 [z] :=
  .inr ⟨W.heap.size, rfl, by simp, Kind.own_of_heap (K := kI) (cs := [.int .i64 z]) (xs := [z]) (Array.getElem?_push_size) rfl h (by simp)⟩
theorem ansA_one {w W : World} {z : Int} {p : Nat} (hB : Below w.heap.size w W) (hp : W.heap.size = p) : AnsA w ([z], false) (.returned (.tuple #[.slice (some ⟨p, 0, none⟩) 1 1, .bool false])) (W.alloc (.cells #[.int .i64 z] 3)) := by
  subst hp; exact ⟨⟨_, _, rfl, (fun h => by cases h), fresh_one hB.size⟩, Below.allocS hB _⟩
theorem ansA_nil {w W : World} {b : Bool} (hB : Below w.heap.size w W) : AnsA w ([], b) (.returned (.tuple #[.slice none 0 0, .bool b])) W :=
  ⟨⟨_, _, rfl, fun _ => rfl, .inl rfl⟩, hB⟩
set_option maxHeartbeats 4000000 in
theorem l7Apply1 (a b v : Int) (w : World) (hg : goodSt 1 a b = true) (hv : valB v = true) :
    Calls Tryz.prog 87 #[.agg #[.int .i64 1, .int .i64 a, .int .i64 b], .int .i64 v] w (AnsA w (appSt 1 a b v)) := by
  have g1 := good1 hg
  have v1 := val_of hv
  have m1 := mul_le100 v1 ⟨g1.1, g1.2.1⟩
  clear hg hv
  go_enter Tryz.func87, Tryz.ntmps87
  go_wp2_with fail
  refine (l7Cut_is (v * a + b) _ _ rfl).mono ?_
  rintro e w1 ⟨rfl, hw1⟩
  rw [hw1]; clear hw1 w1
  go_wp2
  exact bodyPost_ret (v := .tuple #[.slice (some ⟨w.heap.size + 1, 0, none⟩) 1 1, .bool false]) (by simp [results, Tryz.results87, go_sem]) rfl (ansA_one (below1 _ _) (by simp))
set_option maxHeartbeats 4000000 in
theorem mapOne_is (a b v : Int) (w : World) (hg : goodSt 1 a b = true) (hv : valB v = true) :
    Calls Tryz.prog 103 #[.agg #[.int .i64 1, .int .i64 a, .int .i64 b], .int .i64 v] w (AnsA w (appSt 1 a b v)) := by
  have g1 := good1 hg
  have v1 := val_of hv
  have m1 := mul_le100 v1 ⟨g1.1, g1.2.1⟩
  clear hg hv
  go_enter Tryz.func103, Tryz.ntmps103
  go_wp2_with fail
  refine (cutTo_is (v * a + b) _ _ rfl).mono ?_
  rintro e w1 ⟨rfl, hw1⟩
  rw [hw1]; clear hw1 w1
  go_wp2
  exact bodyPost_ret (v := .tuple #[.slice (some ⟨w.heap.size + 1, 0, none⟩) 1 1, .bool false]) (by simp [results, Tryz.results103, go_sem]) rfl (ansA_one (below1 _ _) (by simp))
set_option maxHeartbeats 4000000 in
theorem l7Apply2 (a b v : Int) (w : World) (hg : goodSt 2 a b = true) :
    Calls Tryz.prog 87 #[.agg #[.int .i64 2, .int .i64 a, .int .i64 b], .int .i64 v] w (AnsA w (appSt 2 a b v)) := by
  have g1 := good2 hg
  clear hg
  generalize hm : v % a = m
  have HM := hid hm
  clear hm
  by_cases hh : m = b
  · have ha : appSt 2 a b v = ([v], false) := by rw [appSt2, HM.out, if_pos hh]
    rw [ha]
    have hc : (m != b) = false := by simp [hh]
    clear hh ha
    go_enter Tryz.func87, Tryz.ntmps87
    go_wp2
    go_quiet (exact Calls.quiet_of_same (l1Mod_is v a _ m HM.out (by omega) (by omega)))
    go_wp2
    exact bodyPost_ret (v := .tuple #[.slice (some ⟨w.heap.size + 1, 0, none⟩) 1 1, .bool false]) (by simp [results, Tryz.results87, go_sem]) rfl (ansA_one (below_draws (below1 _ _) _) (by simp))
  · have ha : appSt 2 a b v = ([], false) := by rw [appSt2, HM.out, if_neg hh]
    rw [ha]
    have hc : (m != b) = true := by simp [hh]
    clear hh ha
    go_enter Tryz.func87, Tryz.ntmps87
    go_wp2
    go_quiet (exact Calls.quiet_of_same (l1Mod_is v a _ m HM.out (by omega) (by omega)))
    go_wp2
    exact bodyPost_ret (v := .tuple #[.slice none 0 0, .bool false]) (by simp [results, Tryz.results87, go_sem]) rfl (ansA_nil (below_draws (below1 _ _) _))
set_option maxHeartbeats 4000000 in
theorem l7Apply4 (a b v : Int) (w : World) (hg : goodSt 4 a b = true) :
    Calls Tryz.prog 87 #[.agg #[.int .i64 4, .int .i64 a, .int .i64 b], .int .i64 v] w (AnsA w (appSt 4 a b v)) := by
  have g1 := good4 hg
  clear hg
  generalize hm : v % a = m
  have HM := hid hm
  clear hm
  by_cases hh : m = b
  · have ha : appSt 4 a b v = ([], true) := by rw [appSt4, HM.out, if_pos hh]
    rw [ha]
    have hc : (m == b) = true := by simp [hh]
    clear hh ha
    go_enter Tryz.func87, Tryz.ntmps87
    go_wp2
    go_quiet (exact Calls.quiet_of_same (l1Mod_is v a _ m HM.out (by omega) (by omega)))
    go_wp2
    exact bodyPost_ret (v := .tuple #[.slice none 0 0, .bool true]) (by simp [results, Tryz.results87, go_sem]) rfl (ansA_nil (below_draws (below1 _ _) _))
  · have ha : appSt 4 a b v = ([v], false) := by rw [appSt4, HM.out, if_neg hh]
    rw [ha]
    have hc : (m == b) = false := by simp [hh]
    clear hh ha
    go_enter Tryz.func87, Tryz.ntmps87
    go_wp2
    go_quiet (exact Calls.quiet_of_same (l1Mod_is v a _ m HM.out (by omega) (by omega)))
    go_wp2
    exact bodyPost_ret (v := .tuple #[.slice (some ⟨w.heap.size + 1, 0, none⟩) 1 1, .bool false]) (by simp [results, Tryz.results87, go_sem]) rfl (ansA_one (below_draws (below1 _ _) _) (by simp))
set_option maxHeartbeats 4000000 in
theorem filterOne_is (a b v : Int) (w : World) (hg : goodSt 2 a b = true) :
    Calls Tryz.prog 106 #[.agg #[.int .i64 2, .int .i64 a, .int .i64 b], .int .i64 v] w (AnsA w (appSt 2 a b v)) := by
  have g1 := good2 hg
  clear hg
  generalize hm : v % a = m
  have HM := hid hm
  clear hm
  by_cases hh : m = b
  · have ha : appSt 2 a b v = ([v], false) := by rw [appSt2, HM.out, if_pos hh]
    rw [ha]
    have hc : (m != b) = false := by simp [hh]
    clear hh ha
    go_enter Tryz.func106, Tryz.ntmps106
    go_wp2
    go_quiet (exact Calls.quiet_of_same (modulo_is v a _ m HM.out (by omega) (by omega)))
    go_wp2
    exact bodyPost_ret (v := .tuple #[.slice (some ⟨w.heap.size + 1, 0, none⟩) 1 1, .bool false]) (by simp [results, Tryz.results106, go_sem]) rfl (ansA_one (below_draws (below1 _ _) _) (by simp))
  · have ha : appSt 2 a b v = ([], false) := by rw [appSt2, HM.out, if_neg hh]
    rw [ha]
    have hc : (m != b) = true := by simp [hh]
    clear hh ha
    go_enter Tryz.func106, Tryz.ntmps106
    go_wp2
    go_quiet (exact Calls.quiet_of_same (modulo_is v a _ m HM.out (by omega) (by omega)))
    go_wp2
    exact bodyPost_ret (v := .tuple #[.slice none 0 0, .bool false]) (by simp [results, Tryz.results106, go_sem]) rfl (ansA_nil (below_draws (below1 _ _) _))
set_option maxHeartbeats 4000000 in
theorem poisonOne_is (a b v : Int) (w : World) (hg : goodSt 4 a b = true) :
    Calls Tryz.prog 110 #[.agg #[.int .i64 4, .int .i64 a, .int .i64 b], .int .i64 v] w (AnsA w (appSt 4 a b v)) := by
  have g1 := good4 hg
  clear hg
  generalize hm : v % a = m
  have HM := hid hm
  clear hm
  by_cases hh : m = b
  · have ha : appSt 4 a b v = ([], true) := by rw [appSt4, HM.out, if_pos hh]
    rw [ha]
    have hc : (m == b) = true := by simp [hh]
    clear hh ha
    go_enter Tryz.func110, Tryz.ntmps110
    go_wp2
    go_quiet (exact Calls.quiet_of_same (modulo_is v a _ m HM.out (by omega) (by omega)))
    go_wp2
    exact bodyPost_ret (v := .tuple #[.slice none 0 0, .bool true]) (by simp [results, Tryz.results110, go_sem]) rfl (ansA_nil (below_draws (below1 _ _) _))
  · have ha : appSt 4 a b v = ([v], false) := by rw [appSt4, HM.out, if_neg hh]
    rw [ha]
    have hc : (m == b) = false := by simp [hh]
    clear hh ha
    go_enter Tryz.func110, Tryz.ntmps110
    go_wp2
    go_quiet (exact Calls.quiet_of_same (modulo_is v a _ m HM.out (by omega) (by omega)))
    go_wp2
    exact bodyPost_ret (v := .tuple #[.slice (some ⟨w.heap.size + 1, 0, none⟩) 1 1, .bool false]) (by simp [results, Tryz.results110, go_sem]) rfl (ansA_one (below_draws (below1 _ _) _) (by simp))
set_option maxHeartbeats 8000000 in
theorem l7Apply3 (a b v : Int) (w : World) (hg : goodSt 3 a b = true) (hv : valB v = true) :
    Calls Tryz.prog 87 #[.agg #[.int .i64 3, .int .i64 a, .int .i64 b], .int .i64 v] w (AnsA w (appSt 3 a b v)) := by
  have g1 := good3 hg
  have v1 := val_of hv
  rw [appSt3]
  obtain ⟨n, hn⟩ : ∃ n : Nat, a = n := ⟨a.toNat, by omega⟩
  subst hn
  have hn3 : n ≤ 3 := by omega
  have hn1 : 1 ≤ n := by omega
  have hb1 : -1000 ≤ b ∧ b ≤ 1000 := g1.2.2
  rw [show (n : Int).toNat = n from by simp]
  clear hg hv g1
  have A0 := hid (Bx.new (w := w) (p := w.heap.size) [.int .i64 3, .int .i64 n, .int .i64 b] 32 rfl)
  have hB0 := below1 w (.cells #[.int .i64 3, .int .i64 n, .int .i64 b] 32)
  go_enter Tryz.func87, Tryz.ntmps87
  go_wp2
  go_loopw [6, 7] (fun u i wr => ∃ (k : Nat) (v' : Value), v' = u ∧ k ≤ n ∧ i = .int .i64 k ∧ Hid (kI.Own (w.heap.size + 1) wr v' (expI k b v)) ∧ Hid (Bx wr w.heap.size [.int .i64 3, .int .i64 n, .int .i64 b]) ∧ Below w.heap.size w wr ∧ w.heap.size + 1 ≤ wr.heap.size) (fun _ i _ => n - (intOf i).toNat)
  case atStart => exact ⟨0, _, rfl, Nat.zero_le _, rfl, Kind.Own.nil _ _ _, A0, hB0, by simp⟩
  case round =>
    obtain ⟨k, u, rfl, hk, rfl, hO, hA, hB, hs⟩ := hrel
    have a0 := hA.out.c 0 rfl
    have a1 := hA.out.c 1 rfl
    have a2 := hA.out.c 2 rfl
    by_cases hlt : k < n
    · have hkb : -3000 ≤ (k : Int) * b ∧ (k : Int) * b ≤ 3000 := by
        have hq : ((k : Int) * b).natAbs ≤ 3 * 1000 := by rw [Int.natAbs_mul]; exact Nat.mul_le_mul (by omega) (by omega)
        omega
      obtain ⟨z, hz⟩ : ∃ z, z = cutI (v + (k : Int) * b) := ⟨_, rfl⟩
      have HZ := hid hz
      clear hz
      have HA : Hid (kI.Own (w.heap.size + 1) (wr.alloc (.cells #[.int .i64 z] 3)) u (expI k b v)) := hO.out.below (below1 _ _)
      have HN : Hid (kI.In (wr.heap.size + 1) (wr.alloc (.cells #[.int .i64 z] 3)) (some ⟨wr.heap.size, 0, none⟩) [z]) := int_one (by omega) (by simp)
      have hll : (expI k b v).length + 1 ≤ 4194304 := by rw [expI_len]; omega
      have hBa : Below w.heap.size w (wr.alloc (.cells #[.int .i64 z] 3)) := Below.allocS hB _
      have hA2 := hid (hA.out.alloc (.cells #[.int .i64 z] 3))
      go_wp2_with fail
      refine (l7Cut_is (v + (k : Int) * b) _ z HZ.out.symm).mono ?_
      rintro e w1 ⟨rfl, hw1⟩
      rw [hw1]; clear hw1 w1
      go_wp2_with (at_builtin; refine Kind.app kI_ok (wr.alloc (.cells #[.int .i64 z] 3)) rfl (.tmp 45) (.tmp 53) rfl (w.heap.size + 1) u (expI k b v) rfl HA.out (by simp; omega) (some ⟨wr.heap.size, 0, none⟩) [z] 1 1 rfl rfl (by simp) _ HN.out hll ?_; intro v' w' hO' hB' hG' hn'; have hB2 : Below w.heap.size w w' := hBa.trans (hB'.mono (by omega)); have hs2 : w.heap.size + 1 ≤ w'.heap.size := (by have := hB'.size; simp at this; omega); have HA3 := hid (hA2.out.below hB' (by omega)); have HO' : Hid (kI.Own (w.heap.size + 1) w' v' (expI (k + 1) b v)) := (by rw [Hid, expI_succ, ← HZ.out]; exact hO'); clear hO' hB' hG' hn')
      go_roundw
      case rel => exact ⟨k + 1, v', rfl, by omega, by go_num, HO', HA3, hB2, hs2⟩
      case measure => simp [intOf]; omega
    · obtain rfl : k = n := by omega
      obtain ⟨qo, qc, rfl, hq0, hF⟩ := hO.out.fresh
      have HF : Hid (kI.Fresh w.heap.size wr.heap.size wr qo qc (expI k b v)) := hF.wide (by omega) (Nat.le_refl _)
      have HQ := hid hq0
      clear hF hO hq0
      go_wp2
      exact bodyPost_ret (v := .tuple #[.slice qo (expI k b v).length qc, .bool false]) (by simp [results, Tryz.results87, go_sem]) rfl ⟨⟨_, _, rfl, HQ.out, HF.out⟩, hB⟩
set_option maxHeartbeats 8000000 in
theorem expandOne_is (a b v : Int) (w : World) (hg : goodSt 3 a b = true) (hv : valB v = true) :
    Calls Tryz.prog 108 #[.agg #[.int .i64 3, .int .i64 a, .int .i64 b], .int .i64 v] w (AnsA w (appSt 3 a b v)) := by
  have g1 := good3 hg
  have v1 := val_of hv
  rw [appSt3]
  obtain ⟨n, hn⟩ : ∃ n : Nat, a = n := ⟨a.toNat, by omega⟩
  subst hn
  have hn3 : n ≤ 3 := by omega
  have hn1 : 1 ≤ n := by omega
  have hb1 : -1000 ≤ b ∧ b ≤ 1000 := g1.2.2
  rw [show (n : Int).toNat = n from by simp]
  clear hg hv g1
  have A0 := hid (Bx.new (w := w) (p := w.heap.size) [.int .i64 3, .int .i64 n, .int .i64 b] 32 rfl)
  have hB0 := below1 w (.cells #[.int .i64 3, .int .i64 n, .int .i64 b] 32)
  go_enter Tryz.func108, Tryz.ntmps108
  go_wp2
  go_loopw [6, 10] (fun u i wr => ∃ (k : Nat) (v' : Value), v' = u ∧ k ≤ n ∧ i = .int .i64 k ∧ Hid (kI.Own (w.heap.size + 1) wr v' (expI k b v)) ∧ Hid (Bx wr w.heap.size [.int .i64 3, .int .i64 n, .int .i64 b]) ∧ Below w.heap.size w wr ∧ w.heap.size + 1 ≤ wr.heap.size) (fun _ i _ => n - (intOf i).toNat)
  case atStart => exact ⟨0, _, rfl, Nat.zero_le _, rfl, Kind.Own.nil _ _ _, A0, hB0, by simp⟩
  case round =>
    obtain ⟨k, u, rfl, hk, rfl, hO, hA, hB, hs⟩ := hrel
    have a0 := hA.out.c 0 rfl
    have a1 := hA.out.c 1 rfl
    have a2 := hA.out.c 2 rfl
    by_cases hlt : k < n
    · have hkb : -3000 ≤ (k : Int) * b ∧ (k : Int) * b ≤ 3000 := by
        have hq : ((k : Int) * b).natAbs ≤ 3 * 1000 := by rw [Int.natAbs_mul]; exact Nat.mul_le_mul (by omega) (by omega)
        omega
      obtain ⟨z, hz⟩ : ∃ z, z = cutI (v + (k : Int) * b) := ⟨_, rfl⟩
      have HZ := hid hz
      clear hz
      have HA : Hid (kI.Own (w.heap.size + 1) (wr.alloc (.cells #[.int .i64 z] 3)) u (expI k b v)) := hO.out.below (below1 _ _)
      have HN : Hid (kI.In (wr.heap.size + 1) (wr.alloc (.cells #[.int .i64 z] 3)) (some ⟨wr.heap.size, 0, none⟩) [z]) := int_one (by omega) (by simp)
      have hll : (expI k b v).length + 1 ≤ 4194304 := by rw [expI_len]; omega
      have hBa : Below w.heap.size w (wr.alloc (.cells #[.int .i64 z] 3)) := Below.allocS hB _
      have hA2 := hid (hA.out.alloc (.cells #[.int .i64 z] 3))
      go_wp2_with fail
      refine (cutTo_is (v + (k : Int) * b) _ z HZ.out.symm).mono ?_
      rintro e w1 ⟨rfl, hw1⟩
      rw [hw1]; clear hw1 w1
      go_wp2_with (at_builtin; refine Kind.app kI_ok (wr.alloc (.cells #[.int .i64 z] 3)) rfl (.tmp 13) (.tmp 21) rfl (w.heap.size + 1) u (expI k b v) rfl HA.out (by simp; omega) (some ⟨wr.heap.size, 0, none⟩) [z] 1 1 rfl rfl (by simp) _ HN.out hll ?_; intro v' w' hO' hB' hG' hn'; have hB2 : Below w.heap.size w w' := hBa.trans (hB'.mono (by omega)); have hs2 : w.heap.size + 1 ≤ w'.heap.size := (by have := hB'.size; simp at this; omega); have HA3 := hid (hA2.out.below hB' (by omega)); have HO' : Hid (kI.Own (w.heap.size + 1) w' v' (expI (k + 1) b v)) := (by rw [Hid, expI_succ, ← HZ.out]; exact hO'); clear hO' hB' hG' hn')
      go_roundw
      case rel => exact ⟨k + 1, v', rfl, by omega, by go_num, HO', HA3, hB2, hs2⟩
      case measure => simp [intOf]; omega
    · obtain rfl : k = n := by omega
      obtain ⟨qo, qc, rfl, hq0, hF⟩ := hO.out.fresh
      have HF : Hid (kI.Fresh w.heap.size wr.heap.size wr qo qc (expI k b v)) := hF.wide (by omega) (Nat.le_refl _)
      have HQ := hid hq0
      clear hF hO hq0
      go_wp2
      exact bodyPost_ret (v := .tuple #[.slice qo (expI k b v).length qc, .bool false]) (by simp [results, Tryz.results108, go_sem]) rfl ⟨⟨_, _, rfl, HQ.out, HF.out⟩, hB⟩
theorem l7Apply_any (k a b v : Int) (w : World) (hg : goodSt k a b = true) (hv : valB v = true) :
    Calls Tryz.prog 87 #[.agg #[.int .i64 k, .int .i64 a, .int .i64 b], .int .i64 v] w (AnsA w (appSt k a b v)) := by
  rcases good_kind hg with rfl | rfl | rfl | rfl
  · exact l7Apply1 a b v w hg hv
  · exact l7Apply2 a b v w hg
  · exact l7Apply3 a b v w hg hv
  · exact l7Apply4 a b v w hg
end
end Go.Proofs.YtebnapgcobcilaaGreatDoor
