
/- Stages: GoodStage and FactorOf on both sides, and their laws' walks. No conditions but those written. -/
import Derived.Test.YteamcpcjooglaaaDoorSi
namespace Go.Proofs.YteamcpcjooglaaaDoor
open Go.RowKit

set_option maxHeartbeats 2000000 in
theorem implGood1 (a b : Int) (w : World) (hg : goodSt 1 a b = true) :
    Calls Tryd.prog 49 #[.agg #[.int .i64 1, .int .i64 a, .int .i64 b]] w fun e w' => e = .returned (.bool true) ∧ Below w.heap.size w w' := by
  go_enter Tryd.func49, Tryd.ntmps49
  go_wp2_with fail
  refine (goodKind1_true a b _ hg).mono ?_
  rintro e w1 ⟨rfl, hb1⟩
  have hB1 := (below1 w (.cells #[.int .i64 1, .int .i64 a, .int .i64 b] 37)).trans (hb1.mono (by simp))
  clear hb1
  go_wp2
  go_ret
  exact ⟨rfl, Below.allocS hB1 _⟩
set_option maxHeartbeats 2000000 in
theorem implGood2 (a b : Int) (w : World) (hg : goodSt 2 a b = true) :
    Calls Tryd.prog 49 #[.agg #[.int .i64 2, .int .i64 a, .int .i64 b]] w fun e w' => e = .returned (.bool true) ∧ Below w.heap.size w w' := by
  go_enter Tryd.func49, Tryd.ntmps49
  go_wp2_with fail
  refine (goodKind2_true a b _ hg).mono ?_
  rintro e w1 ⟨rfl, hb1⟩
  have hB1 := (below1 w (.cells #[.int .i64 2, .int .i64 a, .int .i64 b] 37)).trans (hb1.mono (by simp))
  clear hb1
  go_wp2
  go_ret
  exact ⟨rfl, Below.allocS hB1 _⟩
set_option maxHeartbeats 2000000 in
theorem implGood3 (a b : Int) (w : World) (hg : goodSt 3 a b = true) :
    Calls Tryd.prog 49 #[.agg #[.int .i64 3, .int .i64 a, .int .i64 b]] w fun e w' => e = .returned (.bool true) ∧ Below w.heap.size w w' := by
  go_enter Tryd.func49, Tryd.ntmps49
  go_wp2_with fail
  refine (goodKind3_true a b _ hg).mono ?_
  rintro e w1 ⟨rfl, hb1⟩
  have hB1 := (below1 w (.cells #[.int .i64 3, .int .i64 a, .int .i64 b] 37)).trans (hb1.mono (by simp))
  clear hb1
  go_wp2
  go_ret
  exact ⟨rfl, Below.allocS hB1 _⟩
set_option maxHeartbeats 2000000 in
theorem implGood4 (a b : Int) (w : World) (hg : goodSt 4 a b = true) :
    Calls Tryd.prog 49 #[.agg #[.int .i64 4, .int .i64 a, .int .i64 b]] w fun e w' => e = .returned (.bool true) ∧ Below w.heap.size w w' := by
  go_enter Tryd.func49, Tryd.ntmps49
  go_wp2_with fail
  refine (goodKind4_true a b _ hg).mono ?_
  rintro e w1 ⟨rfl, hb1⟩
  have hB1 := (below1 w (.cells #[.int .i64 4, .int .i64 a, .int .i64 b] 37)).trans (hb1.mono (by simp))
  clear hb1
  go_wp2
  go_ret
  exact ⟨rfl, Below.allocS hB1 _⟩
set_option maxHeartbeats 2000000 in
theorem implGood0 (k a b : Int) (w : World) (hg : goodSt k a b = false) :
    Calls Tryd.prog 49 #[.agg #[.int .i64 k, .int .i64 a, .int .i64 b]] w fun e w' => e = .returned (.bool false) ∧ Below w.heap.size w w' := by
  go_enter Tryd.func49, Tryd.ntmps49
  go_wp2_with fail
  refine (goodKind_no k a b _ hg).mono ?_
  rintro e w1 ⟨rfl, hb1⟩
  have hB1 := (below1 w (.cells #[.int .i64 k, .int .i64 a, .int .i64 b] 37)).trans (hb1.mono (by simp))
  clear hb1
  go_wp2
  go_ret
  exact ⟨rfl, Below.allocS hB1 _⟩
theorem implGood_is (k a b : Int) (w : World) (r : Bool) (hg : goodSt k a b = r) :
    Calls Tryd.prog 49 #[.agg #[.int .i64 k, .int .i64 a, .int .i64 b]] w fun e w' => e = .returned (.bool r) ∧ Below w.heap.size w w' := by
  cases r with
  | false => exact implGood0 k a b w hg
  | true =>
    rcases kinds k with rfl | rfl | rfl | rfl | ⟨h1, h2, h3, h4⟩
    · exact implGood1 a b w hg
    · exact implGood2 a b w hg
    · exact implGood3 a b w hg
    · exact implGood4 a b w hg
    · rw [goodSt0 h1 h2 h3 h4] at hg; cases hg
/-- How many come out at most. -/
def factI (k a b : Int) : Int := if goodSt k a b = true then (if k = 3 then a else 1) else 0
set_option maxHeartbeats 2000000 in
theorem atMostOne_is (k a b : Int) (w : World) :
    Calls Tryd.prog 68 #[.agg #[.int .i64 k, .int .i64 a, .int .i64 b]] w fun e w' => e = .returned (.int .i64 1) ∧ Below w.heap.size w w' := by
  go_enter Tryd.func68, Tryd.ntmps68
  go_wp2
  go_ret
  exact ⟨rfl, below1 _ _⟩
set_option maxHeartbeats 2000000 in
theorem expandedTo_is (k a b : Int) (w : World) :
    Calls Tryd.prog 73 #[.agg #[.int .i64 k, .int .i64 a, .int .i64 b]] w fun e w' => e = .returned (.int .i64 a) ∧ Below w.heap.size w w' := by
  go_enter Tryd.func73, Tryd.ntmps73
  go_wp2
  go_ret
  exact ⟨rfl, below1 _ _⟩
set_option maxHeartbeats 2000000 in
theorem implFact0 (k a b : Int) (w : World) (hg : goodSt k a b = false) :
    Calls Tryd.prog 30 #[.agg #[.int .i64 k, .int .i64 a, .int .i64 b]] w fun e w' => e = .returned (.int .i64 0) ∧ Below w.heap.size w w' := by
  go_enter Tryd.func30, Tryd.ntmps30
  go_wp2_with fail
  refine (goodKind_no k a b _ hg).mono ?_
  rintro e w1 ⟨rfl, hb1⟩
  have hB1 := (below1 w (.cells #[.int .i64 k, .int .i64 a, .int .i64 b] 37)).trans (hb1.mono (by simp))
  clear hb1
  go_wp2
  go_ret
  exact ⟨rfl, Below.allocS hB1 _⟩
set_option maxHeartbeats 2000000 in
theorem implFact1 (a b : Int) (w : World) (hg : goodSt 1 a b = true) :
    Calls Tryd.prog 30 #[.agg #[.int .i64 1, .int .i64 a, .int .i64 b]] w fun e w' => e = .returned (.int .i64 1) ∧ Below w.heap.size w w' := by
  go_enter Tryd.func30, Tryd.ntmps30
  go_wp2_with fail
  refine (goodKind1_true a b _ hg).mono ?_
  rintro e w1 ⟨rfl, hb1⟩
  have hB1 := Below.allocS ((below1 w (.cells #[.int .i64 1, .int .i64 a, .int .i64 b] 37)).trans (hb1.mono (by simp))) (.cells #[.func (.func 66) #[] #[], .func (.func 67) #[] #[], .func (.func 68) #[] #[]] 76)
  have XS := hid (((Bx.new (w := w) (p := w.heap.size) [.int .i64 1, .int .i64 a, .int .i64 b] 37 rfl).later hb1).alloc (.cells #[.func (.func 66) #[] #[], .func (.func 67) #[] #[], .func (.func 68) #[] #[]] 76))
  have XK := hid (Bx.new (w := w1) (p := w1.heap.size) [.func (.func 66) #[] #[], .func (.func 67) #[] #[], .func (.func 68) #[] #[]] 76 rfl)
  clear hb1
  have s0 := XS.out.c 0 rfl
  have s1 := XS.out.c 1 rfl
  have s2 := XS.out.c 2 rfl
  have k0 := XK.out.c 0 rfl
  have k1 := XK.out.c 1 rfl
  have k2 := XK.out.c 2 rfl
  go_wp2_with fail
  refine (atMostOne_is 1 a b _).mono ?_
  rintro e w2 ⟨rfl, hb2⟩
  have hB2 := hB1.trans (hb2.mono hB1.size)
  clear hb2 hB1 XS XK s0 s1 s2 k0 k1 k2
  go_wp2
  go_ret
  exact ⟨rfl, hB2⟩
set_option maxHeartbeats 2000000 in
theorem implFact2 (a b : Int) (w : World) (hg : goodSt 2 a b = true) :
    Calls Tryd.prog 30 #[.agg #[.int .i64 2, .int .i64 a, .int .i64 b]] w fun e w' => e = .returned (.int .i64 1) ∧ Below w.heap.size w w' := by
  go_enter Tryd.func30, Tryd.ntmps30
  go_wp2_with fail
  refine (goodKind2_true a b _ hg).mono ?_
  rintro e w1 ⟨rfl, hb1⟩
  have hB1 := Below.allocS ((below1 w (.cells #[.int .i64 2, .int .i64 a, .int .i64 b] 37)).trans (hb1.mono (by simp))) (.cells #[.func (.func 69) #[] #[], .func (.func 70) #[] #[], .func (.func 68) #[] #[]] 76)
  have XS := hid (((Bx.new (w := w) (p := w.heap.size) [.int .i64 2, .int .i64 a, .int .i64 b] 37 rfl).later hb1).alloc (.cells #[.func (.func 69) #[] #[], .func (.func 70) #[] #[], .func (.func 68) #[] #[]] 76))
  have XK := hid (Bx.new (w := w1) (p := w1.heap.size) [.func (.func 69) #[] #[], .func (.func 70) #[] #[], .func (.func 68) #[] #[]] 76 rfl)
  clear hb1
  have s0 := XS.out.c 0 rfl
  have s1 := XS.out.c 1 rfl
  have s2 := XS.out.c 2 rfl
  have k0 := XK.out.c 0 rfl
  have k1 := XK.out.c 1 rfl
  have k2 := XK.out.c 2 rfl
  go_wp2_with fail
  refine (atMostOne_is 2 a b _).mono ?_
  rintro e w2 ⟨rfl, hb2⟩
  have hB2 := hB1.trans (hb2.mono hB1.size)
  clear hb2 hB1 XS XK s0 s1 s2 k0 k1 k2
  go_wp2
  go_ret
  exact ⟨rfl, hB2⟩
set_option maxHeartbeats 2000000 in
theorem implFact3 (a b : Int) (w : World) (hg : goodSt 3 a b = true) :
    Calls Tryd.prog 30 #[.agg #[.int .i64 3, .int .i64 a, .int .i64 b]] w fun e w' => e = .returned (.int .i64 a) ∧ Below w.heap.size w w' := by
  go_enter Tryd.func30, Tryd.ntmps30
  go_wp2_with fail
  refine (goodKind3_true a b _ hg).mono ?_
  rintro e w1 ⟨rfl, hb1⟩
  have hB1 := Below.allocS ((below1 w (.cells #[.int .i64 3, .int .i64 a, .int .i64 b] 37)).trans (hb1.mono (by simp))) (.cells #[.func (.func 71) #[] #[], .func (.func 72) #[] #[], .func (.func 73) #[] #[]] 76)
  have XS := hid (((Bx.new (w := w) (p := w.heap.size) [.int .i64 3, .int .i64 a, .int .i64 b] 37 rfl).later hb1).alloc (.cells #[.func (.func 71) #[] #[], .func (.func 72) #[] #[], .func (.func 73) #[] #[]] 76))
  have XK := hid (Bx.new (w := w1) (p := w1.heap.size) [.func (.func 71) #[] #[], .func (.func 72) #[] #[], .func (.func 73) #[] #[]] 76 rfl)
  clear hb1
  have s0 := XS.out.c 0 rfl
  have s1 := XS.out.c 1 rfl
  have s2 := XS.out.c 2 rfl
  have k0 := XK.out.c 0 rfl
  have k1 := XK.out.c 1 rfl
  have k2 := XK.out.c 2 rfl
  go_wp2_with fail
  refine (expandedTo_is 3 a b _).mono ?_
  rintro e w2 ⟨rfl, hb2⟩
  have hB2 := hB1.trans (hb2.mono hB1.size)
  clear hb2 hB1 XS XK s0 s1 s2 k0 k1 k2
  go_wp2
  go_ret
  exact ⟨rfl, hB2⟩
set_option maxHeartbeats 2000000 in
theorem implFact4 (a b : Int) (w : World) (hg : goodSt 4 a b = true) :
    Calls Tryd.prog 30 #[.agg #[.int .i64 4, .int .i64 a, .int .i64 b]] w fun e w' => e = .returned (.int .i64 1) ∧ Below w.heap.size w w' := by
  go_enter Tryd.func30, Tryd.ntmps30
  go_wp2_with fail
  refine (goodKind4_true a b _ hg).mono ?_
  rintro e w1 ⟨rfl, hb1⟩
  have hB1 := Below.allocS ((below1 w (.cells #[.int .i64 4, .int .i64 a, .int .i64 b] 37)).trans (hb1.mono (by simp))) (.cells #[.func (.func 69) #[] #[], .func (.func 74) #[] #[], .func (.func 68) #[] #[]] 76)
  have XS := hid (((Bx.new (w := w) (p := w.heap.size) [.int .i64 4, .int .i64 a, .int .i64 b] 37 rfl).later hb1).alloc (.cells #[.func (.func 69) #[] #[], .func (.func 74) #[] #[], .func (.func 68) #[] #[]] 76))
  have XK := hid (Bx.new (w := w1) (p := w1.heap.size) [.func (.func 69) #[] #[], .func (.func 74) #[] #[], .func (.func 68) #[] #[]] 76 rfl)
  clear hb1
  have s0 := XS.out.c 0 rfl
  have s1 := XS.out.c 1 rfl
  have s2 := XS.out.c 2 rfl
  have k0 := XK.out.c 0 rfl
  have k1 := XK.out.c 1 rfl
  have k2 := XK.out.c 2 rfl
  go_wp2_with fail
  refine (atMostOne_is 4 a b _).mono ?_
  rintro e w2 ⟨rfl, hb2⟩
  have hB2 := hB1.trans (hb2.mono hB1.size)
  clear hb2 hB1 XS XK s0 s1 s2 k0 k1 k2
  go_wp2
  go_ret
  exact ⟨rfl, hB2⟩
theorem implFact_is (k a b : Int) (w : World) (z : Int) (hz : factI k a b = z) :
    Calls Tryd.prog 30 #[.agg #[.int .i64 k, .int .i64 a, .int .i64 b]] w fun e w' => e = .returned (.int .i64 z) ∧ Below w.heap.size w w' := by
  subst hz
  unfold factI
  rcases hg : goodSt k a b with _ | _
  · exact implFact0 k a b w hg
  · rw [if_pos rfl]
    rcases kinds k with rfl | rfl | rfl | rfl | ⟨h1, h2, h3, h4⟩
    · exact implFact1 a b w hg
    · exact implFact2 a b w hg
    · exact implFact3 a b w hg
    · exact implFact4 a b w hg
    · rw [goodSt0 h1 h2 h3 h4] at hg; cases hg
set_option maxHeartbeats 2000000 in
theorem specFact_is (k a b : Int) (w : World) (z : Int) (hz : factI k a b = z) :
    Calls Tryd.prog 23 #[.agg #[.int .i64 k, .int .i64 a, .int .i64 b]] w fun e w' => e = .returned (.int .i64 z) ∧ Below w.heap.size w w' := by
  subst hz
  unfold factI
  rcases hg : goodSt k a b with _ | _
  · have HG := hid hg
    clear hg
    go_enter Tryd.func23, Tryd.ntmps23
    go_wp2_with fail
    refine (specGood_is k a b _ _ HG.out).mono ?_
    rintro e w1 ⟨rfl, hw1⟩
    rw [hw1]; clear hw1 w1
    go_wp2
    go_ret
    exact ⟨rfl, below2 _ _ _⟩
  · have HG := hid hg
    clear hg
    rw [if_pos rfl]
    by_cases h3 : k = 3
    · subst h3
      go_enter Tryd.func23, Tryd.ntmps23
      go_wp2_with fail
      refine (specGood_is 3 a b _ _ HG.out).mono ?_
      rintro e w1 ⟨rfl, hw1⟩
      rw [hw1]; clear hw1 w1
      go_wp2
      go_ret
      exact ⟨rfl, below2 _ _ _⟩
    · have k3 : (k == 3) = false := by simpa using h3
      rw [if_neg h3]
      clear h3
      go_enter Tryd.func23, Tryd.ntmps23
      go_wp2_with fail
      refine (specGood_is k a b _ _ HG.out).mono ?_
      rintro e w1 ⟨rfl, hw1⟩
      rw [hw1]; clear hw1 w1
      go_wp2
      go_ret
      exact ⟨rfl, below2 _ _ _⟩
set_option maxHeartbeats 2000000 in
theorem toStage_any (x1 x2 x3 : Int) (w : World) :
    Calls Tryd.prog 24 #[.agg #[.int .i64 x1, .int .i64 x2, .int .i64 x3]] w fun e w' => e = .returned (.agg #[.int .i64 x1, .int .i64 x2, .int .i64 x3]) ∧ Below w.heap.size w w' := by
  go_enter Tryd.func24, Tryd.ntmps24
  go_wp2
  exact bodyPost_ret (v := .agg #[.int .i64 x1, .int .i64 x2, .int .i64 x3]) (by simp [results, Tryd.results24, go_sem]) rfl ⟨rfl, below3 _ _ _ _⟩
end Go.Proofs.YteamcpcjooglaaaDoor
