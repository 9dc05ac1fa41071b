
/- The walk of the law: it returns true. No conditions but those written. -/
import Derived.Test.YtmijibgfdhjbfaaPg
namespace Go.Proofs.Ytmijibgfdhjbfaa
open Go.RowKit

set_option maxRecDepth 100000 in
set_option maxHeartbeats 8000000 in
theorem lawSettled_any (s1 s2 : Int) (ao : Option Addr) (cap : Nat) (ts : List (Int × Int × Int)) (w : World) (hl : ts.length ≤ 9223372036854775807) (hz : kW.In w.heap.size w ao ts) :
    Calls Try.prog 6 #[.agg #[.int .i64 s1, .int .i64 s2, .slice ao ts.length cap]] w fun e w' => e = .returned (.bool true) ∧ Below w.heap.size w w' := by
  obtain ⟨⟨x, y, z⟩, hx⟩ : ∃ x, setR s1 s2 ts = x := ⟨_, rfl⟩
  have HX : Hid (setR s1 s2 ts = (x, y, z)) := hx
  have hne : (x != x) = false := by simp
  have hne1 : (y != y) = false := by simp
  have hne2 : (z != z) = false := by simp
  clear hx
  go_enter Try.func6, Try.ntmps6
  go_wp2_with fail
  refine (szPool_any s1 s2 ao ts.length cap _ hl).mono ?_
  rintro e w1 ⟨⟨zz, rfl, hr⟩, hb1⟩
  have A1 := hid ((Bx.new (w := w) (p := w.heap.size) [.int .i64 s1, .int .i64 s2, .slice ao ts.length cap] 24 rfl).later hb1)
  have hB1 := (below1 w (.cells #[.int .i64 s1, .int .i64 s2, .slice ao ts.length cap] 24)).trans (hb1.mono (by simp))
  clear hb1
  rcases hr with hr | ⟨hr0, k1⟩
  · go_wp2
    go_ret
    exact ⟨rfl, hB1⟩
  have a0 := A1.out.c 0 rfl
  have a1 := A1.out.c 1 rfl
  have a2 := A1.out.c 2 rfl
  go_wp2_with fail
  refine (toPool_any s1 s2 ao cap ts _ k1 (hz.later hB1)).mono ?_
  rintro e w2 ⟨g2, rfl, hF2, hb2⟩
  have hB2 := hB1.trans (hb2.mono hB1.size)
  have Z2 := hid (hF2.in)
  clear a0 a1 a2
  have A2 := hid (A1.out.later hb2)
  clear A1
  clear hb2 hF2
  go_wp2_with fail
  refine (specSettled_any s1 s2 (some ⟨g2, 0, none⟩) ts.length ts w2 k1 (Nat.le_refl _) Z2.out).mono ?_
  rintro e w3 ⟨rfl, hb3⟩
  rw [HX.out]
  dsimp only
  have hB3 := hB2.trans (hb3.mono hB2.size)
  have A3 := hid (A2.out.later hb3)
  clear A2
  have a0 := A3.out.c 0 rfl
  have a1 := A3.out.c 1 rfl
  have a2 := A3.out.c 2 rfl
  clear hb3 Z2
  go_wp2_with fail
  refine (toPool_any s1 s2 ao cap ts _ k1 (hz.later hB3)).mono ?_
  rintro e w4 ⟨g4, rfl, hF4, hb4⟩
  have hB4 := hB3.trans (hb4.mono hB3.size)
  have X4 := hid (hF4)
  clear a0 a1 a2
  have A4 := hid (A3.out.later hb4)
  clear A3
  clear hb4 hF4
  have hn4 := below1 w4 (.cells #[.int .i64 s1, .int .i64 s2, .slice (some ⟨g4, 0, none⟩) ts.length ts.length] 29)
  have hB4' : Below w.heap.size w (w4.alloc (.cells #[.int .i64 s1, .int .i64 s2, .slice (some ⟨g4, 0, none⟩) ts.length ts.length] 29)) := hB4.trans (hn4.mono hB4.size)
  have X4' := hid (X4.out.later hn4)
  have A4' := hid (A4.out.later hn4)
  have B4' : Hid (Bx (w4.alloc (.cells #[.int .i64 s1, .int .i64 s2, .slice (some ⟨g4, 0, none⟩) ts.length ts.length] 29)) w4.heap.size [.int .i64 s1, .int .i64 s2, .slice (some ⟨g4, 0, none⟩) ts.length ts.length]) := Bx.new [.int .i64 s1, .int .i64 s2, .slice (some ⟨g4, 0, none⟩) ts.length ts.length] _ rfl
  clear hn4 X4 A4
  go_wp2_with fail
  refine (implSettled_any s1 s2 (some ⟨g4, 0, none⟩) ts.length ts _ k1 X4'.out.in).mono ?_
  rintro e w5 ⟨rfl, hb5⟩
  rw [HX.out]
  dsimp only
  have hB5 := hB4'.trans (hb5.mono hB4'.size)
  have X5 := hid (X4'.out.later hb5)
  have A5 := hid (A4'.out.later hb5)
  have B5 := hid (B4'.out.later hb5)
  clear A4' B4'
  have a0 := A5.out.c 0 rfl
  have a1 := A5.out.c 1 rfl
  have a2 := A5.out.c 2 rfl
  have x0 := B5.out.c 0 rfl
  have x1 := B5.out.c 1 rfl
  have x2 := B5.out.c 2 rfl
  clear hb5 X4'
  go_wp2
  go_region_with (first
    | (go_at_call 9; refine (toPool_any s1 s2 ao cap ts _ k1 (by exact hz.later hB5.drew)).mono ?_; rintro e w7 ⟨g7, rfl, hF7, hb7⟩; have hb67 : Below w5.heap.size w5 w7 := (Below.refl w5.heap.size w5).drew.trans hb7; have B7 : Bx w7 w4.heap.size [.int .i64 s1, .int .i64 s2, .slice (some ⟨g4, 0, none⟩) ts.length ts.length] := B5.out.later hb67; have y0 := B7.c 0 rfl; have y1 := B7.c 1 rfl; have y2 := B7.c 2 rfl; have F7 : Hid (kW.In w7.heap.size w7 (some ⟨g4, 0, none⟩) ts ∧ kW.In w7.heap.size w7 (some ⟨g7, 0, none⟩) ts) := ⟨(X5.out.later hb67).in, hF7.in⟩; clear hb7 hF7)
    | (go_at_call 11; refine (eqPool_same s1 s2 (some ⟨g4, 0, none⟩) (some ⟨g7, 0, none⟩) ts.length ts.length ts _ k1 (by exact F7.out.1) (by exact F7.out.2)).mono ?_; rintro e w8 ⟨rfl, hb8⟩; have hB8 : Below w.heap.size w w8 := hB5.trans ((hb67.trans (hb8.mono hb67.size)).mono hB5.size); clear hb8))
  all_goals go_wp2
  all_goals go_ret
  all_goals exact ⟨rfl, hB8⟩
end Go.Proofs.Ytmijibgfdhjbfaa
