
/- The walk of the law: it returns true. No conditions but those written. -/
import Derived.Test.YthhamfgclhiagaaGk
namespace Go.Proofs.Ythhamfgclhiagaa
open Go.RowKit

set_option maxRecDepth 100000 in
set_option maxHeartbeats 8000000 in
theorem lawGoodKeeper_any (kd : Int) (mr : Int) (wi : Int) (up : Int) (ch : Int) (ov : Bool) (ro : Option Addr) (rc : Nat) (r : List (Bool)) (fo : Option Addr) (fc : Nat) (f : List (Int)) (w : World) (hlr : r.length ≤ 9223372036854775807) (hlf : f.length ≤ 9223372036854775807) (hz : InKeeper w.heap.size w ro r fo f) :
    Calls Try.prog 3 #[.agg #[.int .i64 kd, .int .i64 mr, .int .i64 wi, .int .i64 up, .int .i64 ch, .slice ro r.length rc, .slice fo f.length fc, .bool ov]] w fun e w' => e = .returned (.bool true) ∧ Below w.heap.size w w' := by
  obtain ⟨x, hx⟩ : ∃ x, keeperB kd mr wi r f ov = x := ⟨_, rfl⟩
  have HX : Hid (keeperB kd mr wi r f ov = x) := hx
  have hne : (x != x) = false := by simp
  clear hx
  go_enter Try.func3, Try.ntmps3
  go_wp2_with fail
  refine (szKeeper_any kd mr wi up ch ov ro r.length rc fo f.length fc _ hlr hlf).mono ?_
  rintro e w1 ⟨⟨z, rfl, hr⟩, hb1⟩
  have A1 := hid ((Bx.new (w := w) (p := w.heap.size) [.int .i64 kd, .int .i64 mr, .int .i64 wi, .int .i64 up, .int .i64 ch, .slice ro r.length rc, .slice fo f.length fc, .bool ov] 25 rfl).later hb1)
  have hB1 := (below1 w (.cells #[.int .i64 kd, .int .i64 mr, .int .i64 wi, .int .i64 up, .int .i64 ch, .slice ro r.length rc, .slice fo f.length fc, .bool ov] 25)).trans (hb1.mono (by simp))
  clear hb1
  rcases hr with hr | ⟨hr0, kr, kf⟩
  · go_wp2
    go_ret
    exact ⟨rfl, hB1⟩
  have a0 := A1.out.c 0 rfl
  have a1 := A1.out.c 1 rfl
  have a2 := A1.out.c 2 rfl
  have a3 := A1.out.c 3 rfl
  have a4 := A1.out.c 4 rfl
  have a5 := A1.out.c 5 rfl
  have a6 := A1.out.c 6 rfl
  have a7 := A1.out.c 7 rfl
  go_wp2_with fail
  refine (toKeeper_any kd mr wi up ch ov ro rc r fo fc f _ kr kf (hz.later hB1)).mono ?_
  rintro e w2 ⟨g2_r, g2_f, rfl, hF2, hb2⟩
  have hB2 := hB1.trans (hb2.mono hB1.size)
  have Z2 := hid (hF2.in)
  clear a0 a1 a2 a3 a4 a5 a6 a7
  have A2 := hid (A1.out.later hb2)
  clear A1 hb2 hF2
  go_wp2_with fail
  refine (specGoodK_is kd mr wi up ch ov (some ⟨g2_r, 0, none⟩) r.length r (some ⟨g2_f, 0, none⟩) f.length f w2 x kr kf Z2.out HX.out).mono ?_
  rintro e w3 ⟨rfl, hb3⟩
  have hB3 := hB2.trans (hb3.mono hB2.size)
  have A3 := hid (A2.out.later hb3)
  clear A2 hb3 Z2
  have a0 := A3.out.c 0 rfl
  have a1 := A3.out.c 1 rfl
  have a2 := A3.out.c 2 rfl
  have a3 := A3.out.c 3 rfl
  have a4 := A3.out.c 4 rfl
  have a5 := A3.out.c 5 rfl
  have a6 := A3.out.c 6 rfl
  have a7 := A3.out.c 7 rfl
  go_wp2_with fail
  refine (toKeeper_any kd mr wi up ch ov ro rc r fo fc f _ kr kf (hz.later hB3)).mono ?_
  rintro e w4 ⟨g4_r, g4_f, rfl, hF4, hb4⟩
  have hB4 := hB3.trans (hb4.mono hB3.size)
  have X4 := hid (hF4)
  clear a0 a1 a2 a3 a4 a5 a6 a7
  have A4 := hid (A3.out.later hb4)
  clear A3 hb4 hF4
  have hn4 := below1 w4 (.cells #[.int .i64 kd, .int .i64 mr, .int .i64 wi, .int .i64 up, .int .i64 ch, .slice (some ⟨g4_r, 0, none⟩) r.length r.length, .slice (some ⟨g4_f, 0, none⟩) f.length f.length, .bool ov] 28)
  have hC4 : Below w.heap.size w (w4.alloc (.cells #[.int .i64 kd, .int .i64 mr, .int .i64 wi, .int .i64 up, .int .i64 ch, .slice (some ⟨g4_r, 0, none⟩) r.length r.length, .slice (some ⟨g4_f, 0, none⟩) f.length f.length, .bool ov] 28)) := hB4.trans (hn4.mono hB4.size)
  have Y4 := hid (X4.out.later hn4)
  have D4 := hid (A4.out.later hn4)
  have E4 : Hid (Bx (w4.alloc (.cells #[.int .i64 kd, .int .i64 mr, .int .i64 wi, .int .i64 up, .int .i64 ch, .slice (some ⟨g4_r, 0, none⟩) r.length r.length, .slice (some ⟨g4_f, 0, none⟩) f.length f.length, .bool ov] 28)) w4.heap.size [.int .i64 kd, .int .i64 mr, .int .i64 wi, .int .i64 up, .int .i64 ch, .slice (some ⟨g4_r, 0, none⟩) r.length r.length, .slice (some ⟨g4_f, 0, none⟩) f.length f.length, .bool ov]) := Bx.new [.int .i64 kd, .int .i64 mr, .int .i64 wi, .int .i64 up, .int .i64 ch, .slice (some ⟨g4_r, 0, none⟩) r.length r.length, .slice (some ⟨g4_f, 0, none⟩) f.length f.length, .bool ov] _ rfl
  clear hn4 X4 A4
  go_wp2_with fail
  refine (implGoodK_is kd mr wi up ch ov (some ⟨g4_r, 0, none⟩) r.length r (some ⟨g4_f, 0, none⟩) f.length f _ x kr kf Y4.out.in HX.out).mono ?_
  rintro e w5 ⟨rfl, hb5⟩
  have hB5 := hC4.trans (hb5.mono hC4.size)
  have X5 := hid (Y4.out.later hb5)
  have A5 := hid (D4.out.later hb5)
  have B5 := hid (E4.out.later hb5)
  clear D4 E4 Y4 hb5
  have a0 := A5.out.c 0 rfl
  have a1 := A5.out.c 1 rfl
  have a2 := A5.out.c 2 rfl
  have a3 := A5.out.c 3 rfl
  have a4 := A5.out.c 4 rfl
  have a5 := A5.out.c 5 rfl
  have a6 := A5.out.c 6 rfl
  have a7 := A5.out.c 7 rfl
  have x0 := B5.out.c 0 rfl
  have x1 := B5.out.c 1 rfl
  have x2 := B5.out.c 2 rfl
  have x3 := B5.out.c 3 rfl
  have x4 := B5.out.c 4 rfl
  have x5 := B5.out.c 5 rfl
  have x6 := B5.out.c 6 rfl
  have x7 := B5.out.c 7 rfl
  go_wp2
  go_region_with (first
    | (go_at_call 10; refine (toKeeper_any kd mr wi up ch ov ro rc r fo fc f _ kr kf (by exact hz.later hB5.drew)).mono ?_; rintro e w7 ⟨g7_r, g7_f, rfl, hF7, hb7⟩; have hb67 : Below w5.heap.size w5 w7 := (Below.refl w5.heap.size w5).drew.trans hb7; have B7 : Bx w7 w4.heap.size [.int .i64 kd, .int .i64 mr, .int .i64 wi, .int .i64 up, .int .i64 ch, .slice (some ⟨g4_r, 0, none⟩) r.length r.length, .slice (some ⟨g4_f, 0, none⟩) f.length f.length, .bool ov] := B5.out.later hb67; have y0 := B7.c 0 rfl; have y1 := B7.c 1 rfl; have y2 := B7.c 2 rfl; have y3 := B7.c 3 rfl; have y4 := B7.c 4 rfl; have y5 := B7.c 5 rfl; have y6 := B7.c 6 rfl; have y7 := B7.c 7 rfl; have F7 : Hid (InKeeper w7.heap.size w7 (some ⟨g4_r, 0, none⟩) r (some ⟨g4_f, 0, none⟩) f ∧ InKeeper w7.heap.size w7 (some ⟨g7_r, 0, none⟩) r (some ⟨g7_f, 0, none⟩) f) := ⟨(X5.out.later hb67).in, hF7.in⟩; clear hb7 hF7)
    | (go_at_call 12; refine (eqKeeper_same kd mr wi up ch ov (some ⟨g4_r, 0, none⟩) r.length r (some ⟨g4_f, 0, none⟩) f.length f (some ⟨g7_r, 0, none⟩) r.length (some ⟨g7_f, 0, none⟩) f.length _ kr kf (by exact F7.out.1) (by exact F7.out.2)).mono ?_; rintro e w8 ⟨rfl, hb8⟩; have hB8 : Below w.heap.size w w8 := hB5.trans ((hb67.trans (hb8.mono hb67.size)).mono hB5.size); clear hb8))
  all_goals go_wp2
  all_goals go_ret
  all_goals exact ⟨rfl, hB8⟩
end Go.Proofs.Ythhamfgclhiagaa
