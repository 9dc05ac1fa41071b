
/- Rows of cases: the small functions over them. No conditions but those written. -/
import Derived.Test.YtlnjhajdbofhlaaKw
namespace Go.Proofs.Ytlnjhajdbofhlaa
open Go.RowKit

/-- A row of Case. -/
def kQ : Kind (Int × Bool × Int) := ⟨117, 63, 3, fun t => [.int .i64 t.1, .bool (t.2.1), .int .i64 t.2.2], fun _ => rfl, fun a v h => by simp at h; rcases h with rfl | rfl | rfl <;> rfl⟩
theorem Try.info117 : (Try.prog.info? 117).map (fun i => (i.zero, i.size, i.bytes)) = some (some (.agg #[.int .i64 0, .bool false, .int .i64 0]), 3, 24) := by kernel_rfl
theorem kQ_ok : kQ.Ok := kind_ok (K := kQ) Try.underlying63 Try.info117 rfl (by decide) (by decide)
theorem kQ_at {n : Nat} {W : World} {ao : Option Addr} {ts : List (Int × Bool × Int)} (h : kQ.In n W ao ts) {k : Nat} (hk : k < ts.length) :
    ∃ b off, ao = some ⟨b, off, none⟩ ∧ b < n ∧ ∀ j, j < ts.length → W.cell? ⟨b, off + j * 3, none⟩ = some (.int .i64 (el ts j).1) ∧ W.cell? ⟨b, off + j * 3 + 1, none⟩ = some (.bool (el ts j).2.1) ∧ W.cell? ⟨b, off + j * 3 + 2, none⟩ = some (.int .i64 (el ts j).2.2) := by
  obtain ⟨b, off, e, hb, hc⟩ := h.pos hk
  exact ⟨b, off, e, hb, fun j hj => ⟨hc j hj 0 (by decide), hc j hj 1 (by decide), hc j hj 2 (by decide)⟩⟩
theorem kQ_one {n : Nat} {W : World} {p : Nat} {t : Int × Bool × Int} (hp : p < n) (h0 : W.cell? ⟨p, 0, none⟩ = some (.int .i64 t.1)) (h1 : W.cell? ⟨p, 1, none⟩ = some (.bool t.2.1)) (h2 : W.cell? ⟨p, 2, none⟩ = some (.int .i64 t.2.2)) : kQ.In n W (some ⟨p, 0, none⟩) [t] := by
  refine Kind.In.mk1 hp fun i hi => ?_
  rw [Nat.zero_add]
  have hi' : i < 3 := hi
  rcases (show i = 0 ∨ i = 1 ∨ i = 2 from by omega) with rfl | rfl | rfl
  · exact h0
  · exact h1
  · exact h2
set_option maxHeartbeats 400000 in
theorem szCaseS_any (a : Option Addr) (len cap : Nat) (L : Int) (w : World) (h0 : 0 ≤ L) (h1 : L ≤ 1048576) (hl : len ≤ 9223372036854775807) :
    Calls Try.prog 31 #[.slice a len cap, .int .i64 L] w fun e w' => (∃ r : Int, e = .returned (.int .i64 r) ∧ r ≤ 1048576 ∧ ((r < 0) ∨ (r = L - len ∧ 0 ≤ r))) ∧ w' = w := by
  go_enter Try.func31, Try.ntmps31
  go_wp2
  all_goals go_ret
  · exact ⟨⟨_, rfl, by omega, by omega⟩, rfl⟩
  · exact ⟨⟨_, rfl, by omega, by omega⟩, rfl⟩
set_option maxHeartbeats 400000 in
theorem toCase_any (x1 : Int) (x2 : Bool) (x3 : Int) (w : World) :
    Calls Try.prog 85 #[.agg #[.int .i64 x1, .bool x2, .int .i64 x3]] w fun e w' => e = .returned (.agg #[.int .i64 x1, .bool x2, .int .i64 x3]) ∧ Below w.heap.size w w' := by
  go_enter Try.func85, Try.ntmps85
  go_wp2
  exact bodyPost_ret (v := .agg #[.int .i64 x1, .bool x2, .int .i64 x3]) (by simp [results, Try.results85, go_sem]) rfl ⟨rfl, below3 _ _ _ _⟩
set_option maxHeartbeats 2000000 in
theorem toCaseS_any (ao : Option Addr) (cap : Nat) (ts : List (Int × Bool × Int)) (w : World) (hl : ts.length ≤ 1048576) (hz : kQ.In w.heap.size w ao ts) :
    Calls Try.prog 33 #[.slice ao ts.length cap] w fun e w' => e = .returned (.slice (some ⟨w.heap.size, 0, none⟩) ts.length ts.length) ∧ kQ.Fresh w.heap.size w'.heap.size w' (some ⟨w.heap.size, 0, none⟩) ts.length ts ∧ Below w.heap.size w w' := by
  obtain ⟨i0, hi, hz0, hz1, hz2⟩ := info_parts Try.info117
  go_enter Try.func33, Try.ntmps33
  go_wp2_with (at_make; refine wpList_make_full _ rfl _ _ 63 rfl w.heap.size 117 i0 (.agg #[.int .i64 0, .bool false, .int .i64 0]) 3 Try.underlying63 hi hz0 hz1 .i64 .i64 _ _ ts.length rfl rfl rfl rfl (by rw [hz2]; omega) (by unfold maxLen; omega) (Nat.le_refl _) ?_; intro w1 hown hgrow)
  have hB1 : Below w.heap.size w w1 := (Below.refl _ _).grown hgrow (Nat.le_refl _) (fun k e => by cases e)
  have HO := show Hid _ from hown
  clear hown hgrow
  go_loopw [4] (fun i wr => ∃ (k : Nat) (xs : List Value), k ≤ ts.length ∧ i = .int .i64 k ∧ Hid (wr.ownsRow w.heap.size 117 3 (.slice (some ⟨w.heap.size, 0, none⟩) ts.length ts.length) ts.length xs ∧ ∀ j, j < k → xs[j * 3]? = some (.int .i64 (el ts j).1) ∧ xs[j * 3 + 1]? = some (.bool (el ts j).2.1) ∧ xs[j * 3 + 2]? = some (.int .i64 (el ts j).2.2)) ∧ Below w.heap.size w wr) (fun i _ => ts.length - (intOf i).toNat)
  case atStart => exact ⟨0, _, Nat.zero_le _, rfl, ⟨HO.out, fun j hj => by omega⟩, hB1⟩
  case round =>
    obtain ⟨k, xs, hk, rfl, ho, hnx⟩ := hrel
    by_cases hlt : k < ts.length
    · obtain ⟨b, off, rfl, hb, hc⟩ := kQ_at hz hlt
      have d1 := (hnx.cell (p := ⟨b, off + k * 3, none⟩) hb).trans (hc k hlt).1
      have d2 := (hnx.cell (p := ⟨b, off + k * 3 + 1, none⟩) hb).trans (hc k hlt).2.1
      have d3 := (hnx.cell (p := ⟨b, off + k * 3 + 2, none⟩) hb).trans (hc k hlt).2.2
      clear hc hz
      obtain ⟨⟨x1, x2, x3⟩, ex⟩ : ∃ v, v = el ts k := ⟨_, rfl⟩
      rw [← ex] at d1 d2 d3
      have HX : Hid (el ts k = (x1, x2, x3)) := ex.symm
      clear ex
      dsimp only at d1 d2 d3
      go_wp2_with fail
      refine (toCase_any x1 x2 x3 _).mono ?_
      rintro e w2 ⟨rfl, hb2⟩
      have hxl : k * 3 + 2 < xs.length := by rw [ho.out.1.1]; omega
      have ho2 := ownsRow_below ho.out.1 hb2
      have hnb : Below w.heap.size w w2 := hnx.trans (hb2.mono hnx.size)
      have HO2 : Hid (w2.ownsRow w.heap.size 117 3 (.slice (some ⟨w.heap.size, 0, none⟩) ts.length ts.length) ts.length xs) := ho2
      have hst1 : w2.cell? ⟨w.heap.size, k * 3, none⟩ = some xs[k * 3] := (ho2.cellAt (k * 3) (by omega)).trans (by simp)
      have hfr1 : w2.frozen? ⟨w.heap.size, k * 3, none⟩ = false := ho2.frozenAt (k * 3)
      have hst2 : w2.cell? ⟨w.heap.size, k * 3 + 1, none⟩ = some xs[k * 3 + 1] := (ho2.cellAt (k * 3 + 1) (by omega)).trans (by simp)
      have hfr2 : w2.frozen? ⟨w.heap.size, k * 3 + 1, none⟩ = false := ho2.frozenAt (k * 3 + 1)
      have hst3 : w2.cell? ⟨w.heap.size, k * 3 + 2, none⟩ = some xs[k * 3 + 2] := (ho2.cellAt (k * 3 + 2) (by omega)).trans (by simp)
      have hfr3 : w2.frozen? ⟨w.heap.size, k * 3 + 2, none⟩ = false := ho2.frozenAt (k * 3 + 2)
      clear ho2
      go_wp2
      go_roundw
      case rel => exact ⟨k + 1, (((xs.set (k * 3) (.int .i64 x1)).set (k * 3 + 1) (.bool x2)).set (k * 3 + 2) (.int .i64 x3)), by omega, by go_num, ⟨(((World.ownsRow.stored HO2.out (k * 3) _).1.stored (k * 3 + 1) _).1.stored (k * 3 + 2) _).1, fun j hj => by
          rcases Nat.lt_succ_iff_lt_or_eq.1 hj with h | rfl
          · refine ⟨?_, ?_, ?_⟩
            · rw [set_far (by omega), set_far (by omega), set_far (by omega)]; exact (ho.out.2 j h).1
            · rw [set_far (by omega), set_far (by omega), set_far (by omega)]; exact (ho.out.2 j h).2.1
            · rw [set_far (by omega), set_far (by omega), set_far (by omega)]; exact (ho.out.2 j h).2.2
          · refine ⟨?_, ?_, ?_⟩
            · rw [set_far (by omega), set_far (by omega), set_at (by first | omega | (simp only [List.length_set]; omega))]; rw [HX.out]
            · rw [set_far (by omega), set_at (by first | omega | (simp only [List.length_set]; omega))]; rw [HX.out]
            · rw [set_at (by first | omega | (simp only [List.length_set]; omega))]; rw [HX.out]⟩, (((hnb.setCell (p := ⟨w.heap.size, k * 3, none⟩) (Nat.le_refl _) _).setCell (p := ⟨w.heap.size, k * 3 + 1, none⟩) (Nat.le_refl _) _).setCell (p := ⟨w.heap.size, k * 3 + 2, none⟩) (Nat.le_refl _) _)⟩
      case measure => simp [intOf]; omega
    · obtain rfl : k = ts.length := by omega
      have hxs : xs = kQ.flat ts := by
        refine kQ.flat_of xs ts ho.out.1.1 fun j hj i hi => ?_
        have hi' : i < 3 := hi
        rcases (show i = 0 ∨ i = 1 ∨ i = 2 from by omega) with rfl | rfl | rfl
        · exact (ho.out.2 j hj).1
        · exact (ho.out.2 j hj).2.1
        · exact (ho.out.2 j hj).2.2
      subst hxs
      go_wp2
      go_ret
      exact ⟨rfl, .inr ⟨w.heap.size, rfl, (owns_lt ho.out.1).2, ho.out.1⟩, hnx⟩
set_option maxHeartbeats 1000000 in
theorem eqCase_same (x1 : Int) (x2 : Bool) (x3 : Int) (w : World) :
    Calls Try.prog 88 #[.agg #[.int .i64 x1, .bool x2, .int .i64 x3], .agg #[.int .i64 x1, .bool x2, .int .i64 x3]] w fun e w' => e = .returned (.bool true) ∧ Below w.heap.size w w' := by
  have h1 : (x1 != x1) = false := by simp
  have h2 : (x2 != x2) = false := by simp
  have h3 : (x3 != x3) = false := by simp
  go_enter Try.func88, Try.ntmps88
  go_wp2
  go_ret
  exact ⟨rfl, below2 _ _ _⟩
set_option maxHeartbeats 1000000 in
theorem eqCaseS_same (ao bo : Option Addr) (cap cap' : Nat) (ts : List (Int × Bool × Int)) (w : World) (hl : ts.length ≤ 1048576) (hz : kQ.In w.heap.size w ao ts) (hz' : kQ.In w.heap.size w bo ts) :
    Calls Try.prog 35 #[.slice ao ts.length cap, .slice bo ts.length cap'] w fun e w' => e = .returned (.bool true) ∧ Below w.heap.size w w' := by
  have hne : ((ts.length : Int) != (ts.length : Int)) = false := by simp
  go_enter Try.func35, Try.ntmps35
  go_wp2
  go_loopw [5] (fun i wr => ∃ k : Nat, k ≤ ts.length ∧ i = .int .i64 k ∧ Below w.heap.size w wr) (fun i _ => ts.length - (intOf i).toNat)
  case atStart => exact ⟨0, Nat.zero_le _, rfl, Below.refl _ _⟩
  case round =>
    obtain ⟨k, hk, rfl, hnx⟩ := hrel
    by_cases hlt : k < ts.length
    · obtain ⟨b, off, rfl, hb, hc⟩ := kQ_at hz hlt
      obtain ⟨b', off', rfl, hb', hc'⟩ := kQ_at hz' hlt
      have hck1 := (hnx.cell (p := ⟨b, off + k * 3, none⟩) hb).trans (hc k hlt).1
      have hck1' := (hnx.cell (p := ⟨b', off' + k * 3, none⟩) hb').trans (hc' k hlt).1
      have hck2 := (hnx.cell (p := ⟨b, off + k * 3 + 1, none⟩) hb).trans (hc k hlt).2.1
      have hck2' := (hnx.cell (p := ⟨b', off' + k * 3 + 1, none⟩) hb').trans (hc' k hlt).2.1
      have hck3 := (hnx.cell (p := ⟨b, off + k * 3 + 2, none⟩) hb).trans (hc k hlt).2.2
      have hck3' := (hnx.cell (p := ⟨b', off' + k * 3 + 2, none⟩) hb').trans (hc' k hlt).2.2
      clear hc hz hc' hz'
      obtain ⟨⟨x1, x2, x3⟩, ex⟩ : ∃ v, v = el ts k := ⟨_, rfl⟩
      rw [← ex] at hck1 hck1' hck2 hck2' hck3 hck3'
      clear ex
      dsimp only at hck1 hck1' hck2 hck2' hck3 hck3'
      go_wp2
      go_region_with (go_at_call 88; refine (eqCase_same x1 x2 x3 _).mono ?_; rintro e w1 ⟨rfl, hb1⟩)
      all_goals go_wp2
      all_goals
        have hb2 : Below wr.drew.heap.size wr.drew w1 := by assumption
        have hnb : Below w.heap.size w w1 := hnx.drew.trans (hb2.mono hnx.size)
        go_roundw
        case rel => exact ⟨k + 1, by omega, by go_num, hnb⟩
        case measure => simp [intOf]; omega
    · obtain rfl : k = ts.length := by omega
      go_wp2
      go_ret
      exact ⟨rfl, hnx⟩
end Go.Proofs.Ytlnjhajdbofhlaa
