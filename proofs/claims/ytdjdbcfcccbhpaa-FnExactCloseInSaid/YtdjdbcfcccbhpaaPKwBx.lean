/- Rows of waiters: the small functions over them. No conditions but those written. Boxes: blocks of a struct's cells. No conditions but those written. -/
import Derived.Test.YtdjdbcfcccbhpaaIa
import Derived.Test.YtdjdbcfcccbhpaaGen
namespace Go.Proofs.Ytdjdbcfcccbhpaa
section
open Go.RowKit

theorem set_far {xs : List Value} {p q : Nat} {u : Value} (h : p ≠ q) : (xs.set p u)[q]? = xs[q]? := by rw [List.getElem?_set, if_neg h]
theorem set_at {xs : List Value} {p : Nat} {u : Value} (h : p < xs.length) : (xs.set p u)[p]? = some u := by rw [List.getElem?_set, if_pos rfl, if_pos h]
/-- A row of Waiter. -/
def kW : Kind (Int × Int × Int) := ⟨70, 43, 3, fun t => [.int .i64 t.1, .int .i64 t.2.1, .int .i64 t.2.2], fun _ => rfl, fun a v h => by simp at h; rcases h with rfl | rfl | rfl <;> rfl⟩
theorem Try.info70 : (Try.prog.info? 70).map (fun i => (i.zero, i.size, i.bytes)) = some (some (.agg #[.int .i64 0, .int .i64 0, .int .i64 0]), 3, 24) := by kernel_rfl
theorem kW_ok : kW.Ok := kind_ok (K := kW) Try.underlying43 Try.info70 rfl (by decide) (by decide)
theorem kW_at {n : Nat} {W : World} {ao : Option Addr} {ts : List (Int × Int × Int)} (h : kW.In n W ao ts) {k : Nat} (hk : k < ts.length) :
    ∃ b off, ao = some ⟨b, off, none⟩ ∧ b < n ∧ ∀ j, j < ts.length → W.cell? ⟨b, off + j * 3, none⟩ = some (.int .i64 (el ts j).1) ∧ W.cell? ⟨b, off + j * 3 + 1, none⟩ = some (.int .i64 (el ts j).2.1) ∧ W.cell? ⟨b, off + j * 3 + 2, none⟩ = some (.int .i64 (el ts j).2.2) := by
  obtain ⟨b, off, e, hb, hc⟩ := h.pos hk
  exact ⟨b, off, e, hb, fun j hj => ⟨hc j hj 0 (by decide), hc j hj 1 (by decide), hc j hj 2 (by decide)⟩⟩
theorem kW_one {n : Nat} {W : World} {p : Nat} {t : Int × Int × Int} (hp : p < n) (h0 : W.cell? ⟨p, 0, none⟩ = some (.int .i64 t.1)) (h1 : W.cell? ⟨p, 1, none⟩ = some (.int .i64 t.2.1)) (h2 : W.cell? ⟨p, 2, none⟩ = some (.int .i64 t.2.2)) : kW.In n W (some ⟨p, 0, none⟩) [t] := by
  refine Kind.In.mk1 hp fun i hi => ?_
  rw [Nat.zero_add]
  have hi' : i < 3 := hi
  rcases (show i = 0 ∨ i = 1 ∨ i = 2 from by omega) with rfl | rfl | rfl
  · exact h0
  · exact h1
  · exact h2
set_option maxHeartbeats 400000 in
theorem szWaiterS_any (a : Option Addr) (len cap : Nat) (L : Int) (w : World) (h0 : 0 ≤ L) (h1 : L ≤ 1048576) (hl : len ≤ 9223372036854775807) :
    Calls Try.prog 51 #[.slice a len cap, .int .i64 L] w fun e w' => (∃ r : Int, e = .returned (.int .i64 r) ∧ r ≤ 1048576 ∧ ((r < 0) ∨ (r = L - len ∧ 0 ≤ r))) ∧ w' = w := by
  go_enter Try.func51, Try.ntmps51
  go_wp2
  all_goals go_ret
  · exact ⟨⟨_, rfl, by omega, by omega⟩, rfl⟩
  · exact ⟨⟨_, rfl, by omega, by omega⟩, rfl⟩
set_option maxHeartbeats 400000 in
theorem toWaiter_any (x1 : Int) (x2 : Int) (x3 : Int) (w : World) :
    Calls Try.prog 65 #[.agg #[.int .i64 x1, .int .i64 x2, .int .i64 x3]] w fun e w' => e = .returned (.agg #[.int .i64 x1, .int .i64 x2, .int .i64 x3]) ∧ Below w.heap.size w w' := by
  go_enter Try.func65, Try.ntmps65
  go_wp2
  exact bodyPost_ret (v := .agg #[.int .i64 x1, .int .i64 x2, .int .i64 x3]) (by simp [results, Try.results65, go_sem]) rfl ⟨rfl, below3 _ _ _ _⟩
set_option maxHeartbeats 2000000 in
theorem toWaiterS_any (ao : Option Addr) (cap : Nat) (ts : List (Int × Int × Int)) (w : World) (hl : ts.length ≤ 1048576) (hz : kW.In w.heap.size w ao ts) :
    Calls Try.prog 55 #[.slice ao ts.length cap] w fun e w' => e = .returned (.slice (some ⟨w.heap.size, 0, none⟩) ts.length ts.length) ∧ kW.Fresh w.heap.size w'.heap.size w' (some ⟨w.heap.size, 0, none⟩) ts.length ts ∧ Below w.heap.size w w' := by
  obtain ⟨i0, hi, hz0, hz1, hz2⟩ := info_parts Try.info70
  go_enter Try.func55, Try.ntmps55
  go_wp2_with (at_make; refine wpList_make_full _ rfl _ _ 43 rfl w.heap.size 70 i0 (.agg #[.int .i64 0, .int .i64 0, .int .i64 0]) 3 Try.underlying43 hi hz0 hz1 .i64 .i64 _ _ ts.length rfl rfl rfl rfl (by rw [hz2]; omega) (by unfold maxLen; omega) (Nat.le_refl _) ?_; intro w1 hown hgrow)
  have hB1 : Below w.heap.size w w1 := (Below.refl _ _).grown hgrow (Nat.le_refl _) (fun k e => by cases e)
  have HO := show Hid _ from hown
  clear hown hgrow
  go_loopw [4] (fun i wr => ∃ (k : Nat) (xs : List Value), k ≤ ts.length ∧ i = .int .i64 k ∧ Hid (wr.ownsRow w.heap.size 70 3 (.slice (some ⟨w.heap.size, 0, none⟩) ts.length ts.length) ts.length xs ∧ ∀ j, j < k → xs[j * 3]? = some (.int .i64 (el ts j).1) ∧ xs[j * 3 + 1]? = some (.int .i64 (el ts j).2.1) ∧ xs[j * 3 + 2]? = some (.int .i64 (el ts j).2.2)) ∧ Below w.heap.size w wr) (fun i _ => ts.length - (intOf i).toNat)
  case atStart => exact ⟨0, _, Nat.zero_le _, rfl, ⟨HO.out, fun j hj => by omega⟩, hB1⟩
  case round =>
    obtain ⟨k, xs, hk, rfl, ho, hnx⟩ := hrel
    by_cases hlt : k < ts.length
    · obtain ⟨b, off, rfl, hb, hc⟩ := kW_at hz hlt
      have d1 := (hnx.cell (p := ⟨b, off + k * 3, none⟩) hb).trans (hc k hlt).1
      have d2 := (hnx.cell (p := ⟨b, off + k * 3 + 1, none⟩) hb).trans (hc k hlt).2.1
      have d3 := (hnx.cell (p := ⟨b, off + k * 3 + 2, none⟩) hb).trans (hc k hlt).2.2
      clear hc hz
      obtain ⟨⟨x1, x2, x3⟩, ex⟩ : ∃ v, v = el ts k := ⟨_, rfl⟩
      rw [← ex] at d1 d2 d3
      have HX : Hid (el ts k = (x1, x2, x3)) := ex.symm
      clear ex
      dsimp only at d1 d2 d3
      go_wp2_with fail
      refine (toWaiter_any x1 x2 x3 _).mono ?_
      rintro e w2 ⟨rfl, hb2⟩
      have hxl : k * 3 + 2 < xs.length := by rw [ho.out.1.1]; omega
      have ho2 := ownsRow_below ho.out.1 hb2
      have hnb : Below w.heap.size w w2 := hnx.trans (hb2.mono hnx.size)
      have HO2 : Hid (w2.ownsRow w.heap.size 70 3 (.slice (some ⟨w.heap.size, 0, none⟩) ts.length ts.length) ts.length xs) := ho2
      have hst1 : w2.cell? ⟨w.heap.size, k * 3, none⟩ = some xs[k * 3] := (ho2.cellAt (k * 3) (by omega)).trans (by simp)
      have hfr1 : w2.frozen? ⟨w.heap.size, k * 3, none⟩ = false := ho2.frozenAt (k * 3)
      have hst2 : w2.cell? ⟨w.heap.size, k * 3 + 1, none⟩ = some xs[k * 3 + 1] := (ho2.cellAt (k * 3 + 1) (by omega)).trans (by simp)
      have hfr2 : w2.frozen? ⟨w.heap.size, k * 3 + 1, none⟩ = false := ho2.frozenAt (k * 3 + 1)
      have hst3 : w2.cell? ⟨w.heap.size, k * 3 + 2, none⟩ = some xs[k * 3 + 2] := (ho2.cellAt (k * 3 + 2) (by omega)).trans (by simp)
      have hfr3 : w2.frozen? ⟨w.heap.size, k * 3 + 2, none⟩ = false := ho2.frozenAt (k * 3 + 2)
      clear ho2
      go_wp2
      go_roundw
      case rel => exact ⟨k + 1, (((xs.set (k * 3) (.int .i64 x1)).set (k * 3 + 1) (.int .i64 x2)).set (k * 3 + 2) (.int .i64 x3)), by omega, by go_num, ⟨(((World.ownsRow.stored HO2.out (k * 3) _).1.stored (k * 3 + 1) _).1.stored (k * 3 + 2) _).1, fun j hj => by
          rcases Nat.lt_succ_iff_lt_or_eq.1 hj with h | rfl
          · refine ⟨?_, ?_, ?_⟩
            · rw [set_far (by omega), set_far (by omega), set_far (by omega)]; exact (ho.out.2 j h).1
            · rw [set_far (by omega), set_far (by omega), set_far (by omega)]; exact (ho.out.2 j h).2.1
            · rw [set_far (by omega), set_far (by omega), set_far (by omega)]; exact (ho.out.2 j h).2.2
          · refine ⟨?_, ?_, ?_⟩
            · rw [set_far (by omega), set_far (by omega), set_at (by first | omega | (simp only [List.length_set]; omega))]; rw [HX.out]
            · rw [set_far (by omega), set_at (by first | omega | (simp only [List.length_set]; omega))]; rw [HX.out]
            · rw [set_at (by first | omega | (simp only [List.length_set]; omega))]; rw [HX.out]⟩, (((hnb.setCell (p := ⟨w.heap.size, k * 3, none⟩) (Nat.le_refl _) _).setCell (p := ⟨w.heap.size, k * 3 + 1, none⟩) (Nat.le_refl _) _).setCell (p := ⟨w.heap.size, k * 3 + 2, none⟩) (Nat.le_refl _) _)⟩
      case measure => simp [intOf]; omega
    · obtain rfl : k = ts.length := by omega
      have hxs : xs = kW.flat ts := by
        refine kW.flat_of xs ts ho.out.1.1 fun j hj i hi => ?_
        have hi' : i < 3 := hi
        rcases (show i = 0 ∨ i = 1 ∨ i = 2 from by omega) with rfl | rfl | rfl
        · exact (ho.out.2 j hj).1
        · exact (ho.out.2 j hj).2.1
        · exact (ho.out.2 j hj).2.2
      subst hxs
      go_wp2
      go_ret
      exact ⟨rfl, .inr ⟨w.heap.size, rfl, (owns_lt ho.out.1).2, ho.out.1⟩, hnx⟩
set_option maxHeartbeats 1000000 in
theorem eqWaiter_same (x1 : Int) (x2 : Int) (x3 : Int) (w : World) :
    Calls Try.prog 68 #[.agg #[.int .i64 x1, .int .i64 x2, .int .i64 x3], .agg #[.int .i64 x1, .int .i64 x2, .int .i64 x3]] w fun e w' => e = .returned (.bool true) ∧ Below w.heap.size w w' := by
  have h1 : (x1 != x1) = false := by simp
  have h2 : (x2 != x2) = false := by simp
  have h3 : (x3 != x3) = false := by simp
  go_enter Try.func68, Try.ntmps68
  go_wp2
  go_ret
  exact ⟨rfl, below2 _ _ _⟩
set_option maxHeartbeats 1000000 in
theorem eqWaiterS_same (ao bo : Option Addr) (cap cap' : Nat) (ts : List (Int × Int × Int)) (w : World) (hl : ts.length ≤ 1048576) (hz : kW.In w.heap.size w ao ts) (hz' : kW.In w.heap.size w bo ts) :
    Calls Try.prog 62 #[.slice ao ts.length cap, .slice bo ts.length cap'] w fun e w' => e = .returned (.bool true) ∧ Below w.heap.size w w' := by
  have hne : ((ts.length : Int) != (ts.length : Int)) = false := by simp
  go_enter Try.func62, Try.ntmps62
  go_wp2
  go_loopw [5] (fun i wr => ∃ k : Nat, k ≤ ts.length ∧ i = .int .i64 k ∧ Below w.heap.size w wr) (fun i _ => ts.length - (intOf i).toNat)
  case atStart => exact ⟨0, Nat.zero_le _, rfl, Below.refl _ _⟩
  case round =>
    obtain ⟨k, hk, rfl, hnx⟩ := hrel
    by_cases hlt : k < ts.length
    · obtain ⟨b, off, rfl, hb, hc⟩ := kW_at hz hlt
      obtain ⟨b', off', rfl, hb', hc'⟩ := kW_at hz' hlt
      have hck1 := (hnx.cell (p := ⟨b, off + k * 3, none⟩) hb).trans (hc k hlt).1
      have hck1' := (hnx.cell (p := ⟨b', off' + k * 3, none⟩) hb').trans (hc' k hlt).1
      have hck2 := (hnx.cell (p := ⟨b, off + k * 3 + 1, none⟩) hb).trans (hc k hlt).2.1
      have hck2' := (hnx.cell (p := ⟨b', off' + k * 3 + 1, none⟩) hb').trans (hc' k hlt).2.1
      have hck3 := (hnx.cell (p := ⟨b, off + k * 3 + 2, none⟩) hb).trans (hc k hlt).2.2
      have hck3' := (hnx.cell (p := ⟨b', off' + k * 3 + 2, none⟩) hb').trans (hc' k hlt).2.2
      clear hc hz hc' hz'
      obtain ⟨⟨x1, x2, x3⟩, ex⟩ : ∃ v, v = el ts k := ⟨_, rfl⟩
      rw [← ex] at hck1 hck1' hck2 hck2' hck3 hck3'
      clear ex
      dsimp only at hck1 hck1' hck2 hck2' hck3 hck3'
      go_wp2
      go_region_with (go_at_call 68; refine (eqWaiter_same x1 x2 x3 _).mono ?_; rintro e w1 ⟨rfl, hb1⟩)
      all_goals go_wp2
      all_goals
        have hb2 : Below wr.drew.heap.size wr.drew w1 := by assumption
        have hnb : Below w.heap.size w w1 := hnx.drew.trans (hb2.mono hnx.size)
        go_roundw
        case rel => exact ⟨k + 1, by omega, by go_num, hnb⟩
        case measure => simp [intOf]; omega
    · obtain rfl : k = ts.length := by omega
      go_wp2
      go_ret
      exact ⟨rfl, hnx⟩
/-- The marks of a row of Waiter. -/
def markW (k : Int) (n : Nat) : List (Int × Int × Int) := (List.range n).map (fun i : Nat => (k + 3 * (i : Int), k + 3 * (i : Int) + 1, k + 3 * (i : Int) + 2))
theorem markW_len (k : Int) (n : Nat) : (markW k n).length = n := by simp [markW]
theorem markW_at (k : Int) (n j : Nat) (h : j < n) : el (markW k n) j = (k + 3 * (j : Int), k + 3 * (j : Int) + 1, k + 3 * (j : Int) + 2) := by simp [markW, el, h]
set_option maxHeartbeats 2000000 in
theorem markWaiterS_any (lo hi : Nat) (to : Option Addr) (tc : Nat) (ts : List (Int × Int × Int)) (k0 : Int) (w : World) (hl : ts.length ≤ 2097152) (hk0 : 0 ≤ k0) (hk1 : k0 ≤ 16777216) (hF : kW.Fresh lo hi w to tc ts) :
    Calls Try.prog 47 #[.slice to ts.length tc, .int .i64 k0] w fun e w' => e = .returned (.int .i64 (k0 + 3 * ts.length)) ∧ kW.Fresh lo hi w' to tc (markW k0 ts.length) ∧ OnlyAt (eff to ts.length) w w' := by
  rcases Nat.eq_zero_or_pos ts.length with h0 | h0
  · obtain rfl : ts = [] := List.length_eq_zero_iff.1 h0
    go_enter Try.func47, Try.ntmps47
    go_wp2
    go_loop [1, 5] (fun v i => v = .int .i64 k0 ∧ i = .int .i64 0) (fun _ _ => 0)
    case atStart => exact ⟨rfl, rfl⟩
    case round =>
      obtain ⟨rfl, rfl⟩ := hrel
      go_wp2
      go_ret
      exact ⟨by simp, .inl (by simp [markW]), OnlyAt.refl _ _⟩
  · rw [eff_pos h0]
    obtain ⟨g, rfl, _, hg, _, ho⟩ := hF.at h0
    have HO : Hid (w.ownsRow lo 70 3 (.slice (some ⟨g, 0, none⟩) ts.length tc) ts.length (kW.flat ts)) := ho
    clear ho
    go_enter Try.func47, Try.ntmps47
    go_wp2
    go_loopw [1, 5] (fun v i wr => ∃ (k : Nat) (xs : List Value), k ≤ ts.length ∧ i = .int .i64 k ∧ v = .int .i64 (k0 + 3 * k) ∧ Hid (wr.ownsRow lo 70 3 (.slice (some ⟨g, 0, none⟩) ts.length tc) ts.length xs ∧ ∀ j : Nat, j < k → xs[j * 3]? = some (.int .i64 (k0 + 3 * j)) ∧ xs[j * 3 + 1]? = some (.int .i64 (k0 + 3 * j + 1)) ∧ xs[j * 3 + 2]? = some (.int .i64 (k0 + 3 * j + 2))) ∧ OnlyAt (some ⟨g, 0, none⟩) w wr) (fun _ i _ => ts.length - (intOf i).toNat)
    case atStart => exact ⟨0, _, Nat.zero_le _, rfl, by simp, ⟨HO.out, fun j hj => by omega⟩, OnlyAt.refl _ _⟩
    case round =>
      obtain ⟨k, xs, hk, rfl, rfl, ho, hnx⟩ := hrel
      by_cases hlt : k < ts.length
      · have hxl : k * 3 + 2 < xs.length := by rw [ho.out.1.1]; omega
        have hst1 : wr.cell? ⟨g, k * 3, none⟩ = some xs[k * 3] := (ho.out.1.cellAt (k * 3) (by omega)).trans (by simp)
        have hfr1 : wr.frozen? ⟨g, k * 3, none⟩ = false := ho.out.1.frozenAt (k * 3)
        have hst2 : wr.cell? ⟨g, k * 3 + 1, none⟩ = some xs[k * 3 + 1] := (ho.out.1.cellAt (k * 3 + 1) (by omega)).trans (by simp)
        have hfr2 : wr.frozen? ⟨g, k * 3 + 1, none⟩ = false := ho.out.1.frozenAt (k * 3 + 1)
        have hst3 : wr.cell? ⟨g, k * 3 + 2, none⟩ = some xs[k * 3 + 2] := (ho.out.1.cellAt (k * 3 + 2) (by omega)).trans (by simp)
        have hfr3 : wr.frozen? ⟨g, k * 3 + 2, none⟩ = false := ho.out.1.frozenAt (k * 3 + 2)
        go_wp2
        go_roundw
        case rel => exact ⟨k + 1, (((xs.set (k * 3) (.int .i64 (k0 + 3 * k))).set (k * 3 + 1) (.int .i64 (k0 + 3 * k + 1))).set (k * 3 + 2) (.int .i64 (k0 + 3 * k + 2))), by omega, by go_num, by go_num, ⟨by
            have h := (((World.ownsRow.stored ho.out.1 (k * 3) (.int .i64 (k0 + 3 * k))).1.stored (k * 3 + 1) (.int .i64 (k0 + 3 * k + 1))).1.stored (k * 3 + 2) (.int .i64 (k0 + 3 * k + 2))).1
            simpa [Int.add_assoc] using h, fun j hj => by
          rcases Nat.lt_succ_iff_lt_or_eq.1 hj with h | rfl
          · refine ⟨?_, ?_, ?_⟩
            · rw [set_far (by omega), set_far (by omega), set_far (by omega)]; exact (ho.out.2 j h).1
            · rw [set_far (by omega), set_far (by omega), set_far (by omega)]; exact (ho.out.2 j h).2.1
            · rw [set_far (by omega), set_far (by omega), set_far (by omega)]; exact (ho.out.2 j h).2.2
          · refine ⟨?_, ?_, ?_⟩
            · rw [set_far (by omega), set_far (by omega), set_at (by first | omega | (simp only [List.length_set]; omega))]
            · rw [set_far (by omega), set_at (by first | omega | (simp only [List.length_set]; omega))]
            · rw [set_at (by first | omega | (simp only [List.length_set]; omega))]⟩, (((hnx.trans (OnlyAt.set g (k * 3) _ _)).trans (OnlyAt.set g (k * 3 + 1) _ _)).trans (OnlyAt.set g (k * 3 + 2) _ _))⟩
        case measure => simp [intOf]; omega
      · obtain rfl : k = ts.length := by omega
        have hxs : xs = kW.flat (markW k0 ts.length) := by
          refine kW.flat_of xs _ (by rw [markW_len]; exact ho.out.1.1) fun j hj i hi => ?_
          rw [markW_len] at hj
          rw [markW_at _ _ _ hj]
          have hi' : i < 3 := hi
          rcases (show i = 0 ∨ i = 1 ∨ i = 2 from by omega) with rfl | rfl | rfl
          · exact (ho.out.2 j hj).1
          · exact (ho.out.2 j hj).2.1
          · exact (ho.out.2 j hj).2.2
        subst hxs
        go_wp2
        go_ret
        refine ⟨rfl, .inr ⟨g, rfl, hg, ?_⟩, hnx⟩
        rw [markW_len]; exact ho.out.1
set_option maxHeartbeats 1000000 in
theorem heldWaiterS_any (to : Option Addr) (tc : Nat) (n : Nat) (k0 : Int) (w : World) (hl : n ≤ 2097152) (hk0 : 0 ≤ k0) (hk1 : k0 ≤ 16777216) (hF : kW.In w.heap.size w to (markW k0 n)) :
    Calls Try.prog 49 #[.slice to n tc, .int .i64 k0] w fun e w' => e = .returned (.int .i64 (k0 + 3 * n)) ∧ w' = w := by
  go_enter Try.func49, Try.ntmps49
  go_wp2
  go_loop [1, 5] (fun v i => ∃ k : Nat, k ≤ n ∧ i = .int .i64 k ∧ v = .int .i64 (k0 + 3 * k)) (fun _ i => n - (intOf i).toNat)
  case atStart => exact ⟨0, Nat.zero_le _, rfl, by simp⟩
  case round =>
    obtain ⟨k, hk, rfl, rfl⟩ := hrel
    by_cases hlt : k < n
    · obtain ⟨b, off, rfl, hb, hc⟩ := kW_at hF (k := k) (by rw [markW_len]; exact hlt)
      have hck := hc k (by rw [markW_len]; exact hlt)
      rw [markW_at _ _ _ hlt] at hck
      obtain ⟨hck1, hck2, hck3⟩ := hck
      clear hc hF
      have hne0_0 : (k0 + 3 * (k : Int) != k0 + 3 * (k : Int)) = false := by simp <;> omega
      have hne1_0 : (k0 + 3 * (k : Int) + 1 != k0 + 3 * (k : Int) + 1) = false := by simp <;> omega
      have hne2_0 : (k0 + 3 * (k : Int) + 2 != k0 + 3 * (k : Int) + 1 + 1) = false := by simp <;> omega
      have hne2_1 : (k0 + 3 * (k : Int) + 2 != k0 + 3 * (k : Int) + 2) = false := by simp <;> omega
      dsimp only at hck1 hck2 hck3
      go_wp2
      go_round
      case rel => exact ⟨k + 1, by omega, by go_num, by go_num⟩
      case measure => simp [intOf]; omega
    · obtain rfl : k = n := by omega
      go_wp2
      go_ret
      exact ⟨rfl, rfl⟩
end
section
open Go.RowKit

theorem hid {p : Prop} (h : p) : Hid p := h
/-- At p lies a block with the cells us, that may be written. -/
def Bx (W : World) (p : Nat) (us : List Value) : Prop := p < W.heap.size ∧ ∀ i v, us[i]? = some v → W.cell? ⟨p, i, none⟩ = some v ∧ W.frozen? ⟨p, i, none⟩ = false
theorem Bx.new {w : World} {p : Nat} (us : List Value) (t : TypeId) (hp : w.heap.size = p) : Bx (w.alloc (.cells us.toArray t)) p us := by
  subst hp
  refine ⟨by simp, fun i v h => ⟨?_, by simp [go_sem]⟩⟩
  rw [World.cell?_alloc_at (hn := rfl)]
  simpa using h
theorem Bx.c {W : World} {p : Nat} {us : List Value} (h : Bx W p us) (i : Nat) {v : Value} (e : us[i]? = some v) : W.cell? ⟨p, i, none⟩ = some v := (h.2 i v e).1
theorem Bx.f {W : World} {p : Nat} {us : List Value} (h : Bx W p us) (i : Nat) {v : Value} (e : us[i]? = some v) : W.frozen? ⟨p, i, none⟩ = false := (h.2 i v e).2
theorem Bx.keep {W W' : World} {p : Nat} {us : List Value} (h : Bx W p us) (hs : W.heap.size ≤ W'.heap.size) (hb : W'.heap[p]? = W.heap[p]?) : Bx W' p us :=
  ⟨Nat.lt_of_lt_of_le h.1 hs, fun i v e => ⟨(World.cell?_of_block (a := ⟨p, i, none⟩) hb).trans (h.2 i v e).1, (World.frozen?_of_block (a := ⟨p, i, none⟩) hb).trans (h.2 i v e).2⟩⟩
theorem Bx.later {W W' : World} {p : Nat} {us : List Value} (h : Bx W p us) (hb : Below W.heap.size W W') : Bx W' p us := h.keep hb.size (hb.block p h.1)
theorem Bx.below {n : Nat} {W W' : World} {p : Nat} {us : List Value} (h : Bx W p us) (hb : Below n W W') (hp : p < n) : Bx W' p us := h.keep hb.size (hb.block p hp)
theorem Bx.between {lo hi : Nat} {W W' : World} {p : Nat} {us : List Value} (h : Bx W p us) (hb : Between lo hi W W') (hp : p < lo ∨ hi ≤ p) : Bx W' p us := h.keep hb.size (hb.block p h.1 hp)
theorem Bx.only {ao : Option Addr} {W W' : World} {p : Nat} {us : List Value} (h : Bx W p us) (hb : OnlyAt ao W W') (hp : ∀ g, ao = some ⟨g, 0, none⟩ → p ≠ g) : Bx W' p us := h.keep (by rw [hb.size]; exact Nat.le_refl _) (hb.block p hp)
theorem Bx.alloc {W : World} {p : Nat} {us : List Value} (h : Bx W p us) (o : Obj) : Bx (W.alloc o) p us := h.later (below1 W o)
theorem Bx.drew {W : World} {p : Nat} {us : List Value} (h : Bx W p us) : Bx W.drew p us := h
theorem Bx.other {W : World} {p : Nat} {us : List Value} (h : Bx W p us) {a : Addr} (ha : a.block ≠ p) (u : Value) : Bx (W.setCell a u) p us :=
  h.keep (by simp [World.setCell]) (Below.heap_setCell W a u p (fun e => ha e.symm))
theorem Bx.set {W : World} {p : Nat} {us : List Value} (h : Bx W p us) (i : Nat) (u : Value) : Bx (W.setCell ⟨p, i, none⟩ u) p (us.set i u) := by
  refine ⟨by simpa using h.1, fun j v e => ?_⟩
  rw [List.getElem?_set] at e
  rw [World.frozen?_setCell]
  split at e
  · rename_i hij
    subst hij
    split at e
    · rename_i hlt
      cases e
      have hq : us[i]? = some us[i] := by simp [hlt]
      exact ⟨World.cell?_setCell_same' _ _ _ (by rw [h.c i hq]; rfl), h.f i hq⟩
    · cases e
  · rename_i hij
    exact ⟨by rw [World.cell?_setCell_other _ _ _ _ (by simp)]; exact h.c j e, h.f j e⟩
theorem Bx.size {W : World} {p : Nat} {us : List Value} (h : Bx W p us) : p < W.heap.size := h.1
end
end Go.Proofs.Ytdjdbcfcccbhpaa
