
/- Rows of stages; chains in plain words. No conditions but those written. -/
import Derived.Test.YtnjnnilmelmmgaaSm
namespace Go.Proofs.Ytnjnnilmelmmgaa
open Go.RowKit

/-- A row of Stage. -/
def kG : Kind (Int × Int × Int) := ⟨25, 37, 3, fun t => [.int .i64 t.1, .int .i64 t.2.1, .int .i64 t.2.2], fun _ => rfl, fun a v h => by simp at h; rcases h with rfl | rfl | rfl <;> rfl⟩
theorem Try.info25 : (Try.prog.info? 25).map (fun i => (i.zero, i.size, i.bytes)) = some (some (.agg #[.int .i64 0, .int .i64 0, .int .i64 0]), 3, 24) := by kernel_rfl
theorem kG_ok : kG.Ok := kind_ok (K := kG) Try.underlying37 Try.info25 rfl (by decide) (by decide)
theorem kG_at {n : Nat} {W : World} {ao : Option Addr} {ts : List (Int × Int × Int)} (h : kG.In n W ao ts) {k : Nat} (hk : k < ts.length) :
    ∃ b off, ao = some ⟨b, off, none⟩ ∧ b < n ∧ ∀ j, j < ts.length → W.cell? ⟨b, off + j * 3, none⟩ = some (.int .i64 (el ts j).1) ∧ W.cell? ⟨b, off + j * 3 + 1, none⟩ = some (.int .i64 (el ts j).2.1) ∧ W.cell? ⟨b, off + j * 3 + 2, none⟩ = some (.int .i64 (el ts j).2.2) := by
  obtain ⟨b, off, e, hb, hc⟩ := h.pos hk
  exact ⟨b, off, e, hb, fun j hj => ⟨hc j hj 0 (by decide), hc j hj 1 (by decide), hc j hj 2 (by decide)⟩⟩
theorem kG_one {n : Nat} {W : World} {p : Nat} {t : Int × Int × Int} (hp : p < n) (h0 : W.cell? ⟨p, 0, none⟩ = some (.int .i64 t.1)) (h1 : W.cell? ⟨p, 1, none⟩ = some (.int .i64 t.2.1)) (h2 : W.cell? ⟨p, 2, none⟩ = some (.int .i64 t.2.2)) : kG.In n W (some ⟨p, 0, none⟩) [t] := by
  refine Kind.In.mk1 hp fun i hi => ?_
  rw [Nat.zero_add]
  have hi' : i < 3 := hi
  rcases (show i = 0 ∨ i = 1 ∨ i = 2 from by omega) with rfl | rfl | rfl
  · exact h0
  · exact h1
  · exact h2
theorem set_far {xs : List Value} {p q : Nat} {u : Value} (h : p ≠ q) : (xs.set p u)[q]? = xs[q]? := by rw [List.getElem?_set, if_neg h]
theorem set_at {xs : List Value} {p : Nat} {u : Value} (h : p < xs.length) : (xs.set p u)[p]? = some u := by rw [List.getElem?_set, if_pos rfl, if_pos h]
set_option maxHeartbeats 400000 in
theorem szStageS_any (a : Option Addr) (len cap : Nat) (L : Int) (w : World) (h0 : 0 ≤ L) (h1 : L ≤ 1048576) (hl : len ≤ 9223372036854775807) :
    Calls Try.prog 18 #[.slice a len cap, .int .i64 L] w fun e w' => (∃ r : Int, e = .returned (.int .i64 r) ∧ r ≤ 1048576 ∧ ((r < 0) ∨ (r = L - len ∧ 0 ≤ r))) ∧ w' = w := by
  go_enter Try.func18, Try.ntmps18
  go_wp2
  all_goals go_ret
  · exact ⟨⟨_, rfl, by omega, by omega⟩, rfl⟩
  · exact ⟨⟨_, rfl, by omega, by omega⟩, rfl⟩
set_option maxHeartbeats 2000000 in
theorem toStageS_any (ao : Option Addr) (cap : Nat) (ts : List (Int × Int × Int)) (w : World) (hl : ts.length ≤ 1048576) (hz : kG.In w.heap.size w ao ts) :
    Calls Try.prog 20 #[.slice ao ts.length cap] w fun e w' => e = .returned (.slice (some ⟨w.heap.size, 0, none⟩) ts.length ts.length) ∧ kG.Fresh w.heap.size w'.heap.size w' (some ⟨w.heap.size, 0, none⟩) ts.length ts ∧ Below w.heap.size w w' := by
  obtain ⟨i0, hi, hz0, hz1, hz2⟩ := info_parts Try.info25
  go_enter Try.func20, Try.ntmps20
  go_wp2_with (at_make; refine wpList_make_full _ rfl _ _ 37 rfl w.heap.size 25 i0 (.agg #[.int .i64 0, .int .i64 0, .int .i64 0]) 3 Try.underlying37 hi hz0 hz1 .i64 .i64 _ _ ts.length rfl rfl rfl rfl (by rw [hz2]; omega) (by unfold maxLen; omega) (Nat.le_refl _) ?_; intro w1 hown hgrow)
  have hB1 : Below w.heap.size w w1 := (Below.refl _ _).grown hgrow (Nat.le_refl _) (fun k e => by cases e)
  have HO := show Hid _ from hown
  clear hown hgrow
  go_loopw [4] (fun i wr => ∃ (k : Nat) (xs : List Value), k ≤ ts.length ∧ i = .int .i64 k ∧ Hid (wr.ownsRow w.heap.size 25 3 (.slice (some ⟨w.heap.size, 0, none⟩) ts.length ts.length) ts.length xs ∧ ∀ j, j < k → xs[j * 3]? = some (.int .i64 (el ts j).1) ∧ xs[j * 3 + 1]? = some (.int .i64 (el ts j).2.1) ∧ xs[j * 3 + 2]? = some (.int .i64 (el ts j).2.2)) ∧ Below w.heap.size w wr) (fun i _ => ts.length - (intOf i).toNat)
  case atStart => exact ⟨0, _, Nat.zero_le _, rfl, ⟨HO.out, fun j hj => by omega⟩, hB1⟩
  case round =>
    obtain ⟨k, xs, hk, rfl, ho, hnx⟩ := hrel
    by_cases hlt : k < ts.length
    · obtain ⟨b, off, rfl, hb, hc⟩ := kG_at hz hlt
      have d1 := (hnx.cell (p := ⟨b, off + k * 3, none⟩) hb).trans (hc k hlt).1
      have d2 := (hnx.cell (p := ⟨b, off + k * 3 + 1, none⟩) hb).trans (hc k hlt).2.1
      have d3 := (hnx.cell (p := ⟨b, off + k * 3 + 2, none⟩) hb).trans (hc k hlt).2.2
      clear hc hz
      obtain ⟨⟨x1, x2, x3⟩, ex⟩ : ∃ v, v = el ts k := ⟨_, rfl⟩
      rw [← ex] at d1 d2 d3
      have HX : Hid (el ts k = (x1, x2, x3)) := ex.symm
      clear ex
      dsimp only at d1 d2 d3
      go_wp2_with fail
      refine (toStage_any x1 x2 x3 _).mono ?_
      rintro e w2 ⟨rfl, hb2⟩
      have hxl : k * 3 + 2 < xs.length := by rw [ho.out.1.1]; omega
      have ho2 := ownsRow_below ho.out.1 hb2
      have hnb : Below w.heap.size w w2 := hnx.trans (hb2.mono hnx.size)
      have HO2 : Hid (w2.ownsRow w.heap.size 25 3 (.slice (some ⟨w.heap.size, 0, none⟩) ts.length ts.length) ts.length xs) := ho2
      have hst1 : w2.cell? ⟨w.heap.size, k * 3, none⟩ = some xs[k * 3] := (ho2.cellAt (k * 3) (by omega)).trans (by simp)
      have hfr1 : w2.frozen? ⟨w.heap.size, k * 3, none⟩ = false := ho2.frozenAt (k * 3)
      have hst2 : w2.cell? ⟨w.heap.size, k * 3 + 1, none⟩ = some xs[k * 3 + 1] := (ho2.cellAt (k * 3 + 1) (by omega)).trans (by simp)
      have hfr2 : w2.frozen? ⟨w.heap.size, k * 3 + 1, none⟩ = false := ho2.frozenAt (k * 3 + 1)
      have hst3 : w2.cell? ⟨w.heap.size, k * 3 + 2, none⟩ = some xs[k * 3 + 2] := (ho2.cellAt (k * 3 + 2) (by omega)).trans (by simp)
      have hfr3 : w2.frozen? ⟨w.heap.size, k * 3 + 2, none⟩ = false := ho2.frozenAt (k * 3 + 2)
      clear ho2
      go_wp2
      go_roundw
      case rel => exact ⟨k + 1, (((xs.set (k * 3) (.int .i64 x1)).set (k * 3 + 1) (.int .i64 x2)).set (k * 3 + 2) (.int .i64 x3)), by omega, by go_num, ⟨(((World.ownsRow.stored HO2.out (k * 3) _).1.stored (k * 3 + 1) _).1.stored (k * 3 + 2) _).1, fun j hj => by
          rcases Nat.lt_succ_iff_lt_or_eq.1 hj with h | rfl
          · refine ⟨?_, ?_, ?_⟩
            · rw [set_far (by omega), set_far (by omega), set_far (by omega)]; exact (ho.out.2 j h).1
            · rw [set_far (by omega), set_far (by omega), set_far (by omega)]; exact (ho.out.2 j h).2.1
            · rw [set_far (by omega), set_far (by omega), set_far (by omega)]; exact (ho.out.2 j h).2.2
          · refine ⟨?_, ?_, ?_⟩
            · rw [set_far (by omega), set_far (by omega), set_at (by first | omega | (simp only [List.length_set]; omega))]; rw [HX.out]
            · rw [set_far (by omega), set_at (by first | omega | (simp only [List.length_set]; omega))]; rw [HX.out]
            · rw [set_at (by first | omega | (simp only [List.length_set]; omega))]; rw [HX.out]⟩, (((hnb.setCell (p := ⟨w.heap.size, k * 3, none⟩) (Nat.le_refl _) _).setCell (p := ⟨w.heap.size, k * 3 + 1, none⟩) (Nat.le_refl _) _).setCell (p := ⟨w.heap.size, k * 3 + 2, none⟩) (Nat.le_refl _) _)⟩
      case measure => simp [intOf]; omega
    · obtain rfl : k = ts.length := by omega
      have hxs : xs = kG.flat ts := by
        refine kG.flat_of xs ts ho.out.1.1 fun j hj i hi => ?_
        have hi' : i < 3 := hi
        rcases (show i = 0 ∨ i = 1 ∨ i = 2 from by omega) with rfl | rfl | rfl
        · exact (ho.out.2 j hj).1
        · exact (ho.out.2 j hj).2.1
        · exact (ho.out.2 j hj).2.2
      subst hxs
      go_wp2
      go_ret
      exact ⟨rfl, .inr ⟨w.heap.size, rfl, (owns_lt ho.out.1).2, ho.out.1⟩, hnx⟩
set_option maxHeartbeats 1000000 in
theorem eqStage_same (x1 : Int) (x2 : Int) (x3 : Int) (w : World) :
    Calls Try.prog 47 #[.agg #[.int .i64 x1, .int .i64 x2, .int .i64 x3], .agg #[.int .i64 x1, .int .i64 x2, .int .i64 x3]] w fun e w' => e = .returned (.bool true) ∧ Below w.heap.size w w' := by
  have h1 : (x1 != x1) = false := by simp
  have h2 : (x2 != x2) = false := by simp
  have h3 : (x3 != x3) = false := by simp
  go_enter Try.func47, Try.ntmps47
  go_wp2
  go_ret
  exact ⟨rfl, below2 _ _ _⟩
set_option maxHeartbeats 1000000 in
theorem eqStageS_same (ao bo : Option Addr) (cap cap' : Nat) (ts : List (Int × Int × Int)) (w : World) (hl : ts.length ≤ 1048576) (hz : kG.In w.heap.size w ao ts) (hz' : kG.In w.heap.size w bo ts) :
    Calls Try.prog 22 #[.slice ao ts.length cap, .slice bo ts.length cap'] w fun e w' => e = .returned (.bool true) ∧ Below w.heap.size w w' := by
  have hne : ((ts.length : Int) != (ts.length : Int)) = false := by simp
  go_enter Try.func22, Try.ntmps22
  go_wp2
  go_loopw [5] (fun i wr => ∃ k : Nat, k ≤ ts.length ∧ i = .int .i64 k ∧ Below w.heap.size w wr) (fun i _ => ts.length - (intOf i).toNat)
  case atStart => exact ⟨0, Nat.zero_le _, rfl, Below.refl _ _⟩
  case round =>
    obtain ⟨k, hk, rfl, hnx⟩ := hrel
    by_cases hlt : k < ts.length
    · obtain ⟨b, off, rfl, hb, hc⟩ := kG_at hz hlt
      obtain ⟨b', off', rfl, hb', hc'⟩ := kG_at hz' hlt
      have hck1 := (hnx.cell (p := ⟨b, off + k * 3, none⟩) hb).trans (hc k hlt).1
      have hck1' := (hnx.cell (p := ⟨b', off' + k * 3, none⟩) hb').trans (hc' k hlt).1
      have hck2 := (hnx.cell (p := ⟨b, off + k * 3 + 1, none⟩) hb).trans (hc k hlt).2.1
      have hck2' := (hnx.cell (p := ⟨b', off' + k * 3 + 1, none⟩) hb').trans (hc' k hlt).2.1
      have hck3 := (hnx.cell (p := ⟨b, off + k * 3 + 2, none⟩) hb).trans (hc k hlt).2.2
      have hck3' := (hnx.cell (p := ⟨b', off' + k * 3 + 2, none⟩) hb').trans (hc' k hlt).2.2
      clear hc hz hc' hz'
      obtain ⟨⟨x1, x2, x3⟩, ex⟩ : ∃ v, v = el ts k := ⟨_, rfl⟩
      rw [← ex] at hck1 hck1' hck2 hck2' hck3 hck3'
      clear ex
      dsimp only at hck1 hck1' hck2 hck2' hck3 hck3'
      go_wp2
      go_region_with (go_at_call 47; refine (eqStage_same x1 x2 x3 _).mono ?_; rintro e w1 ⟨rfl, hb1⟩)
      all_goals go_wp2
      all_goals
        have hb2 : Below wr.drew.heap.size wr.drew w1 := by assumption
        have hnb : Below w.heap.size w w1 := hnx.drew.trans (hb2.mono hnx.size)
        go_roundw
        case rel => exact ⟨k + 1, by omega, by go_num, hnb⟩
        case measure => simp [intOf]; omega
    · obtain rfl : k = ts.length := by omega
      go_wp2
      go_ret
      exact ⟨rfl, hnx⟩
/-- The marks of a row of Stage. -/
def markG (k : Int) (n : Nat) : List (Int × Int × Int) := (List.range n).map (fun i : Nat => (k + 3 * (i : Int), k + 3 * (i : Int) + 1, k + 3 * (i : Int) + 2))
theorem markG_len (k : Int) (n : Nat) : (markG k n).length = n := by simp [markG]
theorem markG_at (k : Int) (n j : Nat) (h : j < n) : el (markG k n) j = (k + 3 * (j : Int), k + 3 * (j : Int) + 1, k + 3 * (j : Int) + 2) := by simp [markG, el, h]
set_option maxHeartbeats 2000000 in
theorem markStageS_any (lo hi : Nat) (to : Option Addr) (tc : Nat) (ts : List (Int × Int × Int)) (k0 : Int) (w : World) (hl : ts.length ≤ 2097152) (hk0 : 0 ≤ k0) (hk1 : k0 ≤ 16777216) (hF : kG.Fresh lo hi w to tc ts) :
    Calls Try.prog 23 #[.slice to ts.length tc, .int .i64 k0] w fun e w' => e = .returned (.int .i64 (k0 + 3 * ts.length)) ∧ kG.Fresh lo hi w' to tc (markG k0 ts.length) ∧ OnlyAt (eff to ts.length) w w' := by
  rcases Nat.eq_zero_or_pos ts.length with h0 | h0
  · obtain rfl : ts = [] := List.length_eq_zero_iff.1 h0
    go_enter Try.func23, Try.ntmps23
    go_wp2
    go_loop [1, 5] (fun v i => v = .int .i64 k0 ∧ i = .int .i64 0) (fun _ _ => 0)
    case atStart => exact ⟨rfl, rfl⟩
    case round =>
      obtain ⟨rfl, rfl⟩ := hrel
      go_wp2
      go_ret
      exact ⟨by simp, .inl (by simp [markG]), OnlyAt.refl _ _⟩
  · rw [eff_pos h0]
    obtain ⟨g, rfl, _, hg, _, ho⟩ := hF.at h0
    have HO : Hid (w.ownsRow lo 25 3 (.slice (some ⟨g, 0, none⟩) ts.length tc) ts.length (kG.flat ts)) := ho
    clear ho
    go_enter Try.func23, Try.ntmps23
    go_wp2
    go_loopw [1, 5] (fun v i wr => ∃ (k : Nat) (xs : List Value), k ≤ ts.length ∧ i = .int .i64 k ∧ v = .int .i64 (k0 + 3 * k) ∧ Hid (wr.ownsRow lo 25 3 (.slice (some ⟨g, 0, none⟩) ts.length tc) ts.length xs ∧ ∀ j : Nat, j < k → xs[j * 3]? = some (.int .i64 (k0 + 3 * j)) ∧ xs[j * 3 + 1]? = some (.int .i64 (k0 + 3 * j + 1)) ∧ xs[j * 3 + 2]? = some (.int .i64 (k0 + 3 * j + 2))) ∧ OnlyAt (some ⟨g, 0, none⟩) w wr) (fun _ i _ => ts.length - (intOf i).toNat)
    case atStart => exact ⟨0, _, Nat.zero_le _, rfl, by simp, ⟨HO.out, fun j hj => by omega⟩, OnlyAt.refl _ _⟩
    case round =>
      obtain ⟨k, xs, hk, rfl, rfl, ho, hnx⟩ := hrel
      by_cases hlt : k < ts.length
      · have hxl : k * 3 + 2 < xs.length := by rw [ho.out.1.1]; omega
        have hst1 : wr.cell? ⟨g, k * 3, none⟩ = some xs[k * 3] := (ho.out.1.cellAt (k * 3) (by omega)).trans (by simp)
        have hfr1 : wr.frozen? ⟨g, k * 3, none⟩ = false := ho.out.1.frozenAt (k * 3)
        have hst2 : wr.cell? ⟨g, k * 3 + 1, none⟩ = some xs[k * 3 + 1] := (ho.out.1.cellAt (k * 3 + 1) (by omega)).trans (by simp)
        have hfr2 : wr.frozen? ⟨g, k * 3 + 1, none⟩ = false := ho.out.1.frozenAt (k * 3 + 1)
        have hst3 : wr.cell? ⟨g, k * 3 + 2, none⟩ = some xs[k * 3 + 2] := (ho.out.1.cellAt (k * 3 + 2) (by omega)).trans (by simp)
        have hfr3 : wr.frozen? ⟨g, k * 3 + 2, none⟩ = false := ho.out.1.frozenAt (k * 3 + 2)
        go_wp2
        go_roundw
        case rel => exact ⟨k + 1, (((xs.set (k * 3) (.int .i64 (k0 + 3 * k))).set (k * 3 + 1) (.int .i64 (k0 + 3 * k + 1))).set (k * 3 + 2) (.int .i64 (k0 + 3 * k + 2))), by omega, by go_num, by go_num, ⟨by
            have h := (((World.ownsRow.stored ho.out.1 (k * 3) (.int .i64 (k0 + 3 * k))).1.stored (k * 3 + 1) (.int .i64 (k0 + 3 * k + 1))).1.stored (k * 3 + 2) (.int .i64 (k0 + 3 * k + 2))).1
            simpa [Int.add_assoc] using h, fun j hj => by
          rcases Nat.lt_succ_iff_lt_or_eq.1 hj with h | rfl
          · refine ⟨?_, ?_, ?_⟩
            · rw [set_far (by omega), set_far (by omega), set_far (by omega)]; exact (ho.out.2 j h).1
            · rw [set_far (by omega), set_far (by omega), set_far (by omega)]; exact (ho.out.2 j h).2.1
            · rw [set_far (by omega), set_far (by omega), set_far (by omega)]; exact (ho.out.2 j h).2.2
          · refine ⟨?_, ?_, ?_⟩
            · rw [set_far (by omega), set_far (by omega), set_at (by first | omega | (simp only [List.length_set]; omega))]
            · rw [set_far (by omega), set_at (by first | omega | (simp only [List.length_set]; omega))]
            · rw [set_at (by first | omega | (simp only [List.length_set]; omega))]⟩, (((hnx.trans (OnlyAt.set g (k * 3) _ _)).trans (OnlyAt.set g (k * 3 + 1) _ _)).trans (OnlyAt.set g (k * 3 + 2) _ _))⟩
        case measure => simp [intOf]; omega
      · obtain rfl : k = ts.length := by omega
        have hxs : xs = kG.flat (markG k0 ts.length) := by
          refine kG.flat_of xs _ (by rw [markG_len]; exact ho.out.1.1) fun j hj i hi => ?_
          rw [markG_len] at hj
          rw [markG_at _ _ _ hj]
          have hi' : i < 3 := hi
          rcases (show i = 0 ∨ i = 1 ∨ i = 2 from by omega) with rfl | rfl | rfl
          · exact (ho.out.2 j hj).1
          · exact (ho.out.2 j hj).2.1
          · exact (ho.out.2 j hj).2.2
        subst hxs
        go_wp2
        go_ret
        refine ⟨rfl, .inr ⟨g, rfl, hg, ?_⟩, hnx⟩
        rw [markG_len]; exact ho.out.1
/-- One stage over many values: whether one fails, and what comes out. -/
def failsAt (s : Int × Int × Int) (vs : List Int) : Bool := vs.any fun v => (appSt s.1 s.2.1 s.2.2 v).2
def outs (s : Int × Int × Int) (vs : List Int) : List Int := vs.flatMap fun v => (appSt s.1 s.2.1 s.2.2 v).1
def goodG (s : Int × Int × Int) : Bool := goodSt s.1 s.2.1 s.2.2
/-- A chain. -/
def chainL : List (Int × Int × Int) → List Int → Option (List Int)
  | [], vs => some vs
  | s :: r, vs => if failsAt s vs then none else chainL r (outs s vs)
def chGood (l : List (Int × Int × Int)) : Bool := decide (l.length ≤ 8) && l.all goodG
def chR (l : List (Int × Int × Int)) (v : Int) : List Int × Bool × Bool :=
  if chGood l && valB v then (match chainL l [v] with | none => ([], true, true) | some x => (x, false, true)) else ([], false, false)
theorem outs_nil (s : Int × Int × Int) : outs s [] = [] := rfl
theorem outs_app (s : Int × Int × Int) (a b : List Int) : outs s (a ++ b) = outs s a ++ outs s b := by simp [outs]
theorem outs_one (s : Int × Int × Int) (v : Int) : outs s [v] = (appSt s.1 s.2.1 s.2.2 v).1 := by simp [outs]
theorem outs_take (s : Int × Int × Int) {vs : List Int} {k : Nat} (h : k < vs.length) : outs s (vs.take (k + 1)) = outs s (vs.take k) ++ (appSt s.1 s.2.1 s.2.2 (el vs k)).1 := by
  rw [take_succ_el h, outs_app, outs_one]
theorem outs_len {s : Int × Int × Int} (h : goodG s = true) (vs : List Int) : (outs s vs).length ≤ 3 * vs.length := by
  induction vs with
  | nil => simp [outs]
  | cons v r ih =>
    rw [show v :: r = [v] ++ r from rfl, outs_app, outs_one, List.length_append, List.length_append]
    have := appSt_len (v := v) h
    simp only [List.length_singleton]; omega
theorem outs_val {s : Int × Int × Int} (h : goodG s = true) {vs : List Int} (hv : ∀ x ∈ vs, valB x = true) : ∀ x ∈ outs s vs, valB x = true := by
  intro x hx
  obtain ⟨v, h1, h2⟩ := List.mem_flatMap.1 hx
  exact appSt_val h (hv v h1) x h2
theorem fails_yes {s : Int × Int × Int} {vs : List Int} {k : Nat} (hk : k < vs.length) (h : (appSt s.1 s.2.1 s.2.2 (el vs k)).2 = true) : failsAt s vs = true :=
  List.any_eq_true.2 ⟨_, el_mem hk, h⟩
theorem fails_no {s : Int × Int × Int} {vs : List Int} (h : ∀ j, j < vs.length → (appSt s.1 s.2.1 s.2.2 (el vs j)).2 = false) : failsAt s vs = false := by
  rw [failsAt, List.any_eq_false]
  intro x hx
  obtain ⟨j, hj, rfl⟩ := mem_el hx
  simp [h j hj]
theorem chain_app : ∀ (l : List (Int × Int × Int)) (s : Int × Int × Int) (vs : List Int), chainL (l ++ [s]) vs = (chainL l vs).bind fun x => if failsAt s x then none else some (outs s x)
  | [], s, vs => by simp [chainL]
  | t :: r, s, vs => by
    rw [List.cons_append, chainL, chainL]
    split
    · rfl
    · exact chain_app r s (outs t vs)
theorem chain_none : ∀ (l m : List (Int × Int × Int)) (vs : List Int), chainL l vs = none → chainL (l ++ m) vs = none
  | [], m, vs, h => by simp [chainL] at h
  | t :: r, m, vs, h => by
    rw [List.cons_append, chainL]
    rw [chainL] at h
    split
    · rfl
    · rename_i hf
      rw [if_neg hf] at h
      exact chain_none r m _ h
theorem chain_take {l : List (Int × Int × Int)} {k : Nat} (hk : k < l.length) {vs x : List Int} (h : chainL (l.take k) vs = some x) : chainL (l.take (k + 1)) vs = if failsAt (el l k) x then none else some (outs (el l k) x) := by
  rw [take_succ_el hk, chain_app, h]; rfl
theorem chain_fail {l : List (Int × Int × Int)} {k : Nat} {vs : List Int} (h : chainL (l.take k) vs = none) : chainL l vs = none := by
  have := chain_none (l.take k) (l.drop k) vs h
  rwa [List.take_append_drop] at this
theorem chain_len : ∀ (l : List (Int × Int × Int)) (vs x : List Int), (∀ s ∈ l, goodG s = true) → chainL l vs = some x → x.length ≤ 3 ^ l.length * vs.length
  | [], vs, x, _, h => by simp [chainL] at h; subst h; simp
  | t :: r, vs, x, hg, h => by
    rw [chainL] at h
    split at h
    · cases h
    · have h1 := chain_len r _ x (fun s hs => hg s (List.mem_cons_of_mem _ hs)) h
      have h2 := outs_len (hg t (by simp)) vs
      have h3 : 3 ^ r.length * (outs t vs).length ≤ 3 ^ r.length * (3 * vs.length) := Nat.mul_le_mul_left _ h2
      rw [List.length_cons, Nat.pow_succ, Nat.mul_assoc]
      omega
theorem chain_val : ∀ (l : List (Int × Int × Int)) (vs x : List Int), (∀ s ∈ l, goodG s = true) → (∀ y ∈ vs, valB y = true) → chainL l vs = some x → ∀ y ∈ x, valB y = true
  | [], vs, x, _, hv, h => by simp [chainL] at h; subst h; exact hv
  | t :: r, vs, x, hg, hv, h => by
    rw [chainL] at h
    split at h
    · cases h
    · exact chain_val r _ x (fun s hs => hg s (List.mem_cons_of_mem _ hs)) (outs_val (hg t (by simp)) hv) h
theorem pow3 {n : Nat} (h : n ≤ 8) : 3 ^ n ≤ 6561 := by
  have : 3 ^ n ≤ 3 ^ 8 := Nat.pow_le_pow_right (by omega) h
  omega
theorem chGood_all {l : List (Int × Int × Int)} (h : chGood l = true) : l.length ≤ 8 ∧ ∀ s ∈ l, goodG s = true := by
  simp [chGood] at h; exact ⟨h.1, fun s hs => h.2 _ _ _ hs⟩
theorem chain_small {l : List (Int × Int × Int)} {v : Int} {x : List Int} {k : Nat} (hg : chGood l = true) (h : chainL (l.take k) [v] = some x) : x.length ≤ 6561 := by
  obtain ⟨h8, ha⟩ := chGood_all hg
  have h1 := chain_len _ _ x (fun s hs => ha s (List.mem_of_mem_take hs)) h
  have h2 := pow3 (n := (l.take k).length) (by simp; omega)
  simp only [List.length_singleton, Nat.mul_one] at h1
  omega
theorem chain_vals {l : List (Int × Int × Int)} {v : Int} {x : List Int} {k : Nat} (hg : chGood l = true) (hv : valB v = true) (h : chainL (l.take k) [v] = some x) : ∀ y ∈ x, valB y = true :=
  chain_val _ _ x (fun s hs => (chGood_all hg).2 s (List.mem_of_mem_take hs)) (by simpa using hv) h
theorem chR_no1 {l : List (Int × Int × Int)} {v : Int} (h : chGood l = false) : chR l v = ([], false, false) := by simp [chR, h]
theorem chR_no2 {l : List (Int × Int × Int)} {v : Int} (h : valB v = false) : chR l v = ([], false, false) := by simp [chR, h]
theorem chR_fail {l : List (Int × Int × Int)} {v : Int} (h : chGood l = true) (hv : valB v = true) (hc : chainL l [v] = none) : chR l v = ([], true, true) := by simp [chR, h, hv, hc]
theorem chR_some {l : List (Int × Int × Int)} {v : Int} {x : List Int} (h : chGood l = true) (hv : valB v = true) (hc : chainL l [v] = some x) : chR l v = (x, false, true) := by simp [chR, h, hv, hc]
theorem chR_len (l : List (Int × Int × Int)) (v : Int) : (chR l v).1.length ≤ 6561 := by
  rcases h : chGood l with _ | _
  · rw [chR_no1 h]; simp
  · rcases hv : valB v with _ | _
    · rw [chR_no2 hv]; simp
    · rcases hc : chainL l [v] with _ | x
      · rw [chR_fail h hv hc]; simp
      · rw [chR_some h hv hc]
        exact chain_small (k := l.length) h (by rw [List.take_length]; exact hc)
end Go.Proofs.Ytnjnnilmelmmgaa
