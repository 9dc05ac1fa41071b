
/- Rows of tokens, of outs, of losts: sizes, copies, comparisons. No conditions but those written. -/
import Derived.Test.YtjdcaommbibkaaaDoorIa
import Derived.Test.YtjdcaommbibkaaaDoorBx
namespace Go.Proofs.YtjdcaommbibkaaaDoor
open Go.RowKit

theorem set_far {xs : List Value} {p q : Nat} {u : Value} (h : p ≠ q) : (xs.set p u)[q]? = xs[q]? := by rw [List.getElem?_set, if_neg h]
theorem set_at {xs : List Value} {p : Nat} {u : Value} (h : p < xs.length) : (xs.set p u)[p]? = some u := by rw [List.getElem?_set, if_pos rfl, if_pos h]
theorem Kind.Fresh.setOff {α : Type} {K : Kind α} {lo hi : Nat} {W : World} {qo : Option Addr} {qc : Nat} {q : List α} (h : K.Fresh lo hi W qo qc q) {a : Addr} (ha : a.block < lo ∨ hi ≤ a.block) (u : Value) : K.Fresh lo hi (W.setCell a u) qo qc q := h.keep fun k h1 h2 _ => Below.heap_setCell W a u k (by omega)
theorem Kind.Fresh.notNew {α : Type} {K : Kind α} {lo hi : Nat} {W : World} {qo : Option Addr} {qc : Nat} {q : List α} (h : K.Fresh lo hi W qo qc q) {g : Nat} (e : eff qo q.length = some ⟨g, 0, none⟩) : W.heap.size ≠ g := by
  rcases h with rfl | ⟨g2, e2, hg, ho⟩
  · simp [eff] at e
  · unfold eff at e
    split at e
    · cases e
    · rw [e2] at e; simp at e; subst e
      have := (owns_lt ho).2; omega
/-- A row of Token. -/
def kTk : Kind (Int × Int × Int) := ⟨70, 56, 3, fun t => [.int .i64 t.1, .int .i64 t.2.1, .int .i64 t.2.2], fun _ => rfl, fun a v h => by simp at h; rcases h with rfl | rfl | rfl <;> rfl⟩
theorem Tryd.info70 : (Tryd.prog.info? 70).map (fun i => (i.zero, i.size, i.bytes)) = some (some (.agg #[.int .i64 0, .int .i64 0, .int .i64 0]), 3, 24) := by kernel_rfl
theorem kTk_ok : kTk.Ok := kind_ok (K := kTk) Tryd.underlying56 Tryd.info70 rfl (by decide) (by decide)
theorem kTk_at {n : Nat} {W : World} {ao : Option Addr} {ts : List (Int × Int × Int)} (h : kTk.In n W ao ts) {k : Nat} (hk : k < ts.length) :
    ∃ b off, ao = some ⟨b, off, none⟩ ∧ b < n ∧ ∀ j, j < ts.length → W.cell? ⟨b, off + j * 3, none⟩ = some (.int .i64 (el ts j).1) ∧ W.cell? ⟨b, off + j * 3 + 1, none⟩ = some (.int .i64 (el ts j).2.1) ∧ W.cell? ⟨b, off + j * 3 + 2, none⟩ = some (.int .i64 (el ts j).2.2) := by
  obtain ⟨b, off, e, hb, hc⟩ := h.pos hk
  exact ⟨b, off, e, hb, fun j hj => ⟨hc j hj 0 (by decide), hc j hj 1 (by decide), hc j hj 2 (by decide)⟩⟩
theorem kTk_one {n : Nat} {W : World} {p : Nat} {t : Int × Int × Int} (hp : p < n) (h0 : W.cell? ⟨p, 0, none⟩ = some (.int .i64 t.1)) (h1 : W.cell? ⟨p, 1, none⟩ = some (.int .i64 t.2.1)) (h2 : W.cell? ⟨p, 2, none⟩ = some (.int .i64 t.2.2)) : kTk.In n W (some ⟨p, 0, none⟩) [t] := by
  refine Kind.In.mk1 hp fun i hi => ?_
  rw [Nat.zero_add]
  have hi' : i < 3 := hi
  rcases (show i = 0 ∨ i = 1 ∨ i = 2 from by omega) with rfl | rfl | rfl
  · exact h0
  · exact h1
  · exact h2
set_option maxHeartbeats 400000 in
theorem szTokenS_any (a : Option Addr) (len cap : Nat) (L : Int) (w : World) (h0 : 0 ≤ L) (h1 : L ≤ 1048576) (hl : len ≤ 9223372036854775807) :
    Calls Tryd.prog 25 #[.slice a len cap, .int .i64 L] w fun e w' => (∃ r : Int, e = .returned (.int .i64 r) ∧ r ≤ 1048576 ∧ ((r < 0) ∨ (r = L - len ∧ 0 ≤ r))) ∧ w' = w := by
  go_enter Tryd.func25, Tryd.ntmps25
  go_wp2
  all_goals go_ret
  · exact ⟨⟨_, rfl, by omega, by omega⟩, rfl⟩
  · exact ⟨⟨_, rfl, by omega, by omega⟩, rfl⟩
set_option maxHeartbeats 400000 in
theorem toToken_any (x1 : Int) (x2 : Int) (x3 : Int) (w : World) :
    Calls Tryd.prog 33 #[.agg #[.int .i64 x1, .int .i64 x2, .int .i64 x3]] w fun e w' => e = .returned (.agg #[.int .i64 x1, .int .i64 x2, .int .i64 x3]) ∧ Below w.heap.size w w' := by
  go_enter Tryd.func33, Tryd.ntmps33
  go_wp2
  exact bodyPost_ret (v := .agg #[.int .i64 x1, .int .i64 x2, .int .i64 x3]) (by simp [results, Tryd.results33, go_sem]) rfl ⟨rfl, below3 _ _ _ _⟩
set_option maxHeartbeats 2000000 in
theorem toTokenS_any (ao : Option Addr) (cap : Nat) (ts : List (Int × Int × Int)) (w : World) (hl : ts.length ≤ 1048576) (hz : kTk.In w.heap.size w ao ts) :
    Calls Tryd.prog 26 #[.slice ao ts.length cap] w fun e w' => e = .returned (.slice (some ⟨w.heap.size, 0, none⟩) ts.length ts.length) ∧ kTk.Fresh w.heap.size w'.heap.size w' (some ⟨w.heap.size, 0, none⟩) ts.length ts ∧ Below w.heap.size w w' := by
  obtain ⟨i0, hi, hz0, hz1, hz2⟩ := info_parts Tryd.info70
  go_enter Tryd.func26, Tryd.ntmps26
  go_wp2_with (at_make; refine wpList_make_full _ rfl _ _ 56 rfl w.heap.size 70 i0 (.agg #[.int .i64 0, .int .i64 0, .int .i64 0]) 3 Tryd.underlying56 hi hz0 hz1 .i64 .i64 _ _ ts.length rfl rfl rfl rfl (by rw [hz2]; omega) (by unfold maxLen; omega) (Nat.le_refl _) ?_; intro w1 hown hgrow)
  have hB1 : Below w.heap.size w w1 := (Below.refl _ _).grown hgrow (Nat.le_refl _) (fun k e => by cases e)
  have HO := show Hid _ from hown
  clear hown hgrow
  go_loopw [4] (fun i wr => ∃ (k : Nat) (xs : List Value), k ≤ ts.length ∧ i = .int .i64 k ∧ Hid (wr.ownsRow w.heap.size 70 3 (.slice (some ⟨w.heap.size, 0, none⟩) ts.length ts.length) ts.length xs ∧ ∀ j, j < k → xs[j * 3]? = some (.int .i64 (el ts j).1) ∧ xs[j * 3 + 1]? = some (.int .i64 (el ts j).2.1) ∧ xs[j * 3 + 2]? = some (.int .i64 (el ts j).2.2)) ∧ Below w.heap.size w wr) (fun i _ => ts.length - (intOf i).toNat)
  case atStart => exact ⟨0, _, Nat.zero_le _, rfl, ⟨HO.out, fun j hj => by omega⟩, hB1⟩
  case round =>
    obtain ⟨k, xs, hk, rfl, ho, hnx⟩ := hrel
    by_cases hlt : k < ts.length
    · obtain ⟨b, off, rfl, hb, hc⟩ := kTk_at hz hlt
      have d1 := (hnx.cell (p := ⟨b, off + k * 3, none⟩) hb).trans (hc k hlt).1
      have d2 := (hnx.cell (p := ⟨b, off + k * 3 + 1, none⟩) hb).trans (hc k hlt).2.1
      have d3 := (hnx.cell (p := ⟨b, off + k * 3 + 2, none⟩) hb).trans (hc k hlt).2.2
      clear hc hz
      obtain ⟨⟨x1, x2, x3⟩, ex⟩ : ∃ v, v = el ts k := ⟨_, rfl⟩
      rw [← ex] at d1 d2 d3
      have HX : Hid (el ts k = (x1, x2, x3)) := ex.symm
      clear ex
      dsimp only at d1 d2 d3
      go_wp2_with fail
      refine (toToken_any x1 x2 x3 _).mono ?_
      rintro e w2 ⟨rfl, hb2⟩
      have hxl : k * 3 + 2 < xs.length := by rw [ho.out.1.1]; omega
      have ho2 := ownsRow_below ho.out.1 hb2
      have hnb : Below w.heap.size w w2 := hnx.trans (hb2.mono hnx.size)
      have HO2 : Hid (w2.ownsRow w.heap.size 70 3 (.slice (some ⟨w.heap.size, 0, none⟩) ts.length ts.length) ts.length xs) := ho2
      have hst1 : w2.cell? ⟨w.heap.size, k * 3, none⟩ = some xs[k * 3] := (ho2.cellAt (k * 3) (by omega)).trans (by simp)
      have hfr1 : w2.frozen? ⟨w.heap.size, k * 3, none⟩ = false := ho2.frozenAt (k * 3)
      have hst2 : w2.cell? ⟨w.heap.size, k * 3 + 1, none⟩ = some xs[k * 3 + 1] := (ho2.cellAt (k * 3 + 1) (by omega)).trans (by simp)
      have hfr2 : w2.frozen? ⟨w.heap.size, k * 3 + 1, none⟩ = false := ho2.frozenAt (k * 3 + 1)
      have hst3 : w2.cell? ⟨w.heap.size, k * 3 + 2, none⟩ = some xs[k * 3 + 2] := (ho2.cellAt (k * 3 + 2) (by omega)).trans (by simp)
      have hfr3 : w2.frozen? ⟨w.heap.size, k * 3 + 2, none⟩ = false := ho2.frozenAt (k * 3 + 2)
      clear ho2
      go_wp2
      go_roundw
      case rel => exact ⟨k + 1, (((xs.set (k * 3) (.int .i64 x1)).set (k * 3 + 1) (.int .i64 x2)).set (k * 3 + 2) (.int .i64 x3)), by omega, by go_num, ⟨(((World.ownsRow.stored HO2.out (k * 3) _).1.stored (k * 3 + 1) _).1.stored (k * 3 + 2) _).1, fun j hj => by
          rcases Nat.lt_succ_iff_lt_or_eq.1 hj with h | rfl
          · refine ⟨?_, ?_, ?_⟩
            · rw [set_far (by omega), set_far (by omega), set_far (by omega)]; exact (ho.out.2 j h).1
            · rw [set_far (by omega), set_far (by omega), set_far (by omega)]; exact (ho.out.2 j h).2.1
            · rw [set_far (by omega), set_far (by omega), set_far (by omega)]; exact (ho.out.2 j h).2.2
          · refine ⟨?_, ?_, ?_⟩
            · rw [set_far (by omega), set_far (by omega), set_at (by first | omega | (simp only [List.length_set]; omega))]; rw [HX.out]
            · rw [set_far (by omega), set_at (by first | omega | (simp only [List.length_set]; omega))]; rw [HX.out]
            · rw [set_at (by first | omega | (simp only [List.length_set]; omega))]; rw [HX.out]⟩, (((hnb.setCell (p := ⟨w.heap.size, k * 3, none⟩) (Nat.le_refl _) _).setCell (p := ⟨w.heap.size, k * 3 + 1, none⟩) (Nat.le_refl _) _).setCell (p := ⟨w.heap.size, k * 3 + 2, none⟩) (Nat.le_refl _) _)⟩
      case measure => simp [intOf]; omega
    · obtain rfl : k = ts.length := by omega
      have hxs : xs = kTk.flat ts := by
        refine kTk.flat_of xs ts ho.out.1.1 fun j hj i hi => ?_
        have hi' : i < 3 := hi
        rcases (show i = 0 ∨ i = 1 ∨ i = 2 from by omega) with rfl | rfl | rfl
        · exact (ho.out.2 j hj).1
        · exact (ho.out.2 j hj).2.1
        · exact (ho.out.2 j hj).2.2
      subst hxs
      go_wp2
      go_ret
      exact ⟨rfl, .inr ⟨w.heap.size, rfl, (owns_lt ho.out.1).2, ho.out.1⟩, hnx⟩
set_option maxHeartbeats 1000000 in
theorem eqToken_same (x1 : Int) (x2 : Int) (x3 : Int) (w : World) :
    Calls Tryd.prog 35 #[.agg #[.int .i64 x1, .int .i64 x2, .int .i64 x3], .agg #[.int .i64 x1, .int .i64 x2, .int .i64 x3]] w fun e w' => e = .returned (.bool true) ∧ Below w.heap.size w w' := by
  have h1 : (x1 != x1) = false := by simp
  have h2 : (x2 != x2) = false := by simp
  have h3 : (x3 != x3) = false := by simp
  go_enter Tryd.func35, Tryd.ntmps35
  go_wp2
  go_ret
  exact ⟨rfl, below2 _ _ _⟩
set_option maxHeartbeats 1000000 in
theorem eqTokenS_same (ao bo : Option Addr) (cap cap' : Nat) (ts : List (Int × Int × Int)) (w : World) (hl : ts.length ≤ 1048576) (hz : kTk.In w.heap.size w ao ts) (hz' : kTk.In w.heap.size w bo ts) :
    Calls Tryd.prog 30 #[.slice ao ts.length cap, .slice bo ts.length cap'] w fun e w' => e = .returned (.bool true) ∧ Below w.heap.size w w' := by
  have hne : ((ts.length : Int) != (ts.length : Int)) = false := by simp
  go_enter Tryd.func30, Tryd.ntmps30
  go_wp2
  go_loopw [5] (fun i wr => ∃ k : Nat, k ≤ ts.length ∧ i = .int .i64 k ∧ Below w.heap.size w wr) (fun i _ => ts.length - (intOf i).toNat)
  case atStart => exact ⟨0, Nat.zero_le _, rfl, Below.refl _ _⟩
  case round =>
    obtain ⟨k, hk, rfl, hnx⟩ := hrel
    by_cases hlt : k < ts.length
    · obtain ⟨b, off, rfl, hb, hc⟩ := kTk_at hz hlt
      obtain ⟨b', off', rfl, hb', hc'⟩ := kTk_at hz' hlt
      have hck1 := (hnx.cell (p := ⟨b, off + k * 3, none⟩) hb).trans (hc k hlt).1
      have hck1' := (hnx.cell (p := ⟨b', off' + k * 3, none⟩) hb').trans (hc' k hlt).1
      have hck2 := (hnx.cell (p := ⟨b, off + k * 3 + 1, none⟩) hb).trans (hc k hlt).2.1
      have hck2' := (hnx.cell (p := ⟨b', off' + k * 3 + 1, none⟩) hb').trans (hc' k hlt).2.1
      have hck3 := (hnx.cell (p := ⟨b, off + k * 3 + 2, none⟩) hb).trans (hc k hlt).2.2
      have hck3' := (hnx.cell (p := ⟨b', off' + k * 3 + 2, none⟩) hb').trans (hc' k hlt).2.2
      clear hc hz hc' hz'
      obtain ⟨⟨x1, x2, x3⟩, ex⟩ : ∃ v, v = el ts k := ⟨_, rfl⟩
      rw [← ex] at hck1 hck1' hck2 hck2' hck3 hck3'
      clear ex
      dsimp only at hck1 hck1' hck2 hck2' hck3 hck3'
      go_wp2
      go_region_with (go_at_call 35; refine (eqToken_same x1 x2 x3 _).mono ?_; rintro e w1 ⟨rfl, hb1⟩)
      all_goals go_wp2
      all_goals
        have hb2 : Below wr.drew.heap.size wr.drew w1 := by assumption
        have hnb : Below w.heap.size w w1 := hnx.drew.trans (hb2.mono hnx.size)
        go_roundw
        case rel => exact ⟨k + 1, by omega, by go_num, hnb⟩
        case measure => simp [intOf]; omega
    · obtain rfl : k = ts.length := by omega
      go_wp2
      go_ret
      exact ⟨rfl, hnx⟩
/-- A row of Out. -/
def kOu : Kind (Int × Int × Int) := ⟨59, 31, 3, fun t => [.int .i64 t.1, .int .i64 t.2.1, .int .i64 t.2.2], fun _ => rfl, fun a v h => by simp at h; rcases h with rfl | rfl | rfl <;> rfl⟩
theorem Tryd.info59 : (Tryd.prog.info? 59).map (fun i => (i.zero, i.size, i.bytes)) = some (some (.agg #[.int .i64 0, .int .i64 0, .int .i64 0]), 3, 24) := by kernel_rfl
theorem kOu_ok : kOu.Ok := kind_ok (K := kOu) Tryd.underlying31 Tryd.info59 rfl (by decide) (by decide)
theorem kOu_at {n : Nat} {W : World} {ao : Option Addr} {ts : List (Int × Int × Int)} (h : kOu.In n W ao ts) {k : Nat} (hk : k < ts.length) :
    ∃ b off, ao = some ⟨b, off, none⟩ ∧ b < n ∧ ∀ j, j < ts.length → W.cell? ⟨b, off + j * 3, none⟩ = some (.int .i64 (el ts j).1) ∧ W.cell? ⟨b, off + j * 3 + 1, none⟩ = some (.int .i64 (el ts j).2.1) ∧ W.cell? ⟨b, off + j * 3 + 2, none⟩ = some (.int .i64 (el ts j).2.2) := by
  obtain ⟨b, off, e, hb, hc⟩ := h.pos hk
  exact ⟨b, off, e, hb, fun j hj => ⟨hc j hj 0 (by decide), hc j hj 1 (by decide), hc j hj 2 (by decide)⟩⟩
theorem kOu_one {n : Nat} {W : World} {p : Nat} {t : Int × Int × Int} (hp : p < n) (h0 : W.cell? ⟨p, 0, none⟩ = some (.int .i64 t.1)) (h1 : W.cell? ⟨p, 1, none⟩ = some (.int .i64 t.2.1)) (h2 : W.cell? ⟨p, 2, none⟩ = some (.int .i64 t.2.2)) : kOu.In n W (some ⟨p, 0, none⟩) [t] := by
  refine Kind.In.mk1 hp fun i hi => ?_
  rw [Nat.zero_add]
  have hi' : i < 3 := hi
  rcases (show i = 0 ∨ i = 1 ∨ i = 2 from by omega) with rfl | rfl | rfl
  · exact h0
  · exact h1
  · exact h2
set_option maxHeartbeats 400000 in
theorem szOutS_any (a : Option Addr) (len cap : Nat) (L : Int) (w : World) (h0 : 0 ≤ L) (h1 : L ≤ 1048576) (hl : len ≤ 9223372036854775807) :
    Calls Tryd.prog 10 #[.slice a len cap, .int .i64 L] w fun e w' => (∃ r : Int, e = .returned (.int .i64 r) ∧ r ≤ 1048576 ∧ ((r < 0) ∨ (r = L - len ∧ 0 ≤ r))) ∧ w' = w := by
  go_enter Tryd.func10, Tryd.ntmps10
  go_wp2
  all_goals go_ret
  · exact ⟨⟨_, rfl, by omega, by omega⟩, rfl⟩
  · exact ⟨⟨_, rfl, by omega, by omega⟩, rfl⟩
set_option maxHeartbeats 400000 in
theorem toOut_any (x1 : Int) (x2 : Int) (x3 : Int) (w : World) :
    Calls Tryd.prog 27 #[.agg #[.int .i64 x1, .int .i64 x2, .int .i64 x3]] w fun e w' => e = .returned (.agg #[.int .i64 x1, .int .i64 x2, .int .i64 x3]) ∧ Below w.heap.size w w' := by
  go_enter Tryd.func27, Tryd.ntmps27
  go_wp2
  exact bodyPost_ret (v := .agg #[.int .i64 x1, .int .i64 x2, .int .i64 x3]) (by simp [results, Tryd.results27, go_sem]) rfl ⟨rfl, below3 _ _ _ _⟩
set_option maxHeartbeats 2000000 in
theorem toOutS_any (ao : Option Addr) (cap : Nat) (ts : List (Int × Int × Int)) (w : World) (hl : ts.length ≤ 1048576) (hz : kOu.In w.heap.size w ao ts) :
    Calls Tryd.prog 16 #[.slice ao ts.length cap] w fun e w' => e = .returned (.slice (some ⟨w.heap.size, 0, none⟩) ts.length ts.length) ∧ kOu.Fresh w.heap.size w'.heap.size w' (some ⟨w.heap.size, 0, none⟩) ts.length ts ∧ Below w.heap.size w w' := by
  obtain ⟨i0, hi, hz0, hz1, hz2⟩ := info_parts Tryd.info59
  go_enter Tryd.func16, Tryd.ntmps16
  go_wp2_with (at_make; refine wpList_make_full _ rfl _ _ 31 rfl w.heap.size 59 i0 (.agg #[.int .i64 0, .int .i64 0, .int .i64 0]) 3 Tryd.underlying31 hi hz0 hz1 .i64 .i64 _ _ ts.length rfl rfl rfl rfl (by rw [hz2]; omega) (by unfold maxLen; omega) (Nat.le_refl _) ?_; intro w1 hown hgrow)
  have hB1 : Below w.heap.size w w1 := (Below.refl _ _).grown hgrow (Nat.le_refl _) (fun k e => by cases e)
  have HO := show Hid _ from hown
  clear hown hgrow
  go_loopw [4] (fun i wr => ∃ (k : Nat) (xs : List Value), k ≤ ts.length ∧ i = .int .i64 k ∧ Hid (wr.ownsRow w.heap.size 59 3 (.slice (some ⟨w.heap.size, 0, none⟩) ts.length ts.length) ts.length xs ∧ ∀ j, j < k → xs[j * 3]? = some (.int .i64 (el ts j).1) ∧ xs[j * 3 + 1]? = some (.int .i64 (el ts j).2.1) ∧ xs[j * 3 + 2]? = some (.int .i64 (el ts j).2.2)) ∧ Below w.heap.size w wr) (fun i _ => ts.length - (intOf i).toNat)
  case atStart => exact ⟨0, _, Nat.zero_le _, rfl, ⟨HO.out, fun j hj => by omega⟩, hB1⟩
  case round =>
    obtain ⟨k, xs, hk, rfl, ho, hnx⟩ := hrel
    by_cases hlt : k < ts.length
    · obtain ⟨b, off, rfl, hb, hc⟩ := kOu_at hz hlt
      have d1 := (hnx.cell (p := ⟨b, off + k * 3, none⟩) hb).trans (hc k hlt).1
      have d2 := (hnx.cell (p := ⟨b, off + k * 3 + 1, none⟩) hb).trans (hc k hlt).2.1
      have d3 := (hnx.cell (p := ⟨b, off + k * 3 + 2, none⟩) hb).trans (hc k hlt).2.2
      clear hc hz
      obtain ⟨⟨x1, x2, x3⟩, ex⟩ : ∃ v, v = el ts k := ⟨_, rfl⟩
      rw [← ex] at d1 d2 d3
      have HX : Hid (el ts k = (x1, x2, x3)) := ex.symm
      clear ex
      dsimp only at d1 d2 d3
      go_wp2_with fail
      refine (toOut_any x1 x2 x3 _).mono ?_
      rintro e w2 ⟨rfl, hb2⟩
      have hxl : k * 3 + 2 < xs.length := by rw [ho.out.1.1]; omega
      have ho2 := ownsRow_below ho.out.1 hb2
      have hnb : Below w.heap.size w w2 := hnx.trans (hb2.mono hnx.size)
      have HO2 : Hid (w2.ownsRow w.heap.size 59 3 (.slice (some ⟨w.heap.size, 0, none⟩) ts.length ts.length) ts.length xs) := ho2
      have hst1 : w2.cell? ⟨w.heap.size, k * 3, none⟩ = some xs[k * 3] := (ho2.cellAt (k * 3) (by omega)).trans (by simp)
      have hfr1 : w2.frozen? ⟨w.heap.size, k * 3, none⟩ = false := ho2.frozenAt (k * 3)
      have hst2 : w2.cell? ⟨w.heap.size, k * 3 + 1, none⟩ = some xs[k * 3 + 1] := (ho2.cellAt (k * 3 + 1) (by omega)).trans (by simp)
      have hfr2 : w2.frozen? ⟨w.heap.size, k * 3 + 1, none⟩ = false := ho2.frozenAt (k * 3 + 1)
      have hst3 : w2.cell? ⟨w.heap.size, k * 3 + 2, none⟩ = some xs[k * 3 + 2] := (ho2.cellAt (k * 3 + 2) (by omega)).trans (by simp)
      have hfr3 : w2.frozen? ⟨w.heap.size, k * 3 + 2, none⟩ = false := ho2.frozenAt (k * 3 + 2)
      clear ho2
      go_wp2
      go_roundw
      case rel => exact ⟨k + 1, (((xs.set (k * 3) (.int .i64 x1)).set (k * 3 + 1) (.int .i64 x2)).set (k * 3 + 2) (.int .i64 x3)), by omega, by go_num, ⟨(((World.ownsRow.stored HO2.out (k * 3) _).1.stored (k * 3 + 1) _).1.stored (k * 3 + 2) _).1, fun j hj => by
          rcases Nat.lt_succ_iff_lt_or_eq.1 hj with h | rfl
          · refine ⟨?_, ?_, ?_⟩
            · rw [set_far (by omega), set_far (by omega), set_far (by omega)]; exact (ho.out.2 j h).1
            · rw [set_far (by omega), set_far (by omega), set_far (by omega)]; exact (ho.out.2 j h).2.1
            · rw [set_far (by omega), set_far (by omega), set_far (by omega)]; exact (ho.out.2 j h).2.2
          · refine ⟨?_, ?_, ?_⟩
            · rw [set_far (by omega), set_far (by omega), set_at (by first | omega | (simp only [List.length_set]; omega))]; rw [HX.out]
            · rw [set_far (by omega), set_at (by first | omega | (simp only [List.length_set]; omega))]; rw [HX.out]
            · rw [set_at (by first | omega | (simp only [List.length_set]; omega))]; rw [HX.out]⟩, (((hnb.setCell (p := ⟨w.heap.size, k * 3, none⟩) (Nat.le_refl _) _).setCell (p := ⟨w.heap.size, k * 3 + 1, none⟩) (Nat.le_refl _) _).setCell (p := ⟨w.heap.size, k * 3 + 2, none⟩) (Nat.le_refl _) _)⟩
      case measure => simp [intOf]; omega
    · obtain rfl : k = ts.length := by omega
      have hxs : xs = kOu.flat ts := by
        refine kOu.flat_of xs ts ho.out.1.1 fun j hj i hi => ?_
        have hi' : i < 3 := hi
        rcases (show i = 0 ∨ i = 1 ∨ i = 2 from by omega) with rfl | rfl | rfl
        · exact (ho.out.2 j hj).1
        · exact (ho.out.2 j hj).2.1
        · exact (ho.out.2 j hj).2.2
      subst hxs
      go_wp2
      go_ret
      exact ⟨rfl, .inr ⟨w.heap.size, rfl, (owns_lt ho.out.1).2, ho.out.1⟩, hnx⟩
set_option maxHeartbeats 1000000 in
theorem eqOut_same (x1 : Int) (x2 : Int) (x3 : Int) (w : World) :
    Calls Tryd.prog 31 #[.agg #[.int .i64 x1, .int .i64 x2, .int .i64 x3], .agg #[.int .i64 x1, .int .i64 x2, .int .i64 x3]] w fun e w' => e = .returned (.bool true) ∧ Below w.heap.size w w' := by
  have h1 : (x1 != x1) = false := by simp
  have h2 : (x2 != x2) = false := by simp
  have h3 : (x3 != x3) = false := by simp
  go_enter Tryd.func31, Tryd.ntmps31
  go_wp2
  go_ret
  exact ⟨rfl, below2 _ _ _⟩
set_option maxHeartbeats 1000000 in
theorem eqOutS_same (ao bo : Option Addr) (cap cap' : Nat) (ts : List (Int × Int × Int)) (w : World) (hl : ts.length ≤ 1048576) (hz : kOu.In w.heap.size w ao ts) (hz' : kOu.In w.heap.size w bo ts) :
    Calls Tryd.prog 22 #[.slice ao ts.length cap, .slice bo ts.length cap'] w fun e w' => e = .returned (.bool true) ∧ Below w.heap.size w w' := by
  have hne : ((ts.length : Int) != (ts.length : Int)) = false := by simp
  go_enter Tryd.func22, Tryd.ntmps22
  go_wp2
  go_loopw [5] (fun i wr => ∃ k : Nat, k ≤ ts.length ∧ i = .int .i64 k ∧ Below w.heap.size w wr) (fun i _ => ts.length - (intOf i).toNat)
  case atStart => exact ⟨0, Nat.zero_le _, rfl, Below.refl _ _⟩
  case round =>
    obtain ⟨k, hk, rfl, hnx⟩ := hrel
    by_cases hlt : k < ts.length
    · obtain ⟨b, off, rfl, hb, hc⟩ := kOu_at hz hlt
      obtain ⟨b', off', rfl, hb', hc'⟩ := kOu_at hz' hlt
      have hck1 := (hnx.cell (p := ⟨b, off + k * 3, none⟩) hb).trans (hc k hlt).1
      have hck1' := (hnx.cell (p := ⟨b', off' + k * 3, none⟩) hb').trans (hc' k hlt).1
      have hck2 := (hnx.cell (p := ⟨b, off + k * 3 + 1, none⟩) hb).trans (hc k hlt).2.1
      have hck2' := (hnx.cell (p := ⟨b', off' + k * 3 + 1, none⟩) hb').trans (hc' k hlt).2.1
      have hck3 := (hnx.cell (p := ⟨b, off + k * 3 + 2, none⟩) hb).trans (hc k hlt).2.2
      have hck3' := (hnx.cell (p := ⟨b', off' + k * 3 + 2, none⟩) hb').trans (hc' k hlt).2.2
      clear hc hz hc' hz'
      obtain ⟨⟨x1, x2, x3⟩, ex⟩ : ∃ v, v = el ts k := ⟨_, rfl⟩
      rw [← ex] at hck1 hck1' hck2 hck2' hck3 hck3'
      clear ex
      dsimp only at hck1 hck1' hck2 hck2' hck3 hck3'
      go_wp2
      go_region_with (go_at_call 31; refine (eqOut_same x1 x2 x3 _).mono ?_; rintro e w1 ⟨rfl, hb1⟩)
      all_goals go_wp2
      all_goals
        have hb2 : Below wr.drew.heap.size wr.drew w1 := by assumption
        have hnb : Below w.heap.size w w1 := hnx.drew.trans (hb2.mono hnx.size)
        go_roundw
        case rel => exact ⟨k + 1, by omega, by go_num, hnb⟩
        case measure => simp [intOf]; omega
    · obtain rfl : k = ts.length := by omega
      go_wp2
      go_ret
      exact ⟨rfl, hnx⟩
/-- A row of Lost. -/
def kLo : Kind (Int × Int × Int × Int) := ⟨63, 32, 4, fun t => [.int .i64 t.1, .int .i64 t.2.1, .int .i64 t.2.2.1, .int .i64 t.2.2.2], fun _ => rfl, fun a v h => by simp at h; rcases h with rfl | rfl | rfl | rfl <;> rfl⟩
theorem Tryd.info63 : (Tryd.prog.info? 63).map (fun i => (i.zero, i.size, i.bytes)) = some (some (.agg #[.int .i64 0, .int .i64 0, .int .i64 0, .int .i64 0]), 4, 32) := by kernel_rfl
theorem kLo_ok : kLo.Ok := kind_ok (K := kLo) Tryd.underlying32 Tryd.info63 rfl (by decide) (by decide)
theorem kLo_at {n : Nat} {W : World} {ao : Option Addr} {ts : List (Int × Int × Int × Int)} (h : kLo.In n W ao ts) {k : Nat} (hk : k < ts.length) :
    ∃ b off, ao = some ⟨b, off, none⟩ ∧ b < n ∧ ∀ j, j < ts.length → W.cell? ⟨b, off + j * 4, none⟩ = some (.int .i64 (el ts j).1) ∧ W.cell? ⟨b, off + j * 4 + 1, none⟩ = some (.int .i64 (el ts j).2.1) ∧ W.cell? ⟨b, off + j * 4 + 2, none⟩ = some (.int .i64 (el ts j).2.2.1) ∧ W.cell? ⟨b, off + j * 4 + 3, none⟩ = some (.int .i64 (el ts j).2.2.2) := by
  obtain ⟨b, off, e, hb, hc⟩ := h.pos hk
  exact ⟨b, off, e, hb, fun j hj => ⟨hc j hj 0 (by decide), hc j hj 1 (by decide), hc j hj 2 (by decide), hc j hj 3 (by decide)⟩⟩
theorem kLo_one {n : Nat} {W : World} {p : Nat} {t : Int × Int × Int × Int} (hp : p < n) (h0 : W.cell? ⟨p, 0, none⟩ = some (.int .i64 t.1)) (h1 : W.cell? ⟨p, 1, none⟩ = some (.int .i64 t.2.1)) (h2 : W.cell? ⟨p, 2, none⟩ = some (.int .i64 t.2.2.1)) (h3 : W.cell? ⟨p, 3, none⟩ = some (.int .i64 t.2.2.2)) : kLo.In n W (some ⟨p, 0, none⟩) [t] := by
  refine Kind.In.mk1 hp fun i hi => ?_
  rw [Nat.zero_add]
  have hi' : i < 4 := hi
  rcases (show i = 0 ∨ i = 1 ∨ i = 2 ∨ i = 3 from by omega) with rfl | rfl | rfl | rfl
  · exact h0
  · exact h1
  · exact h2
  · exact h3
set_option maxHeartbeats 400000 in
theorem szLostS_any (a : Option Addr) (len cap : Nat) (L : Int) (w : World) (h0 : 0 ≤ L) (h1 : L ≤ 1048576) (hl : len ≤ 9223372036854775807) :
    Calls Tryd.prog 11 #[.slice a len cap, .int .i64 L] w fun e w' => (∃ r : Int, e = .returned (.int .i64 r) ∧ r ≤ 1048576 ∧ ((r < 0) ∨ (r = L - len ∧ 0 ≤ r))) ∧ w' = w := by
  go_enter Tryd.func11, Tryd.ntmps11
  go_wp2
  all_goals go_ret
  · exact ⟨⟨_, rfl, by omega, by omega⟩, rfl⟩
  · exact ⟨⟨_, rfl, by omega, by omega⟩, rfl⟩
set_option maxHeartbeats 400000 in
theorem toLost_any (x1 : Int) (x2 : Int) (x3 : Int) (x4 : Int) (w : World) :
    Calls Tryd.prog 28 #[.agg #[.int .i64 x1, .int .i64 x2, .int .i64 x3, .int .i64 x4]] w fun e w' => e = .returned (.agg #[.int .i64 x1, .int .i64 x2, .int .i64 x3, .int .i64 x4]) ∧ Below w.heap.size w w' := by
  go_enter Tryd.func28, Tryd.ntmps28
  go_wp2
  exact bodyPost_ret (v := .agg #[.int .i64 x1, .int .i64 x2, .int .i64 x3, .int .i64 x4]) (by simp [results, Tryd.results28, go_sem]) rfl ⟨rfl, below3 _ _ _ _⟩
set_option maxHeartbeats 2000000 in
theorem toLostS_any (ao : Option Addr) (cap : Nat) (ts : List (Int × Int × Int × Int)) (w : World) (hl : ts.length ≤ 1048576) (hz : kLo.In w.heap.size w ao ts) :
    Calls Tryd.prog 17 #[.slice ao ts.length cap] w fun e w' => e = .returned (.slice (some ⟨w.heap.size, 0, none⟩) ts.length ts.length) ∧ kLo.Fresh w.heap.size w'.heap.size w' (some ⟨w.heap.size, 0, none⟩) ts.length ts ∧ Below w.heap.size w w' := by
  obtain ⟨i0, hi, hz0, hz1, hz2⟩ := info_parts Tryd.info63
  go_enter Tryd.func17, Tryd.ntmps17
  go_wp2_with (at_make; refine wpList_make_full _ rfl _ _ 32 rfl w.heap.size 63 i0 (.agg #[.int .i64 0, .int .i64 0, .int .i64 0, .int .i64 0]) 4 Tryd.underlying32 hi hz0 hz1 .i64 .i64 _ _ ts.length rfl rfl rfl rfl (by rw [hz2]; omega) (by unfold maxLen; omega) (Nat.le_refl _) ?_; intro w1 hown hgrow)
  have hB1 : Below w.heap.size w w1 := (Below.refl _ _).grown hgrow (Nat.le_refl _) (fun k e => by cases e)
  have HO := show Hid _ from hown
  clear hown hgrow
  go_loopw [4] (fun i wr => ∃ (k : Nat) (xs : List Value), k ≤ ts.length ∧ i = .int .i64 k ∧ Hid (wr.ownsRow w.heap.size 63 4 (.slice (some ⟨w.heap.size, 0, none⟩) ts.length ts.length) ts.length xs ∧ ∀ j, j < k → xs[j * 4]? = some (.int .i64 (el ts j).1) ∧ xs[j * 4 + 1]? = some (.int .i64 (el ts j).2.1) ∧ xs[j * 4 + 2]? = some (.int .i64 (el ts j).2.2.1) ∧ xs[j * 4 + 3]? = some (.int .i64 (el ts j).2.2.2)) ∧ Below w.heap.size w wr) (fun i _ => ts.length - (intOf i).toNat)
  case atStart => exact ⟨0, _, Nat.zero_le _, rfl, ⟨HO.out, fun j hj => by omega⟩, hB1⟩
  case round =>
    obtain ⟨k, xs, hk, rfl, ho, hnx⟩ := hrel
    by_cases hlt : k < ts.length
    · obtain ⟨b, off, rfl, hb, hc⟩ := kLo_at hz hlt
      have d1 := (hnx.cell (p := ⟨b, off + k * 4, none⟩) hb).trans (hc k hlt).1
      have d2 := (hnx.cell (p := ⟨b, off + k * 4 + 1, none⟩) hb).trans (hc k hlt).2.1
      have d3 := (hnx.cell (p := ⟨b, off + k * 4 + 2, none⟩) hb).trans (hc k hlt).2.2.1
      have d4 := (hnx.cell (p := ⟨b, off + k * 4 + 3, none⟩) hb).trans (hc k hlt).2.2.2
      clear hc hz
      obtain ⟨⟨x1, x2, x3, x4⟩, ex⟩ : ∃ v, v = el ts k := ⟨_, rfl⟩
      rw [← ex] at d1 d2 d3 d4
      have HX : Hid (el ts k = (x1, x2, x3, x4)) := ex.symm
      clear ex
      dsimp only at d1 d2 d3 d4
      go_wp2_with fail
      refine (toLost_any x1 x2 x3 x4 _).mono ?_
      rintro e w2 ⟨rfl, hb2⟩
      have hxl : k * 4 + 3 < xs.length := by rw [ho.out.1.1]; omega
      have ho2 := ownsRow_below ho.out.1 hb2
      have hnb : Below w.heap.size w w2 := hnx.trans (hb2.mono hnx.size)
      have HO2 : Hid (w2.ownsRow w.heap.size 63 4 (.slice (some ⟨w.heap.size, 0, none⟩) ts.length ts.length) ts.length xs) := ho2
      have hst1 : w2.cell? ⟨w.heap.size, k * 4, none⟩ = some xs[k * 4] := (ho2.cellAt (k * 4) (by omega)).trans (by simp)
      have hfr1 : w2.frozen? ⟨w.heap.size, k * 4, none⟩ = false := ho2.frozenAt (k * 4)
      have hst2 : w2.cell? ⟨w.heap.size, k * 4 + 1, none⟩ = some xs[k * 4 + 1] := (ho2.cellAt (k * 4 + 1) (by omega)).trans (by simp)
      have hfr2 : w2.frozen? ⟨w.heap.size, k * 4 + 1, none⟩ = false := ho2.frozenAt (k * 4 + 1)
      have hst3 : w2.cell? ⟨w.heap.size, k * 4 + 2, none⟩ = some xs[k * 4 + 2] := (ho2.cellAt (k * 4 + 2) (by omega)).trans (by simp)
      have hfr3 : w2.frozen? ⟨w.heap.size, k * 4 + 2, none⟩ = false := ho2.frozenAt (k * 4 + 2)
      have hst4 : w2.cell? ⟨w.heap.size, k * 4 + 3, none⟩ = some xs[k * 4 + 3] := (ho2.cellAt (k * 4 + 3) (by omega)).trans (by simp)
      have hfr4 : w2.frozen? ⟨w.heap.size, k * 4 + 3, none⟩ = false := ho2.frozenAt (k * 4 + 3)
      clear ho2
      go_wp2
      go_roundw
      case rel => exact ⟨k + 1, ((((xs.set (k * 4) (.int .i64 x1)).set (k * 4 + 1) (.int .i64 x2)).set (k * 4 + 2) (.int .i64 x3)).set (k * 4 + 3) (.int .i64 x4)), by omega, by go_num, ⟨((((World.ownsRow.stored HO2.out (k * 4) _).1.stored (k * 4 + 1) _).1.stored (k * 4 + 2) _).1.stored (k * 4 + 3) _).1, fun j hj => by
          rcases Nat.lt_succ_iff_lt_or_eq.1 hj with h | rfl
          · refine ⟨?_, ?_, ?_, ?_⟩
            · rw [set_far (by omega), set_far (by omega), set_far (by omega), set_far (by omega)]; exact (ho.out.2 j h).1
            · rw [set_far (by omega), set_far (by omega), set_far (by omega), set_far (by omega)]; exact (ho.out.2 j h).2.1
            · rw [set_far (by omega), set_far (by omega), set_far (by omega), set_far (by omega)]; exact (ho.out.2 j h).2.2.1
            · rw [set_far (by omega), set_far (by omega), set_far (by omega), set_far (by omega)]; exact (ho.out.2 j h).2.2.2
          · refine ⟨?_, ?_, ?_, ?_⟩
            · rw [set_far (by omega), set_far (by omega), set_far (by omega), set_at (by first | omega | (simp only [List.length_set]; omega))]; rw [HX.out]
            · rw [set_far (by omega), set_far (by omega), set_at (by first | omega | (simp only [List.length_set]; omega))]; rw [HX.out]
            · rw [set_far (by omega), set_at (by first | omega | (simp only [List.length_set]; omega))]; rw [HX.out]
            · rw [set_at (by first | omega | (simp only [List.length_set]; omega))]; rw [HX.out]⟩, ((((hnb.setCell (p := ⟨w.heap.size, k * 4, none⟩) (Nat.le_refl _) _).setCell (p := ⟨w.heap.size, k * 4 + 1, none⟩) (Nat.le_refl _) _).setCell (p := ⟨w.heap.size, k * 4 + 2, none⟩) (Nat.le_refl _) _).setCell (p := ⟨w.heap.size, k * 4 + 3, none⟩) (Nat.le_refl _) _)⟩
      case measure => simp [intOf]; omega
    · obtain rfl : k = ts.length := by omega
      have hxs : xs = kLo.flat ts := by
        refine kLo.flat_of xs ts ho.out.1.1 fun j hj i hi => ?_
        have hi' : i < 4 := hi
        rcases (show i = 0 ∨ i = 1 ∨ i = 2 ∨ i = 3 from by omega) with rfl | rfl | rfl | rfl
        · exact (ho.out.2 j hj).1
        · exact (ho.out.2 j hj).2.1
        · exact (ho.out.2 j hj).2.2.1
        · exact (ho.out.2 j hj).2.2.2
      subst hxs
      go_wp2
      go_ret
      exact ⟨rfl, .inr ⟨w.heap.size, rfl, (owns_lt ho.out.1).2, ho.out.1⟩, hnx⟩
set_option maxHeartbeats 1000000 in
theorem eqLost_same (x1 : Int) (x2 : Int) (x3 : Int) (x4 : Int) (w : World) :
    Calls Tryd.prog 32 #[.agg #[.int .i64 x1, .int .i64 x2, .int .i64 x3, .int .i64 x4], .agg #[.int .i64 x1, .int .i64 x2, .int .i64 x3, .int .i64 x4]] w fun e w' => e = .returned (.bool true) ∧ Below w.heap.size w w' := by
  have h1 : (x1 != x1) = false := by simp
  have h2 : (x2 != x2) = false := by simp
  have h3 : (x3 != x3) = false := by simp
  have h4 : (x4 != x4) = false := by simp
  go_enter Tryd.func32, Tryd.ntmps32
  go_wp2
  go_ret
  exact ⟨rfl, below2 _ _ _⟩
set_option maxHeartbeats 1000000 in
theorem eqLostS_same (ao bo : Option Addr) (cap cap' : Nat) (ts : List (Int × Int × Int × Int)) (w : World) (hl : ts.length ≤ 1048576) (hz : kLo.In w.heap.size w ao ts) (hz' : kLo.In w.heap.size w bo ts) :
    Calls Tryd.prog 23 #[.slice ao ts.length cap, .slice bo ts.length cap'] w fun e w' => e = .returned (.bool true) ∧ Below w.heap.size w w' := by
  have hne : ((ts.length : Int) != (ts.length : Int)) = false := by simp
  go_enter Tryd.func23, Tryd.ntmps23
  go_wp2
  go_loopw [5] (fun i wr => ∃ k : Nat, k ≤ ts.length ∧ i = .int .i64 k ∧ Below w.heap.size w wr) (fun i _ => ts.length - (intOf i).toNat)
  case atStart => exact ⟨0, Nat.zero_le _, rfl, Below.refl _ _⟩
  case round =>
    obtain ⟨k, hk, rfl, hnx⟩ := hrel
    by_cases hlt : k < ts.length
    · obtain ⟨b, off, rfl, hb, hc⟩ := kLo_at hz hlt
      obtain ⟨b', off', rfl, hb', hc'⟩ := kLo_at hz' hlt
      have hck1 := (hnx.cell (p := ⟨b, off + k * 4, none⟩) hb).trans (hc k hlt).1
      have hck1' := (hnx.cell (p := ⟨b', off' + k * 4, none⟩) hb').trans (hc' k hlt).1
      have hck2 := (hnx.cell (p := ⟨b, off + k * 4 + 1, none⟩) hb).trans (hc k hlt).2.1
      have hck2' := (hnx.cell (p := ⟨b', off' + k * 4 + 1, none⟩) hb').trans (hc' k hlt).2.1
      have hck3 := (hnx.cell (p := ⟨b, off + k * 4 + 2, none⟩) hb).trans (hc k hlt).2.2.1
      have hck3' := (hnx.cell (p := ⟨b', off' + k * 4 + 2, none⟩) hb').trans (hc' k hlt).2.2.1
      have hck4 := (hnx.cell (p := ⟨b, off + k * 4 + 3, none⟩) hb).trans (hc k hlt).2.2.2
      have hck4' := (hnx.cell (p := ⟨b', off' + k * 4 + 3, none⟩) hb').trans (hc' k hlt).2.2.2
      clear hc hz hc' hz'
      obtain ⟨⟨x1, x2, x3, x4⟩, ex⟩ : ∃ v, v = el ts k := ⟨_, rfl⟩
      rw [← ex] at hck1 hck1' hck2 hck2' hck3 hck3' hck4 hck4'
      clear ex
      dsimp only at hck1 hck1' hck2 hck2' hck3 hck3' hck4 hck4'
      go_wp2
      go_region_with (go_at_call 32; refine (eqLost_same x1 x2 x3 x4 _).mono ?_; rintro e w1 ⟨rfl, hb1⟩)
      all_goals go_wp2
      all_goals
        have hb2 : Below wr.drew.heap.size wr.drew w1 := by assumption
        have hnb : Below w.heap.size w w1 := hnx.drew.trans (hb2.mono hnx.size)
        go_roundw
        case rel => exact ⟨k + 1, by omega, by go_num, hnb⟩
        case measure => simp [intOf]; omega
    · obtain rfl : k = ts.length := by omega
      go_wp2
      go_ret
      exact ⟨rfl, hnx⟩
end Go.Proofs.YtjdcaommbibkaaaDoor
