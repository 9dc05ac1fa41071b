/- Rows of tokens, of outs, of losts: sizes, copies, comparisons. No conditions but those written. Rows of rows of tokens: sizes, copies, comparisons. No conditions but those written. Putting behind a row: where the row lies then. No conditions but those written. Hands: rows of tokens of their own behind one row of heads. No conditions but those written. -/
import Derived.Test.YtoeonbdoopboiaaGreatDoorPGenBx
namespace Go.Proofs.YtoeonbdoopboiaaGreatDoor
section
open Go.RowKit

theorem set_far {xs : List Value} {p q : Nat} {u : Value} (h : p ≠ q) : (xs.set p u)[q]? = xs[q]? := by rw [List.getElem?_set, if_neg h]
theorem set_at {xs : List Value} {p : Nat} {u : Value} (h : p < xs.length) : (xs.set p u)[p]? = some u := by rw [List.getElem?_set, if_pos rfl, if_pos h]
theorem Kind.Fresh.setOff {α : Type} {K : Kind α} {lo hi : Nat} {W : World} {qo : Option Addr} {qc : Nat} {q : List α} (h : K.Fresh lo hi W qo qc q) {a : Addr} (ha : a.block < lo ∨ hi ≤ a.block) (u : Value) : K.Fresh lo hi (W.setCell a u) qo qc q := h.keep fun k h1 h2 _ => Below.heap_setCell W a u k (by omega)
theorem Kind.Fresh.notNew {α : Type} {K : Kind α} {lo hi : Nat} {W : World} {qo : Option Addr} {qc : Nat} {q : List α} (h : K.Fresh lo hi W qo qc q) {g : Nat} (e : eff qo q.length = some ⟨g, 0, none⟩) : W.heap.size ≠ g := by
  rcases h with rfl | ⟨g2, e2, hg, ho⟩
  · simp [eff] at e
  · unfold eff at e
    split at e
    · cases e
    · rw [e2] at e; simp at e; subst e
      have := (owns_lt ho).2; omega
/-- A row of Token. -/
def kTk : Kind (Int × Int × Int) := ⟨104, 102, 3, fun t => [.int .i64 t.1, .int .i64 t.2.1, .int .i64 t.2.2], fun _ => rfl, fun a v h => by simp at h; rcases h with rfl | rfl | rfl <;> rfl⟩
theorem Tryz.info104 : (Tryz.prog.info? 104).map (fun i => (i.zero, i.size, i.bytes)) = some (some (.agg #[.int .i64 0, .int .i64 0, .int .i64 0]), 3, 24) := by kernel_rfl
theorem kTk_ok : kTk.Ok := kind_ok (K := kTk) Tryz.underlying102 Tryz.info104 rfl (by decide) (by decide)
theorem kTk_at {n : Nat} {W : World} {ao : Option Addr} {ts : List (Int × Int × Int)} (h : kTk.In n W ao ts) {k : Nat} (hk : k < ts.length) :
    ∃ b off, ao = some ⟨b, off, none⟩ ∧ b < n ∧ ∀ j, j < ts.length → W.cell? ⟨b, off + j * 3, none⟩ = some (.int .i64 (el ts j).1) ∧ W.cell? ⟨b, off + j * 3 + 1, none⟩ = some (.int .i64 (el ts j).2.1) ∧ W.cell? ⟨b, off + j * 3 + 2, none⟩ = some (.int .i64 (el ts j).2.2) := by
  obtain ⟨b, off, e, hb, hc⟩ := h.pos hk
  exact ⟨b, off, e, hb, fun j hj => ⟨hc j hj 0 (by decide), hc j hj 1 (by decide), hc j hj 2 (by decide)⟩⟩
theorem kTk_one {n : Nat} {W : World} {p : Nat} {t : Int × Int × Int} (hp : p < n) (h0 : W.cell? ⟨p, 0, none⟩ = some (.int .i64 t.1)) (h1 : W.cell? ⟨p, 1, none⟩ = some (.int .i64 t.2.1)) (h2 : W.cell? ⟨p, 2, none⟩ = some (.int .i64 t.2.2)) : kTk.In n W (some ⟨p, 0, none⟩) [t] := by
  refine Kind.In.mk1 hp fun i hi => ?_
  rw [Nat.zero_add]
  have hi' : i < 3 := hi
  rcases (show i = 0 ∨ i = 1 ∨ i = 2 from by omega) with rfl | rfl | rfl
  · exact h0
  · exact h1
  · exact h2
set_option maxHeartbeats 1000000 in
theorem eqToken_same (x1 : Int) (x2 : Int) (x3 : Int) (w : World) :
    Calls Tryz.prog 97 #[.agg #[.int .i64 x1, .int .i64 x2, .int .i64 x3], .agg #[.int .i64 x1, .int .i64 x2, .int .i64 x3]] w fun e w' => e = .returned (.bool true) ∧ Below w.heap.size w w' := by
  have h1 : (x1 != x1) = false := by simp
  have h2 : (x2 != x2) = false := by simp
  have h3 : (x3 != x3) = false := by simp
  go_enter Tryz.func97, Tryz.ntmps97
  go_wp2
  go_ret
  exact ⟨rfl, below2 _ _ _⟩
set_option maxHeartbeats 1000000 in
theorem eqTokenS_same (ao bo : Option Addr) (cap cap' : Nat) (ts : List (Int × Int × Int)) (w : World) (hl : ts.length ≤ 1048576) (hz : kTk.In w.heap.size w ao ts) (hz' : kTk.In w.heap.size w bo ts) :
    Calls Tryz.prog 70 #[.slice ao ts.length cap, .slice bo ts.length cap'] w fun e w' => e = .returned (.bool true) ∧ Below w.heap.size w w' := by
  have hne : ((ts.length : Int) != (ts.length : Int)) = false := by simp
  go_enter Tryz.func70, Tryz.ntmps70
  go_wp2
  go_loopw [5] (fun i wr => ∃ k : Nat, k ≤ ts.length ∧ i = .int .i64 k ∧ Below w.heap.size w wr) (fun i _ => ts.length - (intOf i).toNat)
  case atStart => exact ⟨0, Nat.zero_le _, rfl, Below.refl _ _⟩
  case round =>
    obtain ⟨k, hk, rfl, hnx⟩ := hrel
    by_cases hlt : k < ts.length
    · obtain ⟨b, off, rfl, hb, hc⟩ := kTk_at hz hlt
      obtain ⟨b', off', rfl, hb', hc'⟩ := kTk_at hz' hlt
      have hck1 := (hnx.cell (p := ⟨b, off + k * 3, none⟩) hb).trans (hc k hlt).1
      have hck1' := (hnx.cell (p := ⟨b', off' + k * 3, none⟩) hb').trans (hc' k hlt).1
      have hck2 := (hnx.cell (p := ⟨b, off + k * 3 + 1, none⟩) hb).trans (hc k hlt).2.1
      have hck2' := (hnx.cell (p := ⟨b', off' + k * 3 + 1, none⟩) hb').trans (hc' k hlt).2.1
      have hck3 := (hnx.cell (p := ⟨b, off + k * 3 + 2, none⟩) hb).trans (hc k hlt).2.2
      have hck3' := (hnx.cell (p := ⟨b', off' + k * 3 + 2, none⟩) hb').trans (hc' k hlt).2.2
      clear hc hz hc' hz'
      obtain ⟨⟨x1, x2, x3⟩, ex⟩ : ∃ v, v = el ts k := ⟨_, rfl⟩
      rw [← ex] at hck1 hck1' hck2 hck2' hck3 hck3'
      clear ex
      dsimp only at hck1 hck1' hck2 hck2' hck3 hck3'
      go_wp2
      go_region_with (go_at_call 97; refine (eqToken_same x1 x2 x3 _).mono ?_; rintro e w1 ⟨rfl, hb1⟩)
      all_goals go_wp2
      all_goals
        have hb2 : Below wr.drew.heap.size wr.drew w1 := by assumption
        have hnb : Below w.heap.size w w1 := hnx.drew.trans (hb2.mono hnx.size)
        go_roundw
        case rel => exact ⟨k + 1, by omega, by go_num, hnb⟩
        case measure => simp [intOf]; omega
    · obtain rfl : k = ts.length := by omega
      go_wp2
      go_ret
      exact ⟨rfl, hnx⟩
/-- A row of Out. -/
def kOu : Kind (Int × Int × Int) := ⟨99, 27, 3, fun t => [.int .i64 t.1, .int .i64 t.2.1, .int .i64 t.2.2], fun _ => rfl, fun a v h => by simp at h; rcases h with rfl | rfl | rfl <;> rfl⟩
theorem Tryz.info99 : (Tryz.prog.info? 99).map (fun i => (i.zero, i.size, i.bytes)) = some (some (.agg #[.int .i64 0, .int .i64 0, .int .i64 0]), 3, 24) := by kernel_rfl
theorem kOu_ok : kOu.Ok := kind_ok (K := kOu) Tryz.underlying27 Tryz.info99 rfl (by decide) (by decide)
theorem kOu_at {n : Nat} {W : World} {ao : Option Addr} {ts : List (Int × Int × Int)} (h : kOu.In n W ao ts) {k : Nat} (hk : k < ts.length) :
    ∃ b off, ao = some ⟨b, off, none⟩ ∧ b < n ∧ ∀ j, j < ts.length → W.cell? ⟨b, off + j * 3, none⟩ = some (.int .i64 (el ts j).1) ∧ W.cell? ⟨b, off + j * 3 + 1, none⟩ = some (.int .i64 (el ts j).2.1) ∧ W.cell? ⟨b, off + j * 3 + 2, none⟩ = some (.int .i64 (el ts j).2.2) := by
  obtain ⟨b, off, e, hb, hc⟩ := h.pos hk
  exact ⟨b, off, e, hb, fun j hj => ⟨hc j hj 0 (by decide), hc j hj 1 (by decide), hc j hj 2 (by decide)⟩⟩
theorem kOu_one {n : Nat} {W : World} {p : Nat} {t : Int × Int × Int} (hp : p < n) (h0 : W.cell? ⟨p, 0, none⟩ = some (.int .i64 t.1)) (h1 : W.cell? ⟨p, 1, none⟩ = some (.int .i64 t.2.1)) (h2 : W.cell? ⟨p, 2, none⟩ = some (.int .i64 t.2.2)) : kOu.In n W (some ⟨p, 0, none⟩) [t] := by
  refine Kind.In.mk1 hp fun i hi => ?_
  rw [Nat.zero_add]
  have hi' : i < 3 := hi
  rcases (show i = 0 ∨ i = 1 ∨ i = 2 from by omega) with rfl | rfl | rfl
  · exact h0
  · exact h1
  · exact h2
set_option maxHeartbeats 1000000 in
theorem eqOut_same (x1 : Int) (x2 : Int) (x3 : Int) (w : World) :
    Calls Tryz.prog 71 #[.agg #[.int .i64 x1, .int .i64 x2, .int .i64 x3], .agg #[.int .i64 x1, .int .i64 x2, .int .i64 x3]] w fun e w' => e = .returned (.bool true) ∧ Below w.heap.size w w' := by
  have h1 : (x1 != x1) = false := by simp
  have h2 : (x2 != x2) = false := by simp
  have h3 : (x3 != x3) = false := by simp
  go_enter Tryz.func71, Tryz.ntmps71
  go_wp2
  go_ret
  exact ⟨rfl, below2 _ _ _⟩
set_option maxHeartbeats 1000000 in
theorem eqOutS_same (ao bo : Option Addr) (cap cap' : Nat) (ts : List (Int × Int × Int)) (w : World) (hl : ts.length ≤ 1048576) (hz : kOu.In w.heap.size w ao ts) (hz' : kOu.In w.heap.size w bo ts) :
    Calls Tryz.prog 42 #[.slice ao ts.length cap, .slice bo ts.length cap'] w fun e w' => e = .returned (.bool true) ∧ Below w.heap.size w w' := by
  have hne : ((ts.length : Int) != (ts.length : Int)) = false := by simp
  go_enter Tryz.func42, Tryz.ntmps42
  go_wp2
  go_loopw [5] (fun i wr => ∃ k : Nat, k ≤ ts.length ∧ i = .int .i64 k ∧ Below w.heap.size w wr) (fun i _ => ts.length - (intOf i).toNat)
  case atStart => exact ⟨0, Nat.zero_le _, rfl, Below.refl _ _⟩
  case round =>
    obtain ⟨k, hk, rfl, hnx⟩ := hrel
    by_cases hlt : k < ts.length
    · obtain ⟨b, off, rfl, hb, hc⟩ := kOu_at hz hlt
      obtain ⟨b', off', rfl, hb', hc'⟩ := kOu_at hz' hlt
      have hck1 := (hnx.cell (p := ⟨b, off + k * 3, none⟩) hb).trans (hc k hlt).1
      have hck1' := (hnx.cell (p := ⟨b', off' + k * 3, none⟩) hb').trans (hc' k hlt).1
      have hck2 := (hnx.cell (p := ⟨b, off + k * 3 + 1, none⟩) hb).trans (hc k hlt).2.1
      have hck2' := (hnx.cell (p := ⟨b', off' + k * 3 + 1, none⟩) hb').trans (hc' k hlt).2.1
      have hck3 := (hnx.cell (p := ⟨b, off + k * 3 + 2, none⟩) hb).trans (hc k hlt).2.2
      have hck3' := (hnx.cell (p := ⟨b', off' + k * 3 + 2, none⟩) hb').trans (hc' k hlt).2.2
      clear hc hz hc' hz'
      obtain ⟨⟨x1, x2, x3⟩, ex⟩ : ∃ v, v = el ts k := ⟨_, rfl⟩
      rw [← ex] at hck1 hck1' hck2 hck2' hck3 hck3'
      clear ex
      dsimp only at hck1 hck1' hck2 hck2' hck3 hck3'
      go_wp2
      go_region_with (go_at_call 71; refine (eqOut_same x1 x2 x3 _).mono ?_; rintro e w1 ⟨rfl, hb1⟩)
      all_goals go_wp2
      all_goals
        have hb2 : Below wr.drew.heap.size wr.drew w1 := by assumption
        have hnb : Below w.heap.size w w1 := hnx.drew.trans (hb2.mono hnx.size)
        go_roundw
        case rel => exact ⟨k + 1, by omega, by go_num, hnb⟩
        case measure => simp [intOf]; omega
    · obtain rfl : k = ts.length := by omega
      go_wp2
      go_ret
      exact ⟨rfl, hnx⟩
/-- A row of Lost. -/
def kLo : Kind (Int × Int × Int × Int) := ⟨107, 28, 4, fun t => [.int .i64 t.1, .int .i64 t.2.1, .int .i64 t.2.2.1, .int .i64 t.2.2.2], fun _ => rfl, fun a v h => by simp at h; rcases h with rfl | rfl | rfl | rfl <;> rfl⟩
theorem Tryz.info107 : (Tryz.prog.info? 107).map (fun i => (i.zero, i.size, i.bytes)) = some (some (.agg #[.int .i64 0, .int .i64 0, .int .i64 0, .int .i64 0]), 4, 32) := by kernel_rfl
theorem kLo_ok : kLo.Ok := kind_ok (K := kLo) Tryz.underlying28 Tryz.info107 rfl (by decide) (by decide)
theorem kLo_at {n : Nat} {W : World} {ao : Option Addr} {ts : List (Int × Int × Int × Int)} (h : kLo.In n W ao ts) {k : Nat} (hk : k < ts.length) :
    ∃ b off, ao = some ⟨b, off, none⟩ ∧ b < n ∧ ∀ j, j < ts.length → W.cell? ⟨b, off + j * 4, none⟩ = some (.int .i64 (el ts j).1) ∧ W.cell? ⟨b, off + j * 4 + 1, none⟩ = some (.int .i64 (el ts j).2.1) ∧ W.cell? ⟨b, off + j * 4 + 2, none⟩ = some (.int .i64 (el ts j).2.2.1) ∧ W.cell? ⟨b, off + j * 4 + 3, none⟩ = some (.int .i64 (el ts j).2.2.2) := by
  obtain ⟨b, off, e, hb, hc⟩ := h.pos hk
  exact ⟨b, off, e, hb, fun j hj => ⟨hc j hj 0 (by decide), hc j hj 1 (by decide), hc j hj 2 (by decide), hc j hj 3 (by decide)⟩⟩
theorem kLo_one {n : Nat} {W : World} {p : Nat} {t : Int × Int × Int × Int} (hp : p < n) (h0 : W.cell? ⟨p, 0, none⟩ = some (.int .i64 t.1)) (h1 : W.cell? ⟨p, 1, none⟩ = some (.int .i64 t.2.1)) (h2 : W.cell? ⟨p, 2, none⟩ = some (.int .i64 t.2.2.1)) (h3 : W.cell? ⟨p, 3, none⟩ = some (.int .i64 t.2.2.2)) : kLo.In n W (some ⟨p, 0, none⟩) [t] := by
  refine Kind.In.mk1 hp fun i hi => ?_
  rw [Nat.zero_add]
  have hi' : i < 4 := hi
  rcases (show i = 0 ∨ i = 1 ∨ i = 2 ∨ i = 3 from by omega) with rfl | rfl | rfl | rfl
  · exact h0
  · exact h1
  · exact h2
  · exact h3
set_option maxHeartbeats 1000000 in
theorem eqLost_same (x1 : Int) (x2 : Int) (x3 : Int) (x4 : Int) (w : World) :
    Calls Tryz.prog 72 #[.agg #[.int .i64 x1, .int .i64 x2, .int .i64 x3, .int .i64 x4], .agg #[.int .i64 x1, .int .i64 x2, .int .i64 x3, .int .i64 x4]] w fun e w' => e = .returned (.bool true) ∧ Below w.heap.size w w' := by
  have h1 : (x1 != x1) = false := by simp
  have h2 : (x2 != x2) = false := by simp
  have h3 : (x3 != x3) = false := by simp
  have h4 : (x4 != x4) = false := by simp
  go_enter Tryz.func72, Tryz.ntmps72
  go_wp2
  go_ret
  exact ⟨rfl, below2 _ _ _⟩
set_option maxHeartbeats 1000000 in
theorem eqLostS_same (ao bo : Option Addr) (cap cap' : Nat) (ts : List (Int × Int × Int × Int)) (w : World) (hl : ts.length ≤ 1048576) (hz : kLo.In w.heap.size w ao ts) (hz' : kLo.In w.heap.size w bo ts) :
    Calls Tryz.prog 43 #[.slice ao ts.length cap, .slice bo ts.length cap'] w fun e w' => e = .returned (.bool true) ∧ Below w.heap.size w w' := by
  have hne : ((ts.length : Int) != (ts.length : Int)) = false := by simp
  go_enter Tryz.func43, Tryz.ntmps43
  go_wp2
  go_loopw [5] (fun i wr => ∃ k : Nat, k ≤ ts.length ∧ i = .int .i64 k ∧ Below w.heap.size w wr) (fun i _ => ts.length - (intOf i).toNat)
  case atStart => exact ⟨0, Nat.zero_le _, rfl, Below.refl _ _⟩
  case round =>
    obtain ⟨k, hk, rfl, hnx⟩ := hrel
    by_cases hlt : k < ts.length
    · obtain ⟨b, off, rfl, hb, hc⟩ := kLo_at hz hlt
      obtain ⟨b', off', rfl, hb', hc'⟩ := kLo_at hz' hlt
      have hck1 := (hnx.cell (p := ⟨b, off + k * 4, none⟩) hb).trans (hc k hlt).1
      have hck1' := (hnx.cell (p := ⟨b', off' + k * 4, none⟩) hb').trans (hc' k hlt).1
      have hck2 := (hnx.cell (p := ⟨b, off + k * 4 + 1, none⟩) hb).trans (hc k hlt).2.1
      have hck2' := (hnx.cell (p := ⟨b', off' + k * 4 + 1, none⟩) hb').trans (hc' k hlt).2.1
      have hck3 := (hnx.cell (p := ⟨b, off + k * 4 + 2, none⟩) hb).trans (hc k hlt).2.2.1
      have hck3' := (hnx.cell (p := ⟨b', off' + k * 4 + 2, none⟩) hb').trans (hc' k hlt).2.2.1
      have hck4 := (hnx.cell (p := ⟨b, off + k * 4 + 3, none⟩) hb).trans (hc k hlt).2.2.2
      have hck4' := (hnx.cell (p := ⟨b', off' + k * 4 + 3, none⟩) hb').trans (hc' k hlt).2.2.2
      clear hc hz hc' hz'
      obtain ⟨⟨x1, x2, x3, x4⟩, ex⟩ : ∃ v, v = el ts k := ⟨_, rfl⟩
      rw [← ex] at hck1 hck1' hck2 hck2' hck3 hck3' hck4 hck4'
      clear ex
      dsimp only at hck1 hck1' hck2 hck2' hck3 hck3' hck4 hck4'
      go_wp2
      go_region_with (go_at_call 72; refine (eqLost_same x1 x2 x3 x4 _).mono ?_; rintro e w1 ⟨rfl, hb1⟩)
      all_goals go_wp2
      all_goals
        have hb2 : Below wr.drew.heap.size wr.drew w1 := by assumption
        have hnb : Below w.heap.size w w1 := hnx.drew.trans (hb2.mono hnx.size)
        go_roundw
        case rel => exact ⟨k + 1, by omega, by go_num, hnb⟩
        case measure => simp [intOf]; omega
    · obtain rfl : k = ts.length := by omega
      go_wp2
      go_ret
      exact ⟨rfl, hnx⟩
end
section
open Go.RowKit

/-- A row of slices: where each begins, its length, its room. -/
def kRT : Kind (Option Addr × Nat × Nat) := ⟨102, 26, 1, fun t => [.slice t.1 t.2.1 t.2.2], fun _ => rfl, fun a v h => by simp at h; subst h; rfl⟩
theorem Tryz.info102 : (Tryz.prog.info? 102).map (fun i => (i.zero, i.size, i.bytes)) = some (some (.slice none 0 0), 1, 24) := by kernel_rfl
theorem kRT_ok : kRT.Ok := kind_ok (K := kRT) Tryz.underlying26 Tryz.info102 rfl (by decide) (by decide)
theorem kRT_at {n : Nat} {W : World} {ao : Option Addr} {hs : List (Option Addr × Nat × Nat)} (h : kRT.In n W ao hs) {k : Nat} (hk : k < hs.length) :
    ∃ b off, ao = some ⟨b, off, none⟩ ∧ b < n ∧ ∀ j, j < hs.length → W.cell? ⟨b, off + j, none⟩ = some (.slice (el hs j).1 (el hs j).2.1 (el hs j).2.2) := by
  obtain ⟨b, off, e, hb, hc⟩ := h.pos hk
  refine ⟨b, off, e, hb, fun j hj => ?_⟩
  have := hc j hj 0 (by decide)
  simpa [kRT] using this
/-- The rows ls lie below n; their heads hs lie at ao. -/
def InRT (n : Nat) (W : World) (ao : Option Addr) (hs : List (Option Addr × Nat × Nat)) (ls : List (List (Int × Int × Int))) : Prop :=
  kRT.In n W ao hs ∧ hs.length = ls.length ∧ ∀ j, j < ls.length → (el hs j).2.1 = (el ls j).length ∧ kTk.In n W (el hs j).1 (el ls j)
theorem InRT.below {n : Nat} {W W' : World} {ao : Option Addr} {hs : List (Option Addr × Nat × Nat)} {ls : List (List (Int × Int × Int))} (h : InRT n W ao hs ls) (hb : Below n W W') : InRT n W' ao hs ls :=
  ⟨h.1.below hb, h.2.1, fun j hj => ⟨(h.2.2 j hj).1, (h.2.2 j hj).2.below hb⟩⟩
theorem InRT.up {n m : Nat} {W : World} {ao : Option Addr} {hs : List (Option Addr × Nat × Nat)} {ls : List (List (Int × Int × Int))} (h : InRT n W ao hs ls) (hm : n ≤ m) : InRT m W ao hs ls :=
  ⟨h.1.up hm, h.2.1, fun j hj => ⟨(h.2.2 j hj).1, (h.2.2 j hj).2.up hm⟩⟩
theorem InRT.later {W W' : World} {ao : Option Addr} {hs : List (Option Addr × Nat × Nat)} {ls : List (List (Int × Int × Int))} (h : InRT W.heap.size W ao hs ls) (hb : Below W.heap.size W W') : InRT W'.heap.size W' ao hs ls := (h.below hb).up hb.size
theorem InRT.nil (n : Nat) (W : World) (ao : Option Addr) : InRT n W ao [] [] := ⟨.inl rfl, rfl, fun j hj => by simp at hj⟩
/-- One of the heads, and its row. -/
theorem InRT.at {n : Nat} {W : World} {ao : Option Addr} {hs : List (Option Addr × Nat × Nat)} {ls : List (List (Int × Int × Int))} (h : InRT n W ao hs ls) {k : Nat} (hk : k < ls.length) :
    ∃ b off o c, ao = some ⟨b, off, none⟩ ∧ b < n ∧ W.cell? ⟨b, off + k, none⟩ = some (.slice o (el ls k).length c) ∧ el hs k = (o, (el ls k).length, c) ∧ kTk.In n W o (el ls k) := by
  obtain ⟨b, off, e, hb, hc⟩ := kRT_at h.1 (k := k) (by rw [h.2.1]; exact hk)
  obtain ⟨h1, h2⟩ := h.2.2 k hk
  refine ⟨b, off, (el hs k).1, (el hs k).2.2, e, hb, ?_, ?_, h2⟩
  · rw [hc k (by rw [h.2.1]; exact hk), h1]
  · rw [← h1]
/-- The rows ls are of their own, from lo on and before hi, apart from one another; their heads hs too. -/
def FrRT (lo hi : Nat) (W : World) (ao : Option Addr) (c : Nat) (hs : List (Option Addr × Nat × Nat)) (ls : List (List (Int × Int × Int))) : Prop :=
  kRT.Fresh lo hi W ao c hs ∧ hs.length = ls.length ∧ (∀ j, j < ls.length → (el hs j).2.1 = (el ls j).length ∧ kTk.Fresh lo hi W (el hs j).1 (el hs j).2.2 (el ls j)) ∧
    (∀ i j, i < j → j < ls.length → Off (el hs i).1 (el ls i).length (el hs j).1 (el ls j).length)
section
variable {lo hi : Nat} {W W' : World} {ao : Option Addr} {c : Nat} {hs : List (Option Addr × Nat × Nat)} {ls : List (List (Int × Int × Int))}
theorem FrRT.in (h : FrRT lo hi W ao c hs ls) : InRT W.heap.size W ao hs ls := ⟨h.1.in, h.2.1, fun j hj => ⟨(h.2.2.1 j hj).1, (h.2.2.1 j hj).2.in⟩⟩
theorem FrRT.keep (h : FrRT lo hi W ao c hs ls) (hk : ∀ k, lo ≤ k → k < hi → k < W.heap.size → W'.heap[k]? = W.heap[k]?) : FrRT lo hi W' ao c hs ls :=
  ⟨h.1.keep hk, h.2.1, fun j hj => ⟨(h.2.2.1 j hj).1, (h.2.2.1 j hj).2.keep hk⟩, h.2.2.2⟩
theorem FrRT.later (h : FrRT lo hi W ao c hs ls) (hb : Below W.heap.size W W') : FrRT lo hi W' ao c hs ls := h.keep fun k _ _ hk => hb.block k hk
theorem FrRT.wide {lo' hi' : Nat} (h : FrRT lo hi W ao c hs ls) (h1 : lo' ≤ lo) (h2 : hi ≤ hi') : FrRT lo' hi' W ao c hs ls :=
  ⟨h.1.wide h1 h2, h.2.1, fun j hj => ⟨(h.2.2.1 j hj).1, (h.2.2.1 j hj).2.wide h1 h2⟩, h.2.2.2⟩
theorem FrRT.between' {lo' hi' : Nat} (h : FrRT lo hi W ao c hs ls) (hb : Between lo' hi' W W') (hd : hi ≤ lo' ∨ hi' ≤ lo) : FrRT lo hi W' ao c hs ls :=
  h.keep fun k h1 h2 h3 => hb.block k h3 (by omega)
theorem FrRT.nil (lo hi : Nat) (W : World) (ao : Option Addr) (c : Nat) : FrRT lo hi W ao c [] [] := ⟨.inl rfl, rfl, fun j hj => by simp at hj, fun i j _ hj => by simp at hj⟩
/-- One of the rows is written. -/
theorem FrRT.set {k : Nat} {x : List (Int × Int × Int)} (h : FrRT lo hi W ao c hs ls) (hk : k < ls.length) (hx : x.length = (el ls k).length) (hF : kTk.Fresh lo hi W' (el hs k).1 (el hs k).2.2 x) (hO : OnlyAt (eff (el hs k).1 (el ls k).length) W W') : FrRT lo hi W' ao c hs (ls.set k x) := by
  have he : ∀ j, j < ls.length → el (ls.set k x) j = if j = k then x else el ls j := by
    intro j hj
    by_cases e : j = k
    · subst e; simp [el, hj]
    · simp [el, e, Ne.symm e]
  have hlen : ∀ j, j < ls.length → (el (ls.set k x) j).length = (el ls j).length := by
    intro j hj
    rw [he j hj]
    split
    · rename_i e; rw [hx, e]
    · rfl
  refine ⟨?_, by rw [List.length_set]; exact h.2.1, ?_, ?_⟩
  · refine h.1.off (h.1.rowAt.off (h.2.2.1 k hk).2.rowAt ?_) hO
    show (102 : TypeId) ≠ 104
    decide
  · intro j hj
    rw [List.length_set] at hj
    refine ⟨by rw [hlen j hj]; exact (h.2.2.1 j hj).1, ?_⟩
    rw [he j hj]
    split
    · rename_i e; subst e; exact hF
    · rename_i e
      refine (h.2.2.1 j hj).2.off ?_ hO
      rcases Nat.lt_or_ge j k with hjk | hjk
      · exact h.2.2.2 j k hjk hk
      · exact (h.2.2.2 k j (by omega) hj).symm
  · intro i j hij hj
    rw [List.length_set] at hj
    rw [hlen i (by omega), hlen j hj]
    exact h.2.2.2 i j hij hj
end
/-- How many there are in all. -/
def totT (ls : List (List (Int × Int × Int))) : Nat := (ls.map List.length).sum
theorem totT_nil : totT [] = 0 := rfl
theorem totT_take {ls : List (List (Int × Int × Int))} {k : Nat} (h : k < ls.length) : totT (ls.take (k + 1)) = totT (ls.take k) + (el ls k).length := by
  rw [take_succ_el h]; simp [totT]
theorem totT_le (ls : List (List (Int × Int × Int))) (k : Nat) : totT (ls.take k) ≤ totT ls := by
  induction ls generalizing k with
  | nil => simp [totT]
  | cons x r ih =>
    cases k with
    | zero => simp [totT]
    | succ k => simp only [List.take_succ_cons, totT, List.map_cons, List.sum_cons]; have := ih k; simp only [totT] at this; omega
theorem totT_el {ls : List (List (Int × Int × Int))} {k : Nat} (h : k < ls.length) : totT (ls.take k) + (el ls k).length ≤ totT ls := by
  rw [← totT_take h]; exact totT_le ls _
set_option maxHeartbeats 2000000 in
theorem eqTokenSS_same (ao bo : Option Addr) (cap cap' : Nat) (hs hs' : List (Option Addr × Nat × Nat)) (ls : List (List (Int × Int × Int))) (w : World) (hl : ls.length ≤ 1048576) (hle : totT ls ≤ 1048576) (hz : InRT w.heap.size w ao hs ls) (hz' : InRT w.heap.size w bo hs' ls) :
    Calls Tryz.prog 41 #[.slice ao ls.length cap, .slice bo ls.length cap'] w fun e w' => e = .returned (.bool true) ∧ Below w.heap.size w w' := by
  have hne : ((ls.length : Int) != (ls.length : Int)) = false := by simp
  go_enter Tryz.func41, Tryz.ntmps41
  go_wp2
  go_loopw [5] (fun i wr => ∃ k : Nat, k ≤ ls.length ∧ i = .int .i64 k ∧ Below w.heap.size w wr) (fun i _ => ls.length - (intOf i).toNat)
  case atStart => exact ⟨0, Nat.zero_le _, rfl, Below.refl _ _⟩
  case round =>
    obtain ⟨k, hk, rfl, hnx⟩ := hrel
    by_cases hlt : k < ls.length
    · obtain ⟨b, off, o, c, rfl, hb, hc, _, hI⟩ := hz.at hlt
      obtain ⟨b', off', o', c', rfl, hb', hc', _, hI'⟩ := hz'.at hlt
      have d1 := (hnx.cell (p := ⟨b, off + k, none⟩) hb).trans hc
      have d2 := (hnx.cell (p := ⟨b', off' + k, none⟩) hb').trans hc'
      have hxl : (el ls k).length ≤ 1048576 := by have := totT_el hlt; omega
      generalize hx : el ls k = x at d1 d2 hI hI' hxl
      have HI := hid (hI.later hnx)
      have HI' := hid (hI'.later hnx)
      clear hx hc hc' hI hI'
      go_wp2
      go_region_with (go_at_call 70; refine (eqTokenS_same o o' c c' x _ hxl (by exact HI.out) (by exact HI'.out)).mono ?_; rintro e w1 ⟨rfl, hb1⟩)
      all_goals go_wp2
      all_goals
        have hb2 : Below wr.drew.heap.size wr.drew w1 := by assumption
        have hnb : Below w.heap.size w w1 := hnx.drew.trans (hb2.mono hnx.size)
        go_roundw
        case rel => exact ⟨k + 1, by omega, by go_num, hnb⟩
        case measure => simp [intOf]; omega
    · obtain rfl : k = ls.length := by omega
      go_wp2
      go_ret
      exact ⟨rfl, hnx⟩
/-- The heads and rows up to k are laid. -/
structure LaidT (lo : Nat) (W : World) (hs : List (Option Addr × Nat × Nat)) (ls : List (List (Int × Int × Int))) (k : Nat) : Prop where
  len : hs.length = k
  row : ∀ j, j < k → (el hs j).2.1 = (el ls j).length ∧ kTk.Fresh lo W.heap.size W (el hs j).1 (el hs j).2.2 (el ls j)
  off : ∀ i j, i < j → j < k → Off (el hs i).1 (el ls i).length (el hs j).1 (el ls j).length
theorem LaidT.keep {lo : Nat} {W W' : World} {hs : List (Option Addr × Nat × Nat)} {ls : List (List (Int × Int × Int))} {k : Nat} (h : LaidT lo W hs ls k) (hsz : W.heap.size ≤ W'.heap.size) (hb : ∀ i, lo ≤ i → i < W.heap.size → W'.heap[i]? = W.heap[i]?) : LaidT lo W' hs ls k :=
  ⟨h.len, fun j hj => ⟨(h.row j hj).1, ((h.row j hj).2.keep fun i h1 _ h3 => hb i h1 h3).wide (Nat.le_refl _) hsz⟩, h.off⟩
theorem LaidT.later {lo : Nat} {W W' : World} {hs : List (Option Addr × Nat × Nat)} {ls : List (List (Int × Int × Int))} {k : Nat} (h : LaidT lo W hs ls k) (hb : Below W.heap.size W W') : LaidT lo W' hs ls k := h.keep hb.size fun i _ hi => hb.block i hi
theorem LaidT.add {lo : Nat} {W W' : World} {hs : List (Option Addr × Nat × Nat)} {ls : List (List (Int × Int × Int))} {k : Nat} {o : Option Addr} {c : Nat} (h : LaidT lo W hs ls k) (hb : Below W.heap.size W W') (hlo : lo ≤ W.heap.size) (hF : kTk.Fresh W.heap.size W'.heap.size W' o c (el ls k)) : LaidT lo W' (hs ++ [(o, (el ls k).length, c)]) ls (k + 1) := by
  have h2 := h.later hb
  have hl : ∀ j, j < k → el (hs ++ [(o, (el ls k).length, c)]) j = el hs j := fun j hj => el_app_left (by rw [h.len]; exact hj)
  have hr : el (hs ++ [(o, (el ls k).length, c)]) k = (o, (el ls k).length, c) := by
    have := el_app_right hs [(o, (el ls k).length, c)] 0
    rw [h.len, Nat.add_zero] at this
    rw [this, el_zero]
  refine ⟨by simp [h.len], fun j hj => ?_, fun i j hij hj => ?_⟩
  · rcases Nat.lt_succ_iff_lt_or_eq.1 hj with hj | rfl
    · rw [hl j hj]; exact h2.row j hj
    · rw [hr]; exact ⟨rfl, hF.wide hlo (Nat.le_refl _)⟩
  · rcases Nat.lt_succ_iff_lt_or_eq.1 hj with hj | rfl
    · rw [hl i (by omega), hl j hj]; exact h.off i j hij hj
    · rw [hl i hij, hr]
      exact (h.row i hij).2.apart hF (Nat.le_refl _)
theorem LaidT.fr {lo lo' : Nat} {W : World} {hs : List (Option Addr × Nat × Nat)} {ls : List (List (Int × Int × Int))} {ao : Option Addr} {c : Nat} (h : LaidT lo W hs ls ls.length) (hlo : lo' ≤ lo) (hF : kRT.Fresh lo' W.heap.size W ao c hs) : FrRT lo' W.heap.size W ao c hs ls :=
  ⟨hF, h.len, fun j hj => ⟨(h.row j hj).1, (h.row j hj).2.wide hlo (Nat.le_refl _)⟩, h.off⟩
theorem LaidT.zero (lo : Nat) (W : World) (ls : List (List (Int × Int × Int))) : LaidT lo W [] ls 0 := ⟨rfl, fun j hj => by omega, fun i j _ hj => by omega⟩
end
section
open Go.RowKit

theorem Bx.grown {W W' : World} {p g : Nat} {us : List Value} (h : Bx W p us) (hg : W.grownBy W' (some g)) (hne : p ≠ g) : Bx W' p us := h.keep hg.size (hg.block p h.1 (by simpa using hne))
section
variable {α : Type} {K : Kind α}
/-- Elements are put behind a row of its own that is not nil: it stays in its block, or lies in a new one. -/
theorem Kind.appO [Inhabited α] (hK : K.Ok) {ops : Array Oper} {rest : List Oper} {o : Oper} {a : Act} {Q : Exit → Act → World → Prop} (W : World) (hg : o.guard = none) (s x : Operand) (hop : o.op = Op.call { callee := Callee.builtin Builtin.append, args := #[s, x], argTypes := #[K.st, K.st] })
    (lo g n cap : Nat) (xs : List α) (hs : a.eval s = .slice (some ⟨g, 0, none⟩) n cap) (hown : K.Own lo W (.slice (some ⟨g, 0, none⟩) n cap) xs) (hlo : lo ≤ W.heap.size)
    (ao : Option Addr) (ys : List α) (m c : Nat) (hx : a.eval x = .slice ao m c) (hm : ys.length = m) (hno : ao = none → c = 0) (N : Nat) (hz : K.In N W ao ys) (hl : xs.length + ys.length ≤ 4194304) (zs : List α) (hzs : zs = xs ++ ys)
    (hk : ∀ g' c' w', K.Own lo w' (.slice (some ⟨g', 0, none⟩) zs.length c') zs → Below lo W w' → W.grownBy w' (some g) → (g' = g ∨ W.heap.size ≤ g') → wpList Tryz.prog ops Q rest (a.put o.dst (.slice (some ⟨g', 0, none⟩) zs.length c')) w') :
    wpList Tryz.prog ops Q (o :: rest) a W := by
  subst hzs
  obtain ⟨i0, z0, hin, hz0, hz1, hz2, hz3⟩ := hK.info
  obtain ⟨g2, c2, e2, _⟩ := Kind.Own.some hown some_ne
  simp at e2
  obtain ⟨rfl, rfl, rfl⟩ := e2
  cases ao with
  | none =>
    have hy : ys = [] := by rcases hz with h | ⟨b, off, e, _⟩; exact h; cases e
    subst hy
    have hc := hno rfl
    subst hc hm
    have hrun := run_append_owned_none (P := Tryz.prog) W lo K.st o.type K.ty i0 K.sz hK.und hin _ xs.length (K.flat xs) hown
    refine wpList_plain hg fun K' hK' => ?_
    unfold Oper.wp
    simp [execOp, hop, resolve, invoke, builtin, hs, hx, hrun, Result.andThen]
    have h := hk g cap W (by simpa using hown) (Below.refl _ _) ⟨rfl, rfl, rfl, Nat.le_refl _, fun _ _ _ => rfl⟩ (.inl rfl)
    simp only [List.append_nil] at h
    exact hK' _ _ h
  | some ad =>
    subst hm
    have hb : (xs.length + ys.length) * i0.bytes ≤ 140737488355328 := by
      have : (xs.length + ys.length) * i0.bytes ≤ 4194304 * 4096 := Nat.mul_le_mul hl hz3
      omega
    have hml : xs.length + ys.length ≤ maxLen := by unfold maxLen; omega
    obtain ⟨v', w', hr, h2, h3, h4⟩ := run_append_own (P := Tryz.prog) W lo K.st o.type K.ty i0 z0 K.sz i0.bytes hK.und hin hz0 hz1 rfl hz2 hK.pos _ xs.length (K.flat xs) hown ad ys.length c (K.flat ys) (K.flat_len ys) hz.src (K.flat_one ys) hml hb hlo
    have hwhere : ∃ g' c', v' = .slice (some ⟨g', 0, none⟩) (xs.length + ys.length) c' ∧ (g' = g ∨ W.heap.size ≤ g') := by
      by_cases hroom : xs.length + ys.length ≤ cap
      · obtain ⟨cur, hcur, hcl, _⟩ := owns_open hown
        have hr2 := run_append_room (P := Tryz.prog) W K.st o.type K.ty i0 hK.und hin g xs.length cap cur.toArray hcur ad ys.length c (K.flat ys) (by rw [hz1]; exact K.flat_len ys) hz.src (K.flat_one ys) hroom (by rw [hz1, K.flat_len, ← Nat.add_mul]; simp only [List.size_toArray, hcl]; exact Nat.mul_le_mul_right _ hroom)
        rw [hr] at hr2
        injection hr2 with e1 _
        exact ⟨g, cap, e1, .inl rfl⟩
      · have holds : ∀ j u, (K.flat xs)[j]? = some u → W.cell? ((⟨g, 0, none⟩ : Addr).add j) = some u := World.ownsRow.cells (g := g) hown rfl
        have hr2 := run_append_grow (P := Tryz.prog) W K.st o.type K.ty i0 z0 hK.und hin hz0 ⟨g, 0, none⟩ xs.length cap (K.flat xs) (by rw [hz1]; exact K.flat_len xs) holds ad ys.length c (K.flat ys) (by rw [hz1]; exact K.flat_len ys) hz.src (by omega) (by omega) (growslice_fits (by omega) hb)
        rw [hr] at hr2
        injection hr2 with e1 _
        exact ⟨_, _, e1, .inr (Nat.le_refl _)⟩
    obtain ⟨g', c', rfl, hw⟩ := hwhere
    refine wpList_plain hg fun K' hK' => ?_
    unfold Oper.wp execOp
    simp only [hop, resolve, invoke, builtin, Sem.run_bind, Sem.run_pure, Result.andThen_ok, List.map_toArray, List.map_cons, List.map_nil, hs, hx, hr]
    have ho' : K.Own lo w' (.slice (some ⟨g', 0, none⟩) (xs ++ ys).length c') (xs ++ ys) := by unfold Kind.Own; rw [K.flat_app, List.length_append]; exact h2
    have h := hk g' c' w' ho' (hown.belowG h3 hlo) h3 hw
    rw [List.length_append] at h
    exact hK' _ _ h
/-- Elements are put behind a row of its own (nil or not), at one operation. -/
theorem Kind.appW [Inhabited α] (hK : K.Ok) {o : Oper} {a : Act} {K' : Act → World → Prop} {Q : Exit → Act → World → Prop} (W : World) (s x : Operand) (hop : o.op = Op.call { callee := Callee.builtin Builtin.append, args := #[s, x], argTypes := #[K.st, K.st] })
    (lo : Nat) (v : Value) (xs : List α) (hs : a.eval s = v) (hown : K.Own lo W v xs) (hlo : lo ≤ W.heap.size)
    (ao : Option Addr) (ys : List α) (m c : Nat) (hx : a.eval x = .slice ao m c) (hm : ys.length = m) (hno : ao = none → c = 0) (n : Nat) (hz : K.In n W ao ys) (hl : xs.length + ys.length ≤ 4194304)
    (hk : ∀ v' w', K.Own lo w' v' (xs ++ ys) → Below lo W w' → W.grownBy w' v.ownBlock → (v ≠ .slice none 0 0 → v' ≠ .slice none 0 0) → K' (a.put o.dst v') w') :
    Oper.wp Tryz.prog o a W K' Q := by
  obtain ⟨i0, z0, hin, hz0, hz1, hz2, hz3⟩ := hK.info
  cases ao with
  | none =>
    have hy : ys = [] := by rcases hz with h | ⟨b, off, e, _⟩; exact h; cases e
    subst hy
    have hc := hno rfl
    subst hc hm
    have hrun := run_append_owned_none (P := Tryz.prog) W lo K.st o.type K.ty i0 K.sz hK.und hin v xs.length (K.flat xs) hown
    unfold Oper.wp
    simp [execOp, hop, resolve, invoke, builtin, hs, hx, hrun, Result.andThen]
    exact hk v W (by simpa using hown) (Below.refl _ _) ⟨rfl, rfl, rfl, Nat.le_refl _, fun _ _ _ => rfl⟩ id
  | some ad =>
    subst hm
    have hb : (xs.length + ys.length) * i0.bytes ≤ 140737488355328 := by
      have : (xs.length + ys.length) * i0.bytes ≤ 4194304 * 4096 := Nat.mul_le_mul hl hz3
      omega
    obtain ⟨v', w', hr, h2, h3, h4⟩ := run_append_own (P := Tryz.prog) W lo K.st o.type K.ty i0 z0 K.sz i0.bytes hK.und hin hz0 hz1 rfl hz2 hK.pos v xs.length (K.flat xs) hown ad ys.length c (K.flat ys) (K.flat_len ys) hz.src (K.flat_one ys) (by unfold maxLen; omega) hb hlo
    unfold Oper.wp execOp
    simp only [hop, resolve, invoke, builtin, Sem.run_bind, Sem.run_pure, Result.andThen_ok, List.map_toArray, List.map_cons, List.map_nil, hs, hx, hr]
    refine hk v' w' ?_ (hown.belowG h3 hlo) h3 fun hv e => hv (h4.1 e).1
    unfold Kind.Own
    rw [K.flat_app, List.length_append]; exact h2
/-- .. at a step of a region that draws its order. -/
theorem Kind.appS [Inhabited α] (hK : K.Ok) {ops : Array Oper} {o : Oper} {a : Act} {K' : Act → World → Prop} {Q : Exit → Act → World → Prop} {E : Prop} (W : World) (hg : o.guard = none) (s x : Operand) (hop : o.op = Op.call { callee := Callee.builtin Builtin.append, args := #[s, x], argTypes := #[K.st, K.st] })
    (lo : Nat) (v : Value) (xs : List α) (hs : a.eval s = v) (hown : K.Own lo W v xs) (hlo : lo ≤ W.heap.size)
    (ao : Option Addr) (ys : List α) (m c : Nat) (hx : a.eval x = .slice ao m c) (hm : ys.length = m) (hno : ao = none → c = 0) (n : Nat) (hz : K.In n W ao ys) (hl : xs.length + ys.length ≤ 4194304)
    (hk : ∀ v' w', K.Own lo w' v' (xs ++ ys) → Below lo W w' → W.grownBy w' v.ownBlock → (v ≠ .slice none 0 0 → v' ≠ .slice none 0 0) → K' (a.put o.dst v') w') :
    if Region.wanted o (yielded ops a.tmps) = true then Oper.wp Tryz.prog o a W K' Q else E := by
  rw [if_pos (by simp [Region.wanted, hg])]
  exact Kind.appW hK W s x hop lo v xs hs hown hlo ao ys m c hx hm hno n hz hl hk
/-- Elements are put behind a row of its own, nil or not: it stays in its block, or lies in a new one. -/
theorem Kind.appN [Inhabited α] (hK : K.Ok) {ops : Array Oper} {rest : List Oper} {o : Oper} {a : Act} {Q : Exit → Act → World → Prop} (W : World) (hg : o.guard = none) (s x : Operand) (hop : o.op = Op.call { callee := Callee.builtin Builtin.append, args := #[s, x], argTypes := #[K.st, K.st] })
    (lo : Nat) (v : Value) (xs : List α) (hs : a.eval s = v) (hown : K.Own lo W v xs) (hlo : lo ≤ W.heap.size)
    (ao : Option Addr) (ys : List α) (m c : Nat) (hx : a.eval x = .slice ao m c) (hm : ys.length = m) (hno : ao = none → c = 0) (n : Nat) (hz : K.In n W ao ys) (hl : xs.length + ys.length ≤ 4194304)
    (hk : ∀ v' w', K.Own lo w' v' (xs ++ ys) → Below lo W w' → W.grownBy w' v.ownBlock → (∀ g, v'.ownBlock = some g → v.ownBlock = some g ∨ W.heap.size ≤ g) → wpList Tryz.prog ops Q rest (a.put o.dst v') w') :
    wpList Tryz.prog ops Q (o :: rest) a W := by
  rcases hown.2 with ⟨e, h0⟩ | ⟨g, cap, cur, e, hb, hh, r⟩
  · have hxs : xs = [] := List.length_eq_zero_iff.1 h0
    subst hxs e
    refine Kind.app hK W hg s x hop W.heap.size (.slice none 0 0) [] hs (Kind.Own.nil _ _ _) (Nat.le_refl _) ao ys m c hx hm hno n hz hl fun v' w' hO hB hG _ => ?_
    refine hk v' w' ?_ (hB.mono hlo) hG fun g hg => .inr (hO.low g hg)
    rcases hO.2 with h | ⟨g, cap, cur, hv, hb, r⟩
    · exact ⟨hO.1, .inl h⟩
    · exact ⟨hO.1, .inr ⟨g, cap, cur, hv, Nat.le_trans hlo hb, r⟩⟩
  · subst e
    refine Kind.appO hK W hg s x hop lo g xs.length cap xs hs hown hlo ao ys m c hx hm hno n hz hl _ rfl fun g' c' w' hO hB hG hw => ?_
    refine hk _ w' hO hB hG fun b hb => ?_
    simp [Value.ownBlock] at hb ⊢
    subst hb
    rcases hw with h | h
    · exact .inl h.symm
    · exact .inr h
end
end
section
open Go.RowKit

/-- At g lie the heads xs of the rows ls; each row is nil or lies in a block of its own behind g. -/
structure HandsT (g : Nat) (W : World) (xs : List Value) (ls : List (List (Int × Int × Int))) : Prop where
  len : xs.length = ls.length
  head : W.ownsRow g 102 1 (.slice (some ⟨g, 0, none⟩) ls.length ls.length) ls.length xs
  row : ∀ j, j < ls.length → kTk.Own (g + 1) W (el xs j) (el ls j)
  off : ∀ i j, i < j → j < ls.length → ∀ b, (el xs i).ownBlock = some b → (el xs j).ownBlock ≠ some b
theorem el_set_same {α : Type} [Inhabited α] {l : List α} {k : Nat} {x : α} (h : k < l.length) : el (l.set k x) k = x := by simp [el, h]
theorem el_set_far {α : Type} [Inhabited α] {l : List α} {k j : Nat} {x : α} (h : j ≠ k) : el (l.set k x) j = el l j := by simp [el, Ne.symm h]
theorem own_block_lt {α : Type} {K : Kind α} {lo : Nat} {W : World} {v : Value} {xs : List α} (h : K.Own lo W v xs) {b : Nat} (hb : v.ownBlock = some b) : lo ≤ b ∧ b < W.heap.size := by
  rcases h.2 with ⟨e, _⟩ | ⟨g, cap, cur, e, hg, hh, _⟩
  · subst e; simp [Value.ownBlock] at hb
  · subst e; simp [Value.ownBlock] at hb; subst hb; exact ⟨hg, (Array.getElem?_eq_some_iff.1 hh).1⟩
theorem own_keep {α : Type} {K : Kind α} {lo : Nat} {W W' : World} {v : Value} {xs : List α} (h : K.Own lo W v xs) (hk : ∀ b, v.ownBlock = some b → W'.heap[b]? = W.heap[b]?) : K.Own lo W' v xs := by
  obtain ⟨h1, h2⟩ := h
  refine ⟨h1, ?_⟩
  rcases h2 with h2 | ⟨g, cap, cur, e, hg, hh, r⟩
  · exact .inl h2
  · refine .inr ⟨g, cap, cur, e, hg, ?_, r⟩
    rw [hk g (by subst e; rfl)]; exact hh
/-- Rows of other elements lie in other blocks. -/
theorem own_ty {α β : Type} {K : Kind α} {K2 : Kind β} {lo lo2 : Nat} {W : World} {v u : Value} {xs : List α} {ys : List β} (h : K.Own lo W v xs) (h2 : K2.Own lo2 W u ys) (hne : K.ty ≠ K2.ty) {b : Nat} (hb : v.ownBlock = some b) : u.ownBlock ≠ some b := fun hb2 => by
  rcases h.2 with ⟨e, _⟩ | ⟨g, cap, cur, e, _, hh, _⟩
  · subst e; simp [Value.ownBlock] at hb
  · rcases h2.2 with ⟨e2, _⟩ | ⟨g2, cap2, cur2, e2, _, hh2, _⟩
    · subst e2; simp [Value.ownBlock] at hb2
    · subst e e2
      simp [Value.ownBlock] at hb hb2
      subst hb hb2
      rw [hh] at hh2
      simp at hh2
      exact hne hh2.2
theorem HandsT.later {g : Nat} {W W' : World} {xs : List Value} {ls : List (List (Int × Int × Int))} (h : HandsT g W xs ls) (hb : Below W.heap.size W W') : HandsT g W' xs ls :=
  ⟨h.len, ownsRow_below h.head hb, fun j hj => (h.row j hj).below hb, h.off⟩
theorem HandsT.size {g : Nat} {W : World} {xs : List Value} {ls : List (List (Int × Int × Int))} (h : HandsT g W xs ls) : g < W.heap.size := (owns_lt h.head).2
/-- One row has grown; its head is written. -/
theorem HandsT.put {g t : Nat} {W W' : World} {xs : List Value} {ls : List (List (Int × Int × Int))} {v : Value} {x : List (Int × Int × Int)} (h : HandsT g W xs ls) (ht : t < ls.length) (hO : kTk.Own (g + 1) W' v x) (hG : W.grownBy W' (el xs t).ownBlock) (hw : ∀ b, v.ownBlock = some b → (el xs t).ownBlock = some b ∨ W.heap.size ≤ b) :
    HandsT g (W'.setCell ⟨g, t, none⟩ v) (xs.set t v) (ls.set t x) := by
  have hx : t < xs.length := by rw [h.len]; exact ht
  have hkeep : ∀ b, b < W.heap.size → (el xs t).ownBlock ≠ some b → W'.heap[b]? = W.heap[b]? := fun b hb hne => hG.block b hb (fun e => hne e.symm)
  have hgne : (el xs t).ownBlock ≠ some g := fun e => by have := (own_block_lt (h.row t ht) e).1; omega
  have hset : ∀ b, b ≠ g → (W'.setCell ⟨g, t, none⟩ v).heap[b]? = W'.heap[b]? := fun b hb => Below.heap_setCell _ _ _ _ hb
  have hhead : W'.ownsRow g 102 1 (.slice (some ⟨g, 0, none⟩) ls.length ls.length) ls.length xs := owns_block h.head (hkeep g h.size hgne)
  refine ⟨by simp [h.len], ?_, ?_, ?_⟩
  · rw [List.length_set]
    exact (hhead.stored t v).1
  · intro j hj
    rw [List.length_set] at hj
    by_cases e : j = t
    · subst e
      rw [el_set_same hx, el_set_same ht]
      exact own_keep hO fun b hb => hset b (by have := (own_block_lt hO hb).1; omega)
    · rw [el_set_far e, el_set_far e]
      refine own_keep (h.row j hj) fun b hb => ?_
      have hbl := own_block_lt (h.row j hj) hb
      rw [hset b (by omega)]
      refine hkeep b hbl.2 fun e' => ?_
      rcases Nat.lt_or_ge j t with hjt | hjt
      · exact h.off j t hjt ht b hb e'
      · exact h.off t j (by omega) hj b e' hb
  · intro i j hij hj b hi
    rw [List.length_set] at hj
    by_cases e1 : i = t
    · subst e1
      rw [el_set_same hx] at hi
      rw [el_set_far (by omega)]
      intro hjb
      rcases hw b hi with h1 | h1
      · exact h.off i j hij hj b h1 hjb
      · have := (own_block_lt (h.row j hj) hjb).2; omega
    · rw [el_set_far e1] at hi
      by_cases e2 : j = t
      · subst e2
        rw [el_set_same hx]
        intro hjb
        rcases hw b hjb with h1 | h1
        · exact h.off i j hij hj b hi h1
        · have := (own_block_lt (h.row i (by omega)) hi).2; omega
      · rw [el_set_far e2]
        exact h.off i j hij hj b hi
/-- One row has grown: the heads stand. -/
theorem HandsT.mid {g t : Nat} {W W' : World} {xs : List Value} {ls : List (List (Int × Int × Int))} (h : HandsT g W xs ls) (ht : t < ls.length) (hG : W.grownBy W' (el xs t).ownBlock) : W'.ownsRow g 102 1 (.slice (some ⟨g, 0, none⟩) ls.length ls.length) ls.length xs :=
  owns_block h.head (hG.block g h.size fun e => by have := (own_block_lt (h.row t ht) e.symm).1; omega)
/-- The heads are read out of the values. -/
def hdr : Value → Option Addr × Nat × Nat
  | .slice o n c => (o, n, c)
  | _ => (none, 0, 0)
theorem HandsT.slice {g j : Nat} {W : World} {xs : List Value} {ls : List (List (Int × Int × Int))} (h : HandsT g W xs ls) (hj : j < ls.length) : ∃ o c, el xs j = .slice o (el ls j).length c ∧ (o = none → c = 0) ∧ kTk.Fresh (g + 1) W.heap.size W o c (el ls j) := (h.row j hj).fresh
theorem el_map {α β : Type} [Inhabited α] [Inhabited β] (f : α → β) {l : List α} {j : Nat} (h : j < l.length) : el (l.map f) j = f (el l j) := by simp [el, h]
theorem HandsT.flat {g : Nat} {W : World} {xs : List Value} {ls : List (List (Int × Int × Int))} (h : HandsT g W xs ls) : kRT.flat (xs.map hdr) = xs := by
  refine (kRT.flat_of xs (xs.map hdr) (by simp [kRT]) fun j hj i hi => ?_).symm
  have e : i = 0 := by have : i < 1 := hi; omega
  subst e
  rw [List.length_map] at hj
  obtain ⟨o, c, hs, _, _⟩ := h.slice (j := j) (by rw [← h.len]; exact hj)
  rw [el_map hdr hj, hs]
  show xs[j * 1 + 0]? = _
  rw [Nat.mul_one, Nat.add_zero]
  have : xs[j]? = some (el xs j) := by simp [el, hj]
  rw [this, hs]
  rfl
theorem HandsT.fr {g : Nat} {W : World} {xs : List Value} {ls : List (List (Int × Int × Int))} (h : HandsT g W xs ls) : FrRT g W.heap.size W (some ⟨g, 0, none⟩) ls.length (xs.map hdr) ls := by
  refine ⟨.inr ⟨g, rfl, h.size, ?_⟩, by simp [h.len], fun j hj => ?_, fun i j hij hj => ?_⟩
  · rw [List.length_map, h.len, h.flat]; exact h.head
  · obtain ⟨o, c, hs, _, hF⟩ := h.slice hj
    rw [el_map hdr (by rw [h.len]; exact hj), hs]
    exact ⟨rfl, hF.wide (by omega) (Nat.le_refl _)⟩
  · obtain ⟨o, c, hs, _, hF⟩ := h.slice (j := i) (by omega)
    obtain ⟨o', c', hs', _, hF'⟩ := h.slice hj
    have hoff := h.off i j hij hj
    rw [el_map hdr (by rw [h.len]; omega), el_map hdr (by rw [h.len]; exact hj), hs, hs']
    rw [hs, hs'] at hoff
    rcases hF with e | ⟨b, rfl, _⟩
    · rw [e]; exact .inl rfl
    · refine .inr (.inr fun e => ?_)
      dsimp only [hdr] at e
      subst e
      exact hoff b rfl rfl
theorem handsT_made {g n : Nat} {W : World} (h : W.ownsRow g 102 1 (.slice (some ⟨g, 0, none⟩) n n) n (madeCells (Value.slice none 0 0).cells (n * 1)).toList) : ∃ xs, HandsT g W xs (List.replicate n []) := by
  have e : (madeCells (Value.slice none 0 0).cells (n * 1)).toList = List.replicate (n * 1) (.slice none 0 0) := toList_madeCells_one _ _
  rw [e, Nat.mul_one] at h
  have hel : ∀ j, j < n → el (List.replicate n (Value.slice none 0 0)) j = .slice none 0 0 := fun j hj => by simp [el, hj]
  refine ⟨List.replicate n (.slice none 0 0), by simp, by simpa using h, fun j hj => ?_, fun i j hij hj b hb => ?_⟩
  · simp at hj
    rw [hel j hj, show el (List.replicate n ([] : List (Int × Int × Int))) j = [] from by simp [el, hj]]
    exact Kind.Own.nil _ _ _
  · simp at hj
    rw [hel i (by omega)] at hb
    simp [Value.ownBlock] at hb
end
end Go.Proofs.YtoeonbdoopboiaaGreatDoor
