
/- Rows of bools: the small functions over them. No conditions but those written. -/
import Derived.Test.YtbpacibfboldcaaDoorIa
namespace Go.Proofs.YtbpacibfboldcaaDoor
open Go.RowKit

/-- A row of bools. -/
def kB : Kind Bool := ⟨4, 22, 1, fun z => [.bool z], fun _ => rfl, fun a v h => by simp at h; subst h; rfl⟩
theorem Tryd.info4 : (Tryd.prog.info? 4).map (fun i => (i.zero, i.size, i.bytes)) = some (some (.bool false), 1, 1) := by kernel_rfl
theorem kB_ok : kB.Ok := kind_ok (K := kB) Tryd.underlying22 Tryd.info4 rfl (by decide) (by decide)
theorem kB_flat (zs : List Bool) : kB.flat zs = zs.map Value.bool := by
  induction zs with
  | nil => rfl
  | cons z r ih => rw [Kind.flat_cons, ih]; rfl
/-- The ints of a row, one by one. -/
theorem bools_at {n : Nat} {W : World} {ao : Option Addr} {zs : List Bool} (h : kB.In n W ao zs) {k : Nat} (hk : k < zs.length) :
    ∃ b off, ao = some ⟨b, off, none⟩ ∧ b < n ∧ ∀ j, j < zs.length → W.cell? ⟨b, off + j, none⟩ = some (.bool (el zs j)) := by
  obtain ⟨b, off, e, hb, hc⟩ := h.pos hk
  refine ⟨b, off, e, hb, fun j hj => ?_⟩
  have := hc j hj 0 (by decide)
  simpa [kB] using this
theorem bools_mk {n : Nat} {W : World} {b off : Nat} {zs : List Bool} (hb : b < n) (h : ∀ j, j < zs.length → W.cell? ⟨b, off + j, none⟩ = some (.bool (el zs j))) : kB.In n W (some ⟨b, off, none⟩) zs := by
  refine .inr ⟨b, off, rfl, hb, fun j hj i hi => ?_⟩
  have e : i = 0 := by have : i < 1 := hi; omega
  subst e
  simpa [kB] using h j hj
theorem bool_one {n : Nat} {W : World} {p : Nat} {z : Bool} (hp : p < n) (h : W.cell? ⟨p, 0, none⟩ = some (.bool z)) : kB.In n W (some ⟨p, 0, none⟩) [z] := by
  refine bools_mk hp fun j hj => ?_
  simp at hj; subst hj
  simpa [el_zero] using h
set_option maxHeartbeats 400000 in
theorem szBoolS_any (a : Option Addr) (len cap : Nat) (L : Int) (w : World) (h0 : 0 ≤ L) (h1 : L ≤ 1048576) (hl : len ≤ 9223372036854775807) :
    Calls Tryd.prog 22 #[.slice a len cap, .int .i64 L] w fun e w' => (∃ r : Int, e = .returned (.int .i64 r) ∧ r ≤ 1048576 ∧ ((r < 0) ∨ (r = L - len ∧ 0 ≤ r))) ∧ w' = w := by
  go_enter Tryd.func22, Tryd.ntmps22
  go_wp2
  all_goals go_ret
  · exact ⟨⟨_, rfl, by omega, by omega⟩, rfl⟩
  · exact ⟨⟨_, rfl, by omega, by omega⟩, rfl⟩
set_option maxHeartbeats 1000000 in
theorem toBoolS_any (ao : Option Addr) (cap : Nat) (zs : List Bool) (w : World) (hl : zs.length ≤ 1048576) (hz : kB.In w.heap.size w ao zs) :
    Calls Tryd.prog 29 #[.slice ao zs.length cap] w fun e w' => e = .returned (.slice (some ⟨w.heap.size, 0, none⟩) zs.length zs.length) ∧ kB.Fresh w.heap.size w'.heap.size w' (some ⟨w.heap.size, 0, none⟩) zs.length zs ∧ Below w.heap.size w w' := by
  obtain ⟨i0, hi, hz0, hz1, hz2⟩ := info_parts Tryd.info4
  go_enter Tryd.func29, Tryd.ntmps29
  go_wp2_with (at_make; refine wpList_make_full _ rfl _ _ 22 rfl w.heap.size 4 i0 (.bool false) 1 Tryd.underlying22 hi hz0 hz1 .i64 .i64 _ _ zs.length rfl rfl rfl rfl (by rw [hz2]; omega) (by unfold maxLen; omega) (Nat.le_refl _) ?_; intro w1 hown hgrow)
  have hB1 : Below w.heap.size w w1 := (Below.refl _ _).grown hgrow (Nat.le_refl _) (fun k e => by cases e)
  have HO : Hid (w1.ownsRow w.heap.size 4 1 (.slice (some ⟨w.heap.size, 0, none⟩) zs.length zs.length) zs.length (madeCells (Value.bool false).cells (zs.length * 1)).toList) := hown
  clear hown hgrow
  go_loopw [4] (fun i wr => ∃ (k : Nat) (xs : List Value), k ≤ zs.length ∧ i = .int .i64 k ∧ Hid (wr.ownsRow w.heap.size 4 1 (.slice (some ⟨w.heap.size, 0, none⟩) zs.length zs.length) zs.length xs ∧ ∀ j, j < k → xs[j]? = some (.bool (el zs j))) ∧ Below w.heap.size w wr) (fun i _ => zs.length - (intOf i).toNat)
  case atStart => exact ⟨0, _, Nat.zero_le _, rfl, ⟨HO.out, fun j hj => by omega⟩, hB1⟩
  case round =>
    obtain ⟨k, xs, hk, rfl, ho, hnx⟩ := hrel
    by_cases hlt : k < zs.length
    · obtain ⟨b, off, rfl, hb, hc⟩ := bools_at hz hlt
      have hck := (hnx.cell (p := ⟨b, off + k, none⟩) hb).trans (hc k hlt)
      clear hc hz
      obtain ⟨x, hx⟩ : ∃ x, x = el zs k := ⟨_, rfl⟩
      rw [← hx] at hck
      have HX : Hid (x = el zs k) := hx
      clear hx
      have hxl : k < xs.length := by rw [ho.out.1.1]; omega
      have hst : wr.cell? ⟨w.heap.size, k, none⟩ = some xs[k] := (ho.out.1.cellAt k (by omega)).trans (by simp [hxl])
      have hfr : wr.frozen? ⟨w.heap.size, k, none⟩ = false := ho.out.1.frozenAt k
      go_wp2
      go_roundw
      case rel => exact ⟨k + 1, xs.set k (.bool x), by omega, by go_num, ⟨(ho.out.1.stored k _).1, fun j hj => by
          rw [List.getElem?_set]
          rcases Nat.lt_succ_iff_lt_or_eq.1 hj with h | rfl
          · rw [if_neg (by omega)]; exact ho.out.2 j h
          · rw [if_pos rfl, if_pos hxl, HX.out]⟩, hnx.setCell (Nat.le_refl _) _⟩
      case measure => simp [intOf]; omega
    · obtain rfl : k = zs.length := by omega
      have hxs : xs = kB.flat zs := by
        refine kB.flat_of xs zs ho.out.1.1 fun j hj i hi => ?_
        have e : i = 0 := by have : i < 1 := hi; omega
        subst e
        simpa [kB] using ho.out.2 j hj
      subst hxs
      go_wp2
      go_ret
      exact ⟨rfl, .inr ⟨_, rfl, (owns_lt ho.out.1).2, ho.out.1⟩, hnx⟩
set_option maxHeartbeats 1000000 in
theorem eqBoolS_same (ao bo : Option Addr) (cap cap' : Nat) (zs : List Bool) (w : World) (hl : zs.length ≤ 1048576) (hz : kB.In w.heap.size w ao zs) (hz' : kB.In w.heap.size w bo zs) :
    Calls Tryd.prog 37 #[.slice ao zs.length cap, .slice bo zs.length cap'] w fun e w' => e = .returned (.bool true) ∧ Below w.heap.size w w' := by
  have hne : ((zs.length : Int) != (zs.length : Int)) = false := by simp
  go_enter Tryd.func37, Tryd.ntmps37
  go_wp2
  go_loopw [5] (fun i wr => ∃ k : Nat, k ≤ zs.length ∧ i = .int .i64 k ∧ Below w.heap.size w wr) (fun i _ => zs.length - (intOf i).toNat)
  case atStart => exact ⟨0, Nat.zero_le _, rfl, Below.refl _ _⟩
  case round =>
    obtain ⟨k, hk, rfl, hnx⟩ := hrel
    by_cases hlt : k < zs.length
    · obtain ⟨b, off, rfl, hb, hc⟩ := bools_at hz hlt
      obtain ⟨b', off', rfl, hb', hc'⟩ := bools_at hz' hlt
      have hck := (hnx.cell (p := ⟨b, off + k, none⟩) hb).trans (hc k hlt)
      have hck' := (hnx.cell (p := ⟨b', off' + k, none⟩) hb').trans (hc' k hlt)
      clear hc hz hc' hz'
      obtain ⟨x, hx⟩ : ∃ x, x = el zs k := ⟨_, rfl⟩
      rw [← hx] at hck hck'
      clear hx
      have hxx : (x != x) = false := by simp
      go_wp2
      go_quiet (fail)
      go_wp2
      go_roundw
      case rel => exact ⟨k + 1, by omega, by go_num, below_draws hnx _⟩
      case measure => simp [intOf]; omega
    · obtain rfl : k = zs.length := by omega
      go_wp2
      go_ret
      exact ⟨rfl, hnx⟩
/-- The marks of a row of ints. -/
def markB (k : Int) (n : Nat) : List Bool := (List.range n).map (fun i : Nat => (k + (i : Int)) % 3 == 0)
theorem markB_len (k : Int) (n : Nat) : (markB k n).length = n := by simp [markB]
theorem markB_at (k : Int) (n j : Nat) (h : j < n) : el (markB k n) j = ((k + (j : Int)) % 3 == 0) := by simp [markB, el, h]
set_option maxHeartbeats 1000000 in
theorem markBoolS_any (lo hi : Nat) (qo : Option Addr) (qc : Nat) (q : List Bool) (k0 : Int) (w : World) (hl : q.length ≤ 2097152) (hk0 : 0 ≤ k0) (hk1 : k0 ≤ 16777216) (hF : kB.Fresh lo hi w qo qc q) :
    Calls Tryd.prog 40 #[.slice qo q.length qc, .int .i64 k0] w fun e w' => e = .returned (.int .i64 (k0 + q.length)) ∧ kB.Fresh lo hi w' qo qc (markB k0 q.length) ∧ OnlyAt (eff qo q.length) w w' := by
  rcases Nat.eq_zero_or_pos q.length with h0 | h0
  · obtain rfl : q = [] := List.length_eq_zero_iff.1 h0
    go_enter Tryd.func40, Tryd.ntmps40
    go_wp2
    go_loop [1, 5] (fun v i => v = .int .i64 k0 ∧ i = .int .i64 0) (fun _ _ => 0)
    case atStart => exact ⟨rfl, rfl⟩
    case round =>
      obtain ⟨rfl, rfl⟩ := hrel
      go_wp2
      go_ret
      exact ⟨by simp, .inl (by simp [markB]), OnlyAt.refl _ _⟩
  · rw [eff_pos h0]
    obtain ⟨g, rfl, _, hg, _, ho⟩ := hF.at h0
    have HO : Hid (w.ownsRow lo 4 1 (.slice (some ⟨g, 0, none⟩) q.length qc) q.length (kB.flat q)) := ho
    clear ho
    go_enter Tryd.func40, Tryd.ntmps40
    go_wp2
    go_loopw [1, 5] (fun v i wr => ∃ (k : Nat) (xs : List Value), k ≤ q.length ∧ i = .int .i64 k ∧ v = .int .i64 (k0 + k) ∧ Hid (wr.ownsRow lo 4 1 (.slice (some ⟨g, 0, none⟩) q.length qc) q.length xs ∧ ∀ j : Nat, j < k → xs[j]? = some (.bool ((k0 + j) % 3 == 0))) ∧ OnlyAt (some ⟨g, 0, none⟩) w wr) (fun _ i _ => q.length - (intOf i).toNat)
    case atStart => exact ⟨0, _, Nat.zero_le _, rfl, by simp, ⟨HO.out, fun j hj => by omega⟩, OnlyAt.refl _ _⟩
    case round =>
      obtain ⟨k, xs, hk, rfl, rfl, ho, hnx⟩ := hrel
      by_cases hlt : k < q.length
      · have hxl : k < xs.length := by rw [ho.out.1.1]; omega
        have hst : wr.cell? ⟨g, k, none⟩ = some xs[k] := (ho.out.1.cellAt k (by omega)).trans (by simp [hxl])
        have hfr : wr.frozen? ⟨g, k, none⟩ = false := ho.out.1.frozenAt k
        go_wp2
        go_roundw
        case rel => exact ⟨k + 1, xs.set k (.bool ((k0 + k) % 3 == 0)), by omega, by go_num, by go_num, ⟨(ho.out.1.stored k _).1, fun j hj => by
          rw [List.getElem?_set]
          rcases Nat.lt_succ_iff_lt_or_eq.1 hj with h | rfl
          · rw [if_neg (by omega)]; exact ho.out.2 j h
          · rw [if_pos rfl, if_pos hxl]⟩, hnx.trans (OnlyAt.set g k _ _)⟩
        case measure => simp [intOf]; omega
      · obtain rfl : k = q.length := by omega
        have hxs : xs = kB.flat (markB k0 q.length) := by
          refine kB.flat_of xs _ (by rw [markB_len]; exact ho.out.1.1) fun j hj i hi => ?_
          have e : i = 0 := by have : i < 1 := hi; omega
          subst e
          rw [markB_len] at hj
          rw [markB_at _ _ _ hj]
          simpa [kB] using ho.out.2 j hj
        subst hxs
        go_wp2
        go_ret
        refine ⟨rfl, .inr ⟨g, rfl, hg, ?_⟩, hnx⟩
        rw [markB_len]; exact ho.out.1
set_option maxHeartbeats 1000000 in
theorem heldBoolS_any (qo : Option Addr) (qc : Nat) (n : Nat) (k0 : Int) (w : World) (hl : n ≤ 2097152) (hk0 : 0 ≤ k0) (hk1 : k0 ≤ 16777216) (hF : kB.In w.heap.size w qo (markB k0 n)) :
    Calls Tryd.prog 42 #[.slice qo n qc, .int .i64 k0] w fun e w' => e = .returned (.int .i64 (k0 + n)) ∧ w' = w := by
  go_enter Tryd.func42, Tryd.ntmps42
  go_wp2
  go_loop [1, 5] (fun v i => ∃ k : Nat, k ≤ n ∧ i = .int .i64 k ∧ v = .int .i64 (k0 + k)) (fun _ i => n - (intOf i).toNat)
  case atStart => exact ⟨0, Nat.zero_le _, rfl, by simp⟩
  case round =>
    obtain ⟨k, hk, rfl, rfl⟩ := hrel
    by_cases hlt : k < n
    · obtain ⟨b, off, rfl, hb, hc⟩ := bools_at hF (k := k) (by rw [markB_len]; exact hlt)
      have hck := hc k (by rw [markB_len]; exact hlt)
      rw [markB_at _ _ _ hlt] at hck
      clear hc hF
      obtain ⟨vb, hvb⟩ : ∃ vb, vb = ((k0 + (k : Int)) % 3 == 0) := ⟨_, rfl⟩
      have hvb' := hvb.symm
      rw [← hvb] at hck
      clear hvb
      have hne : (vb != vb) = false := by simp
      go_wp2
      go_round
      case rel => exact ⟨k + 1, by omega, by go_num, by go_num⟩
      case measure => simp [intOf]; omega
    · obtain rfl : k = n := by omega
      go_wp2
      go_ret
      exact ⟨rfl, rfl⟩
end Go.Proofs.YtbpacibfboldcaaDoor
