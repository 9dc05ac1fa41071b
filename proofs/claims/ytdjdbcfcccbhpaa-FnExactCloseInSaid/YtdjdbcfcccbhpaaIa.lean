
/- Rows of ints: the small functions over them. No conditions but those written. -/
import Derived.Test.YtdjdbcfcccbhpaaGen
namespace Go.Proofs.Ytdjdbcfcccbhpaa
open Go.RowKit

set_option maxHeartbeats 400000 in
theorem l1In_is (n lo hi : Int) (w : World) (b : Bool) (hb : (decide (lo ≤ n) && decide (n ≤ hi)) = b) :
    Calls Try.prog 16 #[.int .i64 n, .int .i64 lo, .int .i64 hi] w fun e w' => e = .returned (.bool b) ∧ w' = w := by
  subst hb
  by_cases h : lo ≤ n
  · go_enter Try.func16, Try.ntmps16
    go_wp2
    go_ret
    exact ⟨by simp [*], rfl⟩
  · have h' : decide (lo ≤ n) = false := by simpa using h
    go_enter Try.func16, Try.ntmps16
    go_wp2
    go_ret
    exact ⟨by simp [*], rfl⟩

/-- A number is a task. -/
def taskB (n : Int) : Bool := decide (0 ≤ n) && decide (n ≤ 29)
set_option maxHeartbeats 400000 in
theorem l3Task_is (n : Int) (w : World) (b : Bool) (hb : taskB n = b) :
    Calls Try.prog 69 #[.int .i64 n] w fun e w' => e = .returned (.bool b) ∧ w' = w := by
  go_enter Try.func69, Try.ntmps69
  go_wp2_with fail
  refine (l1In_is n 0 29 _ b hb).mono ?_
  rintro e w1 ⟨rfl, rfl⟩
  go_wp2
  go_ret
  exact ⟨rfl, rfl⟩

set_option maxHeartbeats 400000 in
theorem isTask_is (n : Int) (w : World) (b : Bool) (hb : taskB n = b) :
    Calls Try.prog 66 #[.int .i64 n] w fun e w' => e = .returned (.bool b) ∧ w' = w := by
  subst hb
  by_cases h : 0 ≤ n
  · go_enter Try.func66, Try.ntmps66
    go_wp2
    go_ret
    refine ⟨ret_bool ?_, rfl⟩
    simp [h, taskB]; omega
  · have h' : decide (0 ≤ n) = false := by simpa using h
    go_enter Try.func66, Try.ntmps66
    go_wp2
    go_ret
    exact ⟨ret_bool (by simp [taskB]; omega), rfl⟩

/-- It is in the list. -/
def hasB (zs : List Int) (n : Int) : Bool := decide (n ∈ zs)
theorem hasB_yes {zs : List Int} {n : Int} {k : Nat} (hk : k < zs.length) (h : el zs k = n) : hasB zs n = true := by
  simp only [hasB, decide_eq_true_eq]; rw [← h]; exact el_mem hk
theorem hasB_no {zs : List Int} {n : Int} (h : ∀ j, j < zs.length → el zs j ≠ n) : hasB zs n = false := by
  simp only [hasB, decide_eq_false_iff_not]; intro hm
  obtain ⟨j, hj, e⟩ := mem_el hm
  exact h j hj e
set_option maxHeartbeats 400000 in
theorem l1Has_is (n₀ : Nat) (ao : Option Addr) (cap : Nat) (zs : List Int) (n : Int) (w : World) (b : Bool) (hl : zs.length ≤ 1048576) (hz : kI.In n₀ w ao zs) (hb : hasB zs n = b) :
    Calls Try.prog 35 #[.slice ao zs.length cap, .int .i64 n] w fun e w' => e = .returned (.bool b) ∧ w' = w := by
  have HB : Hid (hasB zs n = b) := hb
  clear hb
  go_enter Try.func35, Try.ntmps35
  go_wp2
  go_loop [9] (fun i => ∃ k : Nat, k ≤ zs.length ∧ i = .int .i64 k ∧ Hid (∀ j, j < k → el zs j ≠ n)) (fun i => zs.length - (intOf i).toNat)
  case atStart => exact ⟨0, Nat.zero_le _, rfl, fun j hj => by omega⟩
  case round =>
    obtain ⟨k, hk, rfl, hno⟩ := hrel
    by_cases hlt : k < zs.length
    · obtain ⟨b, off, rfl, hb, hc⟩ := ints_at hz hlt
      have hck := hc k hlt
      clear hc hz
      obtain ⟨x, hx⟩ : ∃ x, x = el zs k := ⟨_, rfl⟩
      rw [← hx] at hck
      have HX : Hid (x = el zs k) := hx
      clear hx
      by_cases he : x = n
      · have he' : (x == n) = true := by simpa using he
        have HY : Hid (hasB zs n = true) := hasB_yes hlt (by rw [← HX.out]; exact he)
        clear he
        go_wp2
        go_ret
        exact ⟨ret_bool (by rw [← HB.out, HY.out]), rfl⟩
      · have he' : (x == n) = false := by simpa using he
        go_wp2
        go_round
        case rel => exact ⟨k + 1, by omega, by go_num, fun j hj => by
          rcases Nat.lt_succ_iff_lt_or_eq.1 hj with h | rfl
          · exact hno.out j h
          · rw [← HX.out]; exact he⟩
        case measure => simp [intOf]; omega
    · obtain rfl : k = zs.length := by omega
      have HN : Hid (hasB zs n = false) := hasB_no hno.out
      go_wp2
      go_ret
      exact ⟨ret_bool (by rw [← HB.out, HN.out]), rfl⟩

/-- The first place of a number, -1 where it is not there. -/
def idxI (zs : List Int) (n : Int) : Int := if n ∈ zs then (zs.idxOf n : Int) else -1
theorem idxOf_first : ∀ (zs : List Int) (n : Int) (k : Nat), k < zs.length → el zs k = n → (∀ j, j < k → el zs j ≠ n) → zs.idxOf n = k
  | [], n, k, h, _, _ => by simp at h
  | z :: r, n, 0, _, h, _ => by rw [el_zero] at h; subst h; simp
  | z :: r, n, k + 1, hk, h, hno => by
    have h0 := hno 0 (by omega)
    rw [el_zero] at h0
    rw [el_cons] at h
    rw [List.idxOf_cons, idxOf_first r n k (by simpa using hk) h (fun j hj => by have := hno (j + 1) (by omega); rwa [el_cons] at this)]
    have : (z == n) = false := by simpa using h0
    simp [this]
theorem idxI_yes {zs : List Int} {n : Int} {k : Nat} (hk : k < zs.length) (h : el zs k = n) (hno : ∀ j, j < k → el zs j ≠ n) : idxI zs n = k := by
  have : n ∈ zs := by rw [← h]; exact el_mem hk
  rw [idxI, if_pos this, idxOf_first zs n k hk h hno]
theorem idxI_no {zs : List Int} {n : Int} (h : ∀ j, j < zs.length → el zs j ≠ n) : idxI zs n = -1 := by
  rw [idxI, if_neg]; intro hm
  obtain ⟨j, hj, e⟩ := mem_el hm
  exact h j hj e
theorem idxI_has (zs : List Int) (n : Int) : decide (0 ≤ idxI zs n) = hasB zs n := by
  unfold idxI hasB
  by_cases h : n ∈ zs
  · rw [if_pos h]; simp [h]
  · rw [if_neg h]; simp [h]
set_option maxHeartbeats 400000 in
theorem szIntS_any (a : Option Addr) (len cap : Nat) (L : Int) (w : World) (h0 : 0 ≤ L) (h1 : L ≤ 1048576) (hl : len ≤ 9223372036854775807) :
    Calls Try.prog 50 #[.slice a len cap, .int .i64 L] w fun e w' => (∃ r : Int, e = .returned (.int .i64 r) ∧ r ≤ 1048576 ∧ ((r < 0) ∨ (r = L - len ∧ 0 ≤ r))) ∧ w' = w := by
  go_enter Try.func50, Try.ntmps50
  go_wp2
  all_goals go_ret
  · exact ⟨⟨_, rfl, by omega, by omega⟩, rfl⟩
  · exact ⟨⟨_, rfl, by omega, by omega⟩, rfl⟩
set_option maxHeartbeats 1000000 in
theorem toIntS_any (ao : Option Addr) (cap : Nat) (zs : List Int) (w : World) (hl : zs.length ≤ 1048576) (hz : kI.In w.heap.size w ao zs) :
    Calls Try.prog 54 #[.slice ao zs.length cap] w fun e w' => e = .returned (.slice (some ⟨w.heap.size, 0, none⟩) zs.length zs.length) ∧ kI.Fresh w.heap.size w'.heap.size w' (some ⟨w.heap.size, 0, none⟩) zs.length zs ∧ Below w.heap.size w w' := by
  obtain ⟨i0, hi, hz0, hz1, hz2⟩ := info_parts Try.info3
  go_enter Try.func54, Try.ntmps54
  go_wp2_with (at_make; refine wpList_make_full _ rfl _ _ 42 rfl w.heap.size 3 i0 (.int .i64 0) 1 Try.underlying42 hi hz0 hz1 .i64 .i64 _ _ zs.length rfl rfl rfl rfl (by rw [hz2]; omega) (by unfold maxLen; omega) (Nat.le_refl _) ?_; intro w1 hown hgrow)
  have hB1 : Below w.heap.size w w1 := (Below.refl _ _).grown hgrow (Nat.le_refl _) (fun k e => by cases e)
  have HO : Hid (w1.ownsRow w.heap.size 3 1 (.slice (some ⟨w.heap.size, 0, none⟩) zs.length zs.length) zs.length (madeCells (Value.int IntKind.i64 0).cells (zs.length * 1)).toList) := hown
  clear hown hgrow
  go_loopw [4] (fun i wr => ∃ (k : Nat) (xs : List Value), k ≤ zs.length ∧ i = .int .i64 k ∧ Hid (wr.ownsRow w.heap.size 3 1 (.slice (some ⟨w.heap.size, 0, none⟩) zs.length zs.length) zs.length xs ∧ ∀ j, j < k → xs[j]? = some (.int .i64 (el zs j))) ∧ Below w.heap.size w wr) (fun i _ => zs.length - (intOf i).toNat)
  case atStart => exact ⟨0, _, Nat.zero_le _, rfl, ⟨HO.out, fun j hj => by omega⟩, hB1⟩
  case round =>
    obtain ⟨k, xs, hk, rfl, ho, hnx⟩ := hrel
    by_cases hlt : k < zs.length
    · obtain ⟨b, off, rfl, hb, hc⟩ := ints_at hz hlt
      have hck := (hnx.cell (p := ⟨b, off + k, none⟩) hb).trans (hc k hlt)
      clear hc hz
      obtain ⟨x, hx⟩ : ∃ x, x = el zs k := ⟨_, rfl⟩
      rw [← hx] at hck
      have HX : Hid (x = el zs k) := hx
      clear hx
      have hxl : k < xs.length := by rw [ho.out.1.1]; omega
      have hst : wr.cell? ⟨w.heap.size, k, none⟩ = some xs[k] := (ho.out.1.cellAt k (by omega)).trans (by simp [hxl])
      have hfr : wr.frozen? ⟨w.heap.size, k, none⟩ = false := ho.out.1.frozenAt k
      go_wp2
      go_roundw
      case rel => exact ⟨k + 1, xs.set k (.int .i64 x), by omega, by go_num, ⟨(ho.out.1.stored k _).1, fun j hj => by
          rw [List.getElem?_set]
          rcases Nat.lt_succ_iff_lt_or_eq.1 hj with h | rfl
          · rw [if_neg (by omega)]; exact ho.out.2 j h
          · rw [if_pos rfl, if_pos hxl, HX.out]⟩, hnx.setCell (Nat.le_refl _) _⟩
      case measure => simp [intOf]; omega
    · obtain rfl : k = zs.length := by omega
      have hxs : xs = kI.flat zs := by
        refine kI.flat_of xs zs ho.out.1.1 fun j hj i hi => ?_
        have e : i = 0 := by have : i < 1 := hi; omega
        subst e
        simpa [kI] using ho.out.2 j hj
      subst hxs
      go_wp2
      go_ret
      exact ⟨rfl, .inr ⟨_, rfl, (owns_lt ho.out.1).2, ho.out.1⟩, hnx⟩
set_option maxHeartbeats 1000000 in
theorem eqIntS_same (ao bo : Option Addr) (cap cap' : Nat) (zs : List Int) (w : World) (hl : zs.length ≤ 1048576) (hz : kI.In w.heap.size w ao zs) (hz' : kI.In w.heap.size w bo zs) :
    Calls Try.prog 61 #[.slice ao zs.length cap, .slice bo zs.length cap'] w fun e w' => e = .returned (.bool true) ∧ Below w.heap.size w w' := by
  have hne : ((zs.length : Int) != (zs.length : Int)) = false := by simp
  go_enter Try.func61, Try.ntmps61
  go_wp2
  go_loopw [5] (fun i wr => ∃ k : Nat, k ≤ zs.length ∧ i = .int .i64 k ∧ Below w.heap.size w wr) (fun i _ => zs.length - (intOf i).toNat)
  case atStart => exact ⟨0, Nat.zero_le _, rfl, Below.refl _ _⟩
  case round =>
    obtain ⟨k, hk, rfl, hnx⟩ := hrel
    by_cases hlt : k < zs.length
    · obtain ⟨b, off, rfl, hb, hc⟩ := ints_at hz hlt
      obtain ⟨b', off', rfl, hb', hc'⟩ := ints_at hz' hlt
      have hck := (hnx.cell (p := ⟨b, off + k, none⟩) hb).trans (hc k hlt)
      have hck' := (hnx.cell (p := ⟨b', off' + k, none⟩) hb').trans (hc' k hlt)
      clear hc hz hc' hz'
      obtain ⟨x, hx⟩ : ∃ x, x = el zs k := ⟨_, rfl⟩
      rw [← hx] at hck hck'
      clear hx
      have hxx : (x != x) = false := by simp
      go_wp2
      go_quiet (fail)
      go_wp2
      go_roundw
      case rel => exact ⟨k + 1, by omega, by go_num, below_draws hnx _⟩
      case measure => simp [intOf]; omega
    · obtain rfl : k = zs.length := by omega
      go_wp2
      go_ret
      exact ⟨rfl, hnx⟩
/-- The marks of a row of ints. -/
def markI (k : Int) (n : Nat) : List Int := (List.range n).map (fun i : Nat => k + (i : Int))
theorem markI_len (k : Int) (n : Nat) : (markI k n).length = n := by simp [markI]
theorem markI_at (k : Int) (n j : Nat) (h : j < n) : el (markI k n) j = k + (j : Int) := by simp [markI, el, h]
set_option maxHeartbeats 1000000 in
theorem markIntS_any (lo hi : Nat) (qo : Option Addr) (qc : Nat) (q : List Int) (k0 : Int) (w : World) (hl : q.length ≤ 2097152) (hk0 : 0 ≤ k0) (hk1 : k0 ≤ 16777216) (hF : kI.Fresh lo hi w qo qc q) :
    Calls Try.prog 46 #[.slice qo q.length qc, .int .i64 k0] w fun e w' => e = .returned (.int .i64 (k0 + q.length)) ∧ kI.Fresh lo hi w' qo qc (markI k0 q.length) ∧ OnlyAt (eff qo q.length) w w' := by
  rcases Nat.eq_zero_or_pos q.length with h0 | h0
  · obtain rfl : q = [] := List.length_eq_zero_iff.1 h0
    go_enter Try.func46, Try.ntmps46
    go_wp2
    go_loop [1, 5] (fun v i => v = .int .i64 k0 ∧ i = .int .i64 0) (fun _ _ => 0)
    case atStart => exact ⟨rfl, rfl⟩
    case round =>
      obtain ⟨rfl, rfl⟩ := hrel
      go_wp2
      go_ret
      exact ⟨by simp, .inl (by simp [markI]), OnlyAt.refl _ _⟩
  · rw [eff_pos h0]
    obtain ⟨g, rfl, _, hg, _, ho⟩ := hF.at h0
    have HO : Hid (w.ownsRow lo 3 1 (.slice (some ⟨g, 0, none⟩) q.length qc) q.length (kI.flat q)) := ho
    clear ho
    go_enter Try.func46, Try.ntmps46
    go_wp2
    go_loopw [1, 5] (fun v i wr => ∃ (k : Nat) (xs : List Value), k ≤ q.length ∧ i = .int .i64 k ∧ v = .int .i64 (k0 + k) ∧ Hid (wr.ownsRow lo 3 1 (.slice (some ⟨g, 0, none⟩) q.length qc) q.length xs ∧ ∀ j : Nat, j < k → xs[j]? = some (.int .i64 (k0 + j))) ∧ OnlyAt (some ⟨g, 0, none⟩) w wr) (fun _ i _ => q.length - (intOf i).toNat)
    case atStart => exact ⟨0, _, Nat.zero_le _, rfl, by simp, ⟨HO.out, fun j hj => by omega⟩, OnlyAt.refl _ _⟩
    case round =>
      obtain ⟨k, xs, hk, rfl, rfl, ho, hnx⟩ := hrel
      by_cases hlt : k < q.length
      · have hxl : k < xs.length := by rw [ho.out.1.1]; omega
        have hst : wr.cell? ⟨g, k, none⟩ = some xs[k] := (ho.out.1.cellAt k (by omega)).trans (by simp [hxl])
        have hfr : wr.frozen? ⟨g, k, none⟩ = false := ho.out.1.frozenAt k
        go_wp2
        go_roundw
        case rel => exact ⟨k + 1, xs.set k (.int .i64 (k0 + k)), by omega, by go_num, by go_num, ⟨(ho.out.1.stored k _).1, fun j hj => by
          rw [List.getElem?_set]
          rcases Nat.lt_succ_iff_lt_or_eq.1 hj with h | rfl
          · rw [if_neg (by omega)]; exact ho.out.2 j h
          · rw [if_pos rfl, if_pos hxl]⟩, hnx.trans (OnlyAt.set g k _ _)⟩
        case measure => simp [intOf]; omega
      · obtain rfl : k = q.length := by omega
        have hxs : xs = kI.flat (markI k0 q.length) := by
          refine kI.flat_of xs _ (by rw [markI_len]; exact ho.out.1.1) fun j hj i hi => ?_
          have e : i = 0 := by have : i < 1 := hi; omega
          subst e
          rw [markI_len] at hj
          rw [markI_at _ _ _ hj]
          simpa [kI] using ho.out.2 j hj
        subst hxs
        go_wp2
        go_ret
        refine ⟨rfl, .inr ⟨g, rfl, hg, ?_⟩, hnx⟩
        rw [markI_len]; exact ho.out.1
set_option maxHeartbeats 1000000 in
theorem heldIntS_any (qo : Option Addr) (qc : Nat) (n : Nat) (k0 : Int) (w : World) (hl : n ≤ 2097152) (hk0 : 0 ≤ k0) (hk1 : k0 ≤ 16777216) (hF : kI.In w.heap.size w qo (markI k0 n)) :
    Calls Try.prog 48 #[.slice qo n qc, .int .i64 k0] w fun e w' => e = .returned (.int .i64 (k0 + n)) ∧ w' = w := by
  go_enter Try.func48, Try.ntmps48
  go_wp2
  go_loop [1, 5] (fun v i => ∃ k : Nat, k ≤ n ∧ i = .int .i64 k ∧ v = .int .i64 (k0 + k)) (fun _ i => n - (intOf i).toNat)
  case atStart => exact ⟨0, Nat.zero_le _, rfl, by simp⟩
  case round =>
    obtain ⟨k, hk, rfl, rfl⟩ := hrel
    by_cases hlt : k < n
    · obtain ⟨b, off, rfl, hb, hc⟩ := ints_at hF (k := k) (by rw [markI_len]; exact hlt)
      have hck := hc k (by rw [markI_len]; exact hlt)
      rw [markI_at _ _ _ hlt] at hck
      clear hc hF
      have hne : (k0 + (k : Int) != k0 + (k : Int)) = false := by simp
      go_wp2
      go_round
      case rel => exact ⟨k + 1, by omega, by go_num, by go_num⟩
      case measure => simp [intOf]; omega
    · obtain rfl : k = n := by omega
      go_wp2
      go_ret
      exact ⟨rfl, rfl⟩
end Go.Proofs.Ytdjdbcfcccbhpaa
