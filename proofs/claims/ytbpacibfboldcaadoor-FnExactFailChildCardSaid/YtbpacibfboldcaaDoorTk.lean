
/- Ticks: the small functions over them, both sides. No conditions but those written. -/
import Derived.Test.YtbpacibfboldcaaDoorBx
import Derived.Test.YtbpacibfboldcaaDoorIa
namespace Go.Proofs.YtbpacibfboldcaaDoor
open Go.RowKit

/-- A number is a tick. -/
def tickB (n : Int) : Bool := decide (0 ≤ n) && decide (n ≤ 1000000)
def maxRB (n : Int) : Bool := decide (0 ≤ n) && decide (n ≤ 10)
def withinB (n : Int) : Bool := decide (1 ≤ n) && decide (n ≤ 1000)
/-- The tick at a place is good: a tick, and not below the one ahead of it. -/
def tickAt (zs : List Int) (k : Nat) : Bool := tickB (el zs k) && (decide (k = 0) || decide (el zs (k - 1) ≤ el zs k))
/-- Ticks that do not fall. -/
def ticksB (zs : List Int) : Bool := (List.range zs.length).all fun k => tickAt zs k
theorem ticksB_no {zs : List Int} {k : Nat} (hk : k < zs.length) (h : tickAt zs k = false) : ticksB zs = false := by
  rw [ticksB, List.all_eq_false]; exact ⟨k, List.mem_range.2 hk, by simp [h]⟩
theorem ticksB_yes {zs : List Int} (h : ∀ k, k < zs.length → tickAt zs k = true) : ticksB zs = true := by
  rw [ticksB, List.all_eq_true]; exact fun k hk => h k (List.mem_range.1 hk)
theorem ticksB_at {zs : List Int} (h : ticksB zs = true) {k : Nat} (hk : k < zs.length) : tickAt zs k = true := by
  rw [ticksB, List.all_eq_true] at h; exact h k (List.mem_range.2 hk)
theorem ticksB_tick {zs : List Int} (h : ticksB zs = true) {k : Nat} (hk : k < zs.length) : 0 ≤ el zs k ∧ el zs k ≤ 1000000 := by
  have := ticksB_at h hk
  simp [tickAt, tickB] at this; omega
/-- Those above a limit. -/
def above (zs : List Int) (lim : Int) : List Int := zs.filter fun t => decide (lim < t)
theorem above_le (zs : List Int) (lim : Int) : (above zs lim).length ≤ zs.length := List.length_filter_le _ _
theorem above_in {zs : List Int} {lim : Int} {k : Nat} (hk : k < zs.length) (h : lim < el zs k) : above (zs.take (k + 1)) lim = above (zs.take k) lim ++ [el zs k] := by
  rw [take_succ_el hk, above, above, List.filter_append]; simp [h]
theorem above_out {zs : List Int} {lim : Int} {k : Nat} (hk : k < zs.length) (h : ¬ lim < el zs k) : above (zs.take (k + 1)) lim = above (zs.take k) lim := by
  rw [take_succ_el hk, above, above, List.filter_append]; simp [h]
set_option maxHeartbeats 400000 in
theorem isTick_is (n : Int) (w : World) (b : Bool) (hb : tickB n = b) :
    Calls Tryd.prog 32 #[.int .i64 n] w fun e w' => e = .returned (.bool b) ∧ w' = w := by
  subst hb
  by_cases h : 0 ≤ n
  · go_enter Tryd.func32, Tryd.ntmps32
    go_wp2
    go_ret
    refine ⟨ret_bool ?_, rfl⟩
    first | (simp [h, tickB]; done) | (simp [h, tickB]; omega)
  · have h' : decide (0 ≤ n) = false := by simpa using h
    go_enter Tryd.func32, Tryd.ntmps32
    go_wp2
    go_ret
    exact ⟨ret_bool (by first | (simp [tickB, h']; done) | (simp [tickB]; omega)), rfl⟩
set_option maxHeartbeats 400000 in
theorem goodMaxR_is (n : Int) (w : World) (b : Bool) (hb : maxRB n = b) :
    Calls Tryd.prog 56 #[.int .i64 n] w fun e w' => e = .returned (.bool b) ∧ w' = w := by
  subst hb
  by_cases h : 0 ≤ n
  · go_enter Tryd.func56, Tryd.ntmps56
    go_wp2
    go_ret
    refine ⟨ret_bool ?_, rfl⟩
    first | (simp [h, maxRB]; done) | (simp [h, maxRB]; omega)
  · have h' : decide (0 ≤ n) = false := by simpa using h
    go_enter Tryd.func56, Tryd.ntmps56
    go_wp2
    go_ret
    exact ⟨ret_bool (by first | (simp [maxRB, h']; done) | (simp [maxRB]; omega)), rfl⟩
set_option maxHeartbeats 400000 in
theorem goodWithin_is (n : Int) (w : World) (b : Bool) (hb : withinB n = b) :
    Calls Tryd.prog 57 #[.int .i64 n] w fun e w' => e = .returned (.bool b) ∧ w' = w := by
  subst hb
  by_cases h : 1 ≤ n
  · go_enter Tryd.func57, Tryd.ntmps57
    go_wp2
    go_ret
    refine ⟨ret_bool ?_, rfl⟩
    first | (simp [h, withinB]; done) | (simp [h, withinB]; omega)
  · have h' : decide (1 ≤ n) = false := by simpa using h
    go_enter Tryd.func57, Tryd.ntmps57
    go_wp2
    go_ret
    exact ⟨ret_bool (by first | (simp [withinB, h']; done) | (simp [withinB]; omega)), rfl⟩
set_option maxHeartbeats 400000 in
theorem l10Tick_is (n : Int) (w : World) (b : Bool) (hb : tickB n = b) :
    Calls Tryd.prog 25 #[.int .i64 n] w fun e w' => e = .returned (.bool b) ∧ w' = w := by
  go_enter Tryd.func25, Tryd.ntmps25
  go_wp2_with fail
  refine (l1In_is n 0 1000000 _ b hb).mono ?_
  rintro e w1 ⟨rfl, rfl⟩
  go_wp2
  go_ret
  exact ⟨rfl, rfl⟩
set_option maxHeartbeats 2000000 in
theorem implTicks_is (ao : Option Addr) (cap : Nat) (zs : List Int) (w : World) (b : Bool) (hl : zs.length ≤ 1048576) (hz : kI.In w.heap.size w ao zs) (hb : ticksB zs = b) :
    Calls Tryd.prog 58 #[.slice ao zs.length cap] w fun e w' => e = .returned (.bool b) ∧ Below w.heap.size w w' := by
  have HB : Hid (ticksB zs = b) := hb
  clear hb
  go_enter Tryd.func58, Tryd.ntmps58
  go_wp2
  go_loopw [7] (fun i wr => ∃ k : Nat, k ≤ zs.length ∧ i = .int .i64 k ∧ Hid (∀ j, j < k → tickAt zs j = true) ∧ Below w.heap.size w wr) (fun i _ => zs.length - (intOf i).toNat)
  case atStart => exact ⟨0, Nat.zero_le _, rfl, fun j hj => by omega, Below.refl _ _⟩
  case round =>
    obtain ⟨k, hk, rfl, hno, hB⟩ := hrel
    by_cases hlt : k < zs.length
    · obtain ⟨b, off, rfl, hb, hc⟩ := ints_at (hz.below hB) hlt
      have hck := hc k hlt
      obtain ⟨x, hx⟩ : ∃ x, x = el zs k := ⟨_, rfl⟩
      rw [← hx] at hck
      have HX : Hid (x = el zs k) := hx
      clear hx
      cases ht : tickB x
      · have HT := hid ht
        have HV : Hid (ticksB zs = false) := ticksB_no hlt (by rw [tickAt, ← HX.out, ht]; rfl)
        clear hc hz ht
        go_wp2_with fail
        refine (isTick_is x _ false HT.out).mono ?_
        rintro e w1 ⟨rfl, hw1⟩
        subst hw1
        go_wp2
        go_ret
        exact ⟨ret_bool (by rw [← HB.out, HV.out]), hB⟩
      · have HT := hid ht
        clear ht
        by_cases hk0 : k = 0
        · have hk1 : decide (0 < k) = false := by simp [hk0]
          have HV : Hid (tickAt zs k = true) := by rw [Hid, tickAt, ← HX.out, HT.out, hk0]; rfl
          clear hc hz hk0
          go_wp2_with fail
          refine (isTick_is x _ true HT.out).mono ?_
          rintro e w1 ⟨rfl, hw1⟩
          subst hw1
          go_wp2
          go_roundw
          case rel => exact ⟨k + 1, by omega, by go_num, fun j hj => by
            rcases Nat.lt_succ_iff_lt_or_eq.1 hj with h | rfl
            · exact hno.out j h
            · exact HV.out, hB⟩
          case measure => simp [intOf]; omega
        · have hk1 : 0 < k := by omega
          have hcp := hc (k - 1) (by omega)
          obtain ⟨y, hy⟩ : ∃ y, y = el zs (k - 1) := ⟨_, rfl⟩
          rw [← hy] at hcp
          have HY : Hid (y = el zs (k - 1)) := hy
          clear hy hc hz hk0
          by_cases hxy : y > x
          · have HV : Hid (ticksB zs = false) := ticksB_no hlt (by rw [tickAt, ← HX.out, ← HY.out, decide_eq_false (show ¬ y ≤ x by omega), decide_eq_false (show ¬ k = 0 by omega)]; simp)
            go_wp2_with fail
            refine (isTick_is x _ true HT.out).mono ?_
            rintro e w1 ⟨rfl, hw1⟩
            subst hw1
            go_wp2
            go_ret
            exact ⟨ret_bool (by rw [← HB.out, HV.out]), hB⟩
          · have HV : Hid (tickAt zs k = true) := by rw [Hid, tickAt, ← HX.out, ← HY.out, HT.out, decide_eq_true (show y ≤ x by omega)]; simp
            go_wp2_with fail
            refine (isTick_is x _ true HT.out).mono ?_
            rintro e w1 ⟨rfl, hw1⟩
            subst hw1
            go_wp2
            go_roundw
            case rel => exact ⟨k + 1, by omega, by go_num, fun j hj => by
              rcases Nat.lt_succ_iff_lt_or_eq.1 hj with h | rfl
              · exact hno.out j h
              · exact HV.out, hB⟩
            case measure => simp [intOf]; omega
    · obtain rfl : k = zs.length := by omega
      have HV : Hid (ticksB zs = true) := ticksB_yes hno.out
      go_wp2
      go_ret
      exact ⟨ret_bool (by rw [← HB.out, HV.out]), hB⟩
set_option maxHeartbeats 2000000 in
theorem specTicks_is (ao : Option Addr) (cap : Nat) (zs : List Int) (w : World) (b : Bool) (hl : zs.length ≤ 1048576) (hz : kI.In w.heap.size w ao zs) (hb : ticksB zs = b) :
    Calls Tryd.prog 50 #[.slice ao zs.length cap] w fun e w' => e = .returned (.bool b) ∧ Below w.heap.size w w' := by
  have HB : Hid (ticksB zs = b) := hb
  clear hb
  go_enter Tryd.func50, Tryd.ntmps50
  go_wp2
  go_loopw [7] (fun i wr => ∃ k : Nat, k ≤ zs.length ∧ i = .int .i64 k ∧ Hid (∀ j, j < k → tickAt zs j = true) ∧ Below w.heap.size w wr) (fun i _ => zs.length - (intOf i).toNat)
  case atStart => exact ⟨0, Nat.zero_le _, rfl, fun j hj => by omega, Below.refl _ _⟩
  case round =>
    obtain ⟨k, hk, rfl, hno, hB⟩ := hrel
    by_cases hlt : k < zs.length
    · obtain ⟨b, off, rfl, hb, hc⟩ := ints_at (hz.below hB) hlt
      have hck := hc k hlt
      obtain ⟨x, hx⟩ : ∃ x, x = el zs k := ⟨_, rfl⟩
      rw [← hx] at hck
      have HX : Hid (x = el zs k) := hx
      clear hx
      cases ht : tickB x
      · have HT := hid ht
        have HV : Hid (ticksB zs = false) := ticksB_no hlt (by rw [tickAt, ← HX.out, ht]; rfl)
        clear hc hz ht
        go_wp2_with fail
        refine (l10Tick_is x _ false HT.out).mono ?_
        rintro e w1 ⟨rfl, hw1⟩
        subst hw1
        go_wp2
        go_ret
        exact ⟨ret_bool (by rw [← HB.out, HV.out]), hB⟩
      · have HT := hid ht
        clear ht
        by_cases hk0 : k = 0
        · have hk1 : decide (0 < k) = false := by simp [hk0]
          have HV : Hid (tickAt zs k = true) := by rw [Hid, tickAt, ← HX.out, HT.out, hk0]; rfl
          clear hc hz hk0
          go_wp2_with fail
          refine (l10Tick_is x _ true HT.out).mono ?_
          rintro e w1 ⟨rfl, hw1⟩
          subst hw1
          go_wp2
          go_roundw
          case rel => exact ⟨k + 1, by omega, by go_num, fun j hj => by
            rcases Nat.lt_succ_iff_lt_or_eq.1 hj with h | rfl
            · exact hno.out j h
            · exact HV.out, hB⟩
          case measure => simp [intOf]; omega
        · have hk1 : 0 < k := by omega
          have hcp := hc (k - 1) (by omega)
          obtain ⟨y, hy⟩ : ∃ y, y = el zs (k - 1) := ⟨_, rfl⟩
          rw [← hy] at hcp
          have HY : Hid (y = el zs (k - 1)) := hy
          clear hy hc hz hk0
          by_cases hxy : y > x
          · have HV : Hid (ticksB zs = false) := ticksB_no hlt (by rw [tickAt, ← HX.out, ← HY.out, decide_eq_false (show ¬ y ≤ x by omega), decide_eq_false (show ¬ k = 0 by omega)]; simp)
            go_wp2_with fail
            refine (l10Tick_is x _ true HT.out).mono ?_
            rintro e w1 ⟨rfl, hw1⟩
            subst hw1
            go_wp2
            go_ret
            exact ⟨ret_bool (by rw [← HB.out, HV.out]), hB⟩
          · have HV : Hid (tickAt zs k = true) := by rw [Hid, tickAt, ← HX.out, ← HY.out, HT.out, decide_eq_true (show y ≤ x by omega)]; simp
            go_wp2_with fail
            refine (l10Tick_is x _ true HT.out).mono ?_
            rintro e w1 ⟨rfl, hw1⟩
            subst hw1
            go_wp2
            go_roundw
            case rel => exact ⟨k + 1, by omega, by go_num, fun j hj => by
              rcases Nat.lt_succ_iff_lt_or_eq.1 hj with h | rfl
              · exact hno.out j h
              · exact HV.out, hB⟩
            case measure => simp [intOf]; omega
    · obtain rfl : k = zs.length := by omega
      have HV : Hid (ticksB zs = true) := ticksB_yes hno.out
      go_wp2
      go_ret
      exact ⟨ret_bool (by rw [← HB.out, HV.out]), hB⟩
end Go.Proofs.YtbpacibfboldcaaDoor
