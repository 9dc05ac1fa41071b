
/- Small contracts of chapter 3: who waits well. No conditions but those written. -/
import Derived.Test.YtdjdbcfcccbhpaaOAa
namespace Go.Proofs.Ytdjdbcfcccbhpaa.Old
open Go.RowKit

theorem ret_boolE {a b : Bool} {X : Prop} (h : a = b) (hx : X) : Ending.returned (.bool a) = .returned (.bool b) ∧ X := ⟨by rw [h], hx⟩

set_option maxHeartbeats 400000 in
theorem l1In_is (n lo hi : Int) (w : World) (b : Bool) (hb : (decide (lo ≤ n) && decide (n ≤ hi)) = b) :
    Calls Try.prog 16 #[.int .i64 n, .int .i64 lo, .int .i64 hi] w fun e w' => e = .returned (.bool b) ∧ w' = w := by
  subst hb
  by_cases h : lo ≤ n
  · go_enter Try.func16, Try.ntmps16
    go_wp2
    go_ret
    exact ⟨by simp [*], rfl⟩
  · have h' : decide (lo ≤ n) = false := by simpa using h
    go_enter Try.func16, Try.ntmps16
    go_wp2
    go_ret
    exact ⟨by simp [*], rfl⟩

set_option maxHeartbeats 400000 in
theorem l3Task_is (n : Int) (w : World) (b : Bool) (hb : (decide (0 ≤ n) && decide (n ≤ 29)) = b) :
    Calls Try.prog 69 #[.int .i64 n] w fun e w' => e = .returned (.bool b) ∧ w' = w := by
  go_enter Try.func69, Try.ntmps69
  go_wp2_with fail
  refine (l1In_is n 0 29 _ b hb).mono ?_
  rintro e w1 ⟨rfl, rfl⟩
  go_wp2
  go_ret
  exact ⟨rfl, rfl⟩

set_option maxHeartbeats 400000 in
theorem isTask_is (n : Int) (w : World) (b : Bool) (hb : (decide (0 ≤ n) && decide (n ≤ 29)) = b) :
    Calls Try.prog 66 #[.int .i64 n] w fun e w' => e = .returned (.bool b) ∧ w' = w := by
  subst hb
  by_cases h : 0 ≤ n
  · go_enter Try.func66, Try.ntmps66
    go_wp2
    go_ret
    refine ⟨ret_bool ?_, rfl⟩
    simp [h]; omega
  · have h' : decide (0 ≤ n) = false := by simpa using h
    go_enter Try.func66, Try.ntmps66
    go_wp2
    go_ret
    exact ⟨ret_bool (by simp), rfl⟩

set_option maxHeartbeats 1000000 in
theorem l3Waiter_is (a c v : Int) (w : World) (x : Bool) (hx : wtB (a, c, v) = x) :
    Calls Try.prog 63 #[.agg #[.int .i64 a, .int .i64 c, .int .i64 v]] w fun e w' => e = .returned (.bool x) ∧ Below w.heap.size w w' := by
  cases h1 : (decide (0 ≤ a) && decide (a ≤ 29))
  · have H1 : Hid ((decide (0 ≤ a) && decide (a ≤ 29)) = false) := h1
    have HX : Hid (x = false) := by rw [Hid, ← hx, wtB, h1]; rfl
    clear h1 hx
    go_enter Try.func63, Try.ntmps63
    go_wp2_with fail
    refine (l3Task_is a _ false H1.out).mono ?_
    rintro e w1 ⟨rfl, rfl⟩
    go_wp2
    go_ret
    exact ⟨ret_bool HX.out.symm, below1 _ _⟩
  · have H1 : Hid ((decide (0 ≤ a) && decide (a ≤ 29)) = true) := h1
    have HX : Hid ((decide (0 ≤ c) && decide (c ≤ 9)) = x) := by rw [Hid, ← hx, wtB, h1]; rfl
    clear h1 hx
    go_enter Try.func63, Try.ntmps63
    go_wp2_with fail
    refine (l3Task_is a _ true H1.out).mono ?_
    rintro e w1 ⟨rfl, rfl⟩
    go_wp2_with fail
    refine (l1In_is c 0 9 _ x HX.out).mono ?_
    rintro e w1 ⟨rfl, rfl⟩
    go_wp2
    go_ret
    exact ⟨rfl, below1 _ _⟩

set_option maxHeartbeats 1000000 in
theorem goodSender_is (a c v : Int) (w : World) (x : Bool) (hx : wtB (a, c, v) = x) :
    Calls Try.prog 57 #[.agg #[.int .i64 a, .int .i64 c, .int .i64 v]] w fun e w' => e = .returned (.bool x) ∧ Below w.heap.size w w' := by
  cases h1 : (decide (0 ≤ a) && decide (a ≤ 29))
  · have H1 : Hid ((decide (0 ≤ a) && decide (a ≤ 29)) = false) := h1
    have HX : Hid (x = false) := by rw [Hid, ← hx, wtB, h1]; rfl
    clear h1 hx
    go_enter Try.func57, Try.ntmps57
    go_wp2_with fail
    refine (isTask_is a _ false H1.out).mono ?_
    rintro e w1 ⟨rfl, rfl⟩
    go_wp2
    go_ret
    exact ⟨ret_bool HX.out.symm, below1 _ _⟩
  · have H1 : Hid ((decide (0 ≤ a) && decide (a ≤ 29)) = true) := h1
    by_cases h2 : 0 ≤ c
    · have HX : Hid (decide (c ≤ 9) = x) := by rw [Hid, ← hx, wtB, h1]; simp [h2]
      clear h1 hx
      go_enter Try.func57, Try.ntmps57
      go_wp2_with fail
      refine (isTask_is a _ true H1.out).mono ?_
      rintro e w1 ⟨rfl, rfl⟩
      go_wp2
      go_ret
      exact ⟨ret_bool HX.out, below1 _ _⟩
    · have HX : Hid (x = false) := by rw [Hid, ← hx, wtB, h1]; simp [h2]
      have h2' : decide (0 ≤ c) = false := by simpa using h2
      clear h1 hx
      go_enter Try.func57, Try.ntmps57
      go_wp2_with fail
      refine (isTask_is a _ true H1.out).mono ?_
      rintro e w1 ⟨rfl, rfl⟩
      go_wp2
      go_ret
      exact ⟨ret_bool HX.out.symm, below1 _ _⟩

set_option maxHeartbeats 1000000 in
theorem goodReceiver_is (a c v : Int) (w : World) (x : Bool) (hx : rcB (a, c, v) = x) :
    Calls Try.prog 58 #[.agg #[.int .i64 a, .int .i64 c, .int .i64 v]] w fun e w' => e = .returned (.bool x) ∧ Below w.heap.size w w' := by
  cases h1 : wtB (a, c, v)
  · have H1 : Hid (wtB (a, c, v) = false) := h1
    have HX : Hid (x = false) := by rw [Hid, ← hx, rcB, h1]; rfl
    clear h1 hx
    go_enter Try.func58, Try.ntmps58
    go_wp2_with fail
    refine (goodSender_is a c v _ false H1.out).mono ?_
    rintro e w1 ⟨rfl, hb1⟩
    have hB1 := (below1 w (.cells #[.int .i64 a, .int .i64 c, .int .i64 v] 70)).trans (hb1.mono (by simp))
    go_wp2
    go_ret
    exact ⟨ret_bool HX.out.symm, hB1⟩
  · have H1 : Hid (wtB (a, c, v) = true) := h1
    have HX : Hid ((v == 0) = x) := by rw [Hid, ← hx, rcB, h1]; rfl
    clear h1 hx
    go_enter Try.func58, Try.ntmps58
    go_wp2_with fail
    refine (goodSender_is a c v _ true H1.out).mono ?_
    rintro e w1 ⟨rfl, hb1⟩
    have hB1 := (below1 w (.cells #[.int .i64 a, .int .i64 c, .int .i64 v] 70)).trans (hb1.mono (by simp))
    have c2 : w1.cell? ⟨w.heap.size, 2, none⟩ = some (.int .i64 v) := (hb1.cell (p := ⟨w.heap.size, 2, none⟩) (by simp)).trans (by simp)
    clear hb1
    go_wp2
    go_ret
    exact ⟨ret_bool HX.out, hB1⟩

set_option maxHeartbeats 2000000 in
theorem goodSenders_is (ao : Option Addr) (cap : Nat) (ts : List T3) (w : World) (x : Bool) (hl : ts.length ≤ 9223372036854775807) (hz : TimersIn w.heap.size w ao ts) (hx : rowB wtB ts = x) :
    Calls Try.prog 56 #[.slice ao ts.length cap, .func (.func 57) #[] #[]] w fun e w' => e = .returned (.bool x) ∧ Below w.heap.size w w' := by
  by_cases h40 : 40 < ts.length
  · have HX : Hid (x = false) := by rw [Hid, ← hx, rowB_long h40]
    clear hx
    go_enter Try.func56, Try.ntmps56
    go_wp2
    go_ret
    exact ⟨ret_bool HX.out.symm, Below.refl _ _⟩
  have h40' : decide ((40 : Int) < (ts.length : Int)) = false := by simp; omega
  have HX : Hid (rowB wtB ts = x) := hx
  clear hx
  go_enter Try.func56, Try.ntmps56
  go_wp2
  go_loopw [12] (fun i wr => ∃ k : Nat, k ≤ ts.length ∧ i = .int .i64 k ∧ Hid (∀ j, j < k → wtB (t3 ts j) = true) ∧ Below w.heap.size w wr) (fun i _ => ts.length - (intOf i).toNat)
  case atStart => exact ⟨0, Nat.zero_le _, rfl, fun j hj => by omega, Below.refl _ _⟩
  case round =>
    obtain ⟨k, hk, rfl, hno, hB⟩ := hrel
    have hsz := hB.size
    by_cases hlt : k < ts.length
    · obtain ⟨b, off, rfl, hb, hc⟩ := hz.pos hlt
      obtain ⟨c1, c2, c3⟩ := hc k hlt
      have d1 := (hB.cell (p := ⟨b, off + k * 3, none⟩) hb).trans c1
      have d2 := (hB.cell (p := ⟨b, off + k * 3 + 1, none⟩) hb).trans c2
      have d3 := (hB.cell (p := ⟨b, off + k * 3 + 2, none⟩) hb).trans c3
      obtain ⟨⟨y1, y2, y3⟩, ey⟩ : ∃ v, v = t3 ts k := ⟨_, rfl⟩
      rw [← ey] at d1 d2 d3
      have HY : Hid (t3 ts k = (y1, y2, y3)) := ey.symm
      clear ey c1 c2 c3 hc hz
      dsimp only at d1 d2 d3
      cases hp : wtB (y1, y2, y3)
      · have HP : Hid (wtB (y1, y2, y3) = false) := hp
        have HF : Hid (x = false) := by rw [Hid, ← HX.out]; exact rowB_bad k hlt (by rw [HY.out]; exact HP.out)
        clear hp
        go_wp2_with fail
        refine (goodSender_is y1 y2 y3 _ false HP.out).mono ?_
        rintro e w1 ⟨rfl, hb1⟩
        have hB1 : Below w.heap.size w w1 := (hB.alloc hsz (.cells #[.int .i64 y1, .int .i64 y2, .int .i64 y3] 70)).trans (hb1.mono (by simp; omega))
        go_wp2
        go_ret
        exact ⟨ret_bool HF.out.symm, hB1⟩
      · have HP : Hid (wtB (y1, y2, y3) = true) := hp
        clear hp
        go_wp2_with fail
        refine (goodSender_is y1 y2 y3 _ true HP.out).mono ?_
        rintro e w1 ⟨rfl, hb1⟩
        have hB1 : Below w.heap.size w w1 := (hB.alloc hsz (.cells #[.int .i64 y1, .int .i64 y2, .int .i64 y3] 70)).trans (hb1.mono (by simp; omega))
        clear hb1
        go_wp2
        go_roundw
        case rel => exact ⟨k + 1, by omega, by go_num, fun j' hj' => by
          rcases Nat.lt_succ_iff_lt_or_eq.1 hj' with h | rfl
          · exact hno.out j' h
          · rw [HY.out]; exact HP.out, hB1⟩
        case measure => simp [intOf]; omega
    · obtain rfl : k = ts.length := by omega
      have HT : Hid (x = true) := by rw [Hid, ← HX.out]; exact rowB_end (by omega) hno.out
      go_wp2
      go_ret
      exact ⟨ret_bool HT.out.symm, hB⟩

set_option maxHeartbeats 2000000 in
theorem goodReceivers_is (ao : Option Addr) (cap : Nat) (ts : List T3) (w : World) (x : Bool) (hl : ts.length ≤ 9223372036854775807) (hz : TimersIn w.heap.size w ao ts) (hx : rowB rcB ts = x) :
    Calls Try.prog 56 #[.slice ao ts.length cap, .func (.func 58) #[] #[]] w fun e w' => e = .returned (.bool x) ∧ Below w.heap.size w w' := by
  by_cases h40 : 40 < ts.length
  · have HX : Hid (x = false) := by rw [Hid, ← hx, rowB_long h40]
    clear hx
    go_enter Try.func56, Try.ntmps56
    go_wp2
    go_ret
    exact ⟨ret_bool HX.out.symm, Below.refl _ _⟩
  have h40' : decide ((40 : Int) < (ts.length : Int)) = false := by simp; omega
  have HX : Hid (rowB rcB ts = x) := hx
  clear hx
  go_enter Try.func56, Try.ntmps56
  go_wp2
  go_loopw [12] (fun i wr => ∃ k : Nat, k ≤ ts.length ∧ i = .int .i64 k ∧ Hid (∀ j, j < k → rcB (t3 ts j) = true) ∧ Below w.heap.size w wr) (fun i _ => ts.length - (intOf i).toNat)
  case atStart => exact ⟨0, Nat.zero_le _, rfl, fun j hj => by omega, Below.refl _ _⟩
  case round =>
    obtain ⟨k, hk, rfl, hno, hB⟩ := hrel
    have hsz := hB.size
    by_cases hlt : k < ts.length
    · obtain ⟨b, off, rfl, hb, hc⟩ := hz.pos hlt
      obtain ⟨c1, c2, c3⟩ := hc k hlt
      have d1 := (hB.cell (p := ⟨b, off + k * 3, none⟩) hb).trans c1
      have d2 := (hB.cell (p := ⟨b, off + k * 3 + 1, none⟩) hb).trans c2
      have d3 := (hB.cell (p := ⟨b, off + k * 3 + 2, none⟩) hb).trans c3
      obtain ⟨⟨y1, y2, y3⟩, ey⟩ : ∃ v, v = t3 ts k := ⟨_, rfl⟩
      rw [← ey] at d1 d2 d3
      have HY : Hid (t3 ts k = (y1, y2, y3)) := ey.symm
      clear ey c1 c2 c3 hc hz
      dsimp only at d1 d2 d3
      cases hp : rcB (y1, y2, y3)
      · have HP : Hid (rcB (y1, y2, y3) = false) := hp
        have HF : Hid (x = false) := by rw [Hid, ← HX.out]; exact rowB_bad k hlt (by rw [HY.out]; exact HP.out)
        clear hp
        go_wp2_with fail
        refine (goodReceiver_is y1 y2 y3 _ false HP.out).mono ?_
        rintro e w1 ⟨rfl, hb1⟩
        have hB1 : Below w.heap.size w w1 := (hB.alloc hsz (.cells #[.int .i64 y1, .int .i64 y2, .int .i64 y3] 70)).trans (hb1.mono (by simp; omega))
        go_wp2
        go_ret
        exact ⟨ret_bool HF.out.symm, hB1⟩
      · have HP : Hid (rcB (y1, y2, y3) = true) := hp
        clear hp
        go_wp2_with fail
        refine (goodReceiver_is y1 y2 y3 _ true HP.out).mono ?_
        rintro e w1 ⟨rfl, hb1⟩
        have hB1 : Below w.heap.size w w1 := (hB.alloc hsz (.cells #[.int .i64 y1, .int .i64 y2, .int .i64 y3] 70)).trans (hb1.mono (by simp; omega))
        clear hb1
        go_wp2
        go_roundw
        case rel => exact ⟨k + 1, by omega, by go_num, fun j' hj' => by
          rcases Nat.lt_succ_iff_lt_or_eq.1 hj' with h | rfl
          · exact hno.out j' h
          · rw [HY.out]; exact HP.out, hB1⟩
        case measure => simp [intOf]; omega
    · obtain rfl : k = ts.length := by omega
      have HT : Hid (x = true) := by rw [Hid, ← HX.out]; exact rowB_end (by omega) hno.out
      go_wp2
      go_ret
      exact ⟨ret_bool HT.out.symm, hB⟩

set_option maxHeartbeats 2000000 in
theorem l3Senders_is (ao : Option Addr) (cap : Nat) (ts : List T3) (w : World) (x : Bool) (hl : ts.length ≤ 9223372036854775807) (hz : TimersIn w.heap.size w ao ts) (hx : rowB wtB ts = x) :
    Calls Try.prog 52 #[.slice ao ts.length cap, .bool false] w fun e w' => e = .returned (.bool x) ∧ Below w.heap.size w w' := by
  by_cases h40 : 40 < ts.length
  · have HX : Hid (x = false) := by rw [Hid, ← hx, rowB_long h40]
    clear hx
    go_enter Try.func52, Try.ntmps52
    go_wp2
    go_ret
    exact ⟨ret_bool HX.out.symm, Below.refl _ _⟩
  have h40' : decide ((40 : Int) < (ts.length : Int)) = false := by simp; omega
  have HX : Hid (rowB wtB ts = x) := hx
  clear hx
  go_enter Try.func52, Try.ntmps52
  go_wp2
  go_loopw [12] (fun i wr => ∃ k : Nat, k ≤ ts.length ∧ i = .int .i64 k ∧ Hid (∀ j, j < k → wtB (t3 ts j) = true) ∧ Below w.heap.size w wr) (fun i _ => ts.length - (intOf i).toNat)
  case atStart => exact ⟨0, Nat.zero_le _, rfl, fun j hj => by omega, Below.refl _ _⟩
  case round =>
    obtain ⟨k, hk, rfl, hno, hB⟩ := hrel
    have hsz := hB.size
    by_cases hlt : k < ts.length
    · obtain ⟨b, off, rfl, hb, hc⟩ := hz.pos hlt
      obtain ⟨c1, c2, c3⟩ := hc k hlt
      have d1 := (hB.cell (p := ⟨b, off + k * 3, none⟩) hb).trans c1
      have d2 := (hB.cell (p := ⟨b, off + k * 3 + 1, none⟩) hb).trans c2
      have d3 := (hB.cell (p := ⟨b, off + k * 3 + 2, none⟩) hb).trans c3
      obtain ⟨⟨y1, y2, y3⟩, ey⟩ : ∃ v, v = t3 ts k := ⟨_, rfl⟩
      rw [← ey] at d1 d2 d3
      have HY : Hid (t3 ts k = (y1, y2, y3)) := ey.symm
      clear ey c1 c2 c3 hc hz
      dsimp only at d1 d2 d3
      cases hp : wtB (y1, y2, y3)
      · have HP : Hid (wtB (y1, y2, y3) = false) := hp
        have HF : Hid (x = false) := by rw [Hid, ← HX.out]; exact rowB_bad k hlt (by rw [HY.out]; exact HP.out)
        clear hp
        go_wp2_with fail
        refine (l3Waiter_is y1 y2 y3 _ false HP.out).mono ?_
        rintro e w1 ⟨rfl, hb1⟩
        have hB1 : Below w.heap.size w w1 := (hB.alloc hsz (.cells #[.int .i64 y1, .int .i64 y2, .int .i64 y3] 70)).trans (hb1.mono (by simp; omega))
        go_wp2
        go_ret
        exact ⟨ret_bool HF.out.symm, hB1⟩
      · have HP : Hid (wtB (y1, y2, y3) = true) := hp
        clear hp
        go_wp2_with fail
        refine (l3Waiter_is y1 y2 y3 _ true HP.out).mono ?_
        rintro e w1 ⟨rfl, hb1⟩
        have hB1 : Below w.heap.size w w1 := (hB.alloc hsz (.cells #[.int .i64 y1, .int .i64 y2, .int .i64 y3] 70)).trans (hb1.mono (by simp; omega))
        clear hb1
        go_wp2
        go_roundw
        case rel => exact ⟨k + 1, by omega, by go_num, fun j' hj' => by
          rcases Nat.lt_succ_iff_lt_or_eq.1 hj' with h | rfl
          · exact hno.out j' h
          · rw [HY.out]; exact HP.out, hB1⟩
        case measure => simp [intOf]; omega
    · obtain rfl : k = ts.length := by omega
      have HT : Hid (x = true) := by rw [Hid, ← HX.out]; exact rowB_end (by omega) hno.out
      go_wp2
      go_ret
      exact ⟨ret_bool HT.out.symm, hB⟩

set_option maxHeartbeats 2000000 in
theorem l3Receivers_is (ao : Option Addr) (cap : Nat) (ts : List T3) (w : World) (x : Bool) (hl : ts.length ≤ 9223372036854775807) (hz : TimersIn w.heap.size w ao ts) (hx : rowB rcB ts = x) :
    Calls Try.prog 52 #[.slice ao ts.length cap, .bool true] w fun e w' => e = .returned (.bool x) ∧ Below w.heap.size w w' := by
  by_cases h40 : 40 < ts.length
  · have HX : Hid (x = false) := by rw [Hid, ← hx, rowB_long h40]
    clear hx
    go_enter Try.func52, Try.ntmps52
    go_wp2
    go_ret
    exact ⟨ret_bool HX.out.symm, Below.refl _ _⟩
  have h40' : decide ((40 : Int) < (ts.length : Int)) = false := by simp; omega
  have HX : Hid (rowB rcB ts = x) := hx
  clear hx
  go_enter Try.func52, Try.ntmps52
  go_wp2
  go_loopw [12] (fun i wr => ∃ k : Nat, k ≤ ts.length ∧ i = .int .i64 k ∧ Hid (∀ j, j < k → rcB (t3 ts j) = true) ∧ Below w.heap.size w wr) (fun i _ => ts.length - (intOf i).toNat)
  case atStart => exact ⟨0, Nat.zero_le _, rfl, fun j hj => by omega, Below.refl _ _⟩
  case round =>
    obtain ⟨k, hk, rfl, hno, hB⟩ := hrel
    have hsz := hB.size
    by_cases hlt : k < ts.length
    · obtain ⟨b, off, rfl, hb, hc⟩ := hz.pos hlt
      obtain ⟨c1, c2, c3⟩ := hc k hlt
      have d1 := (hB.cell (p := ⟨b, off + k * 3, none⟩) hb).trans c1
      have d2 := (hB.cell (p := ⟨b, off + k * 3 + 1, none⟩) hb).trans c2
      have d3 := (hB.cell (p := ⟨b, off + k * 3 + 2, none⟩) hb).trans c3
      obtain ⟨⟨y1, y2, y3⟩, ey⟩ : ∃ v, v = t3 ts k := ⟨_, rfl⟩
      rw [← ey] at d1 d2 d3
      have HY : Hid (t3 ts k = (y1, y2, y3)) := ey.symm
      clear ey c1 c2 c3 hc hz
      dsimp only at d1 d2 d3
      cases hp : wtB (y1, y2, y3)
      · have HP : Hid (wtB (y1, y2, y3) = false) := hp
        have HF : Hid (x = false) := by rw [Hid, ← HX.out]; exact rowB_bad k hlt (by rw [HY.out]; rw [rcB, HP.out]; rfl)
        clear hp
        go_wp2_with fail
        refine (l3Waiter_is y1 y2 y3 _ false HP.out).mono ?_
        rintro e w1 ⟨rfl, hb1⟩
        have hB1 : Below w.heap.size w w1 := (hB.alloc hsz (.cells #[.int .i64 y1, .int .i64 y2, .int .i64 y3] 70)).trans (hb1.mono (by simp; omega))
        go_wp2
        go_ret
        exact ⟨ret_bool HF.out.symm, hB1⟩
      · have HP : Hid (wtB (y1, y2, y3) = true) := hp
        clear hp
        go_wp2_with fail
        refine (l3Waiter_is y1 y2 y3 _ true HP.out).mono ?_
        rintro e w1 ⟨rfl, hb1⟩
        have hB1 : Below w.heap.size w w1 := (hB.alloc hsz (.cells #[.int .i64 y1, .int .i64 y2, .int .i64 y3] 70)).trans (hb1.mono (by simp; omega))
        have q3 : w1.cell? ⟨wr.heap.size, 2, none⟩ = some (.int .i64 y3) := (hb1.cell (p := ⟨wr.heap.size, 2, none⟩) (by simp)).trans (by simp)
        clear hb1
        by_cases hv : y3 = 0
        · have hv' : (y3 != 0) = false := by simpa using hv
          have HV : Hid (y3 = 0) := hv
          clear hv
          go_wp2
          go_roundw
          case rel => exact ⟨k + 1, by omega, by go_num, fun j' hj' => by
            rcases Nat.lt_succ_iff_lt_or_eq.1 hj' with h | rfl
            · exact hno.out j' h
            · rw [HY.out, rcB, HP.out, HV.out]; rfl, hB1⟩
          case measure => simp [intOf]; omega
        · have hv' : (y3 != 0) = true := by simpa using hv
          have HF : Hid (x = false) := by rw [Hid, ← HX.out]; exact rowB_bad k hlt (by rw [HY.out, rcB]; simp [hv])
          clear hv
          go_wp2
          go_ret
          exact ⟨ret_bool HF.out.symm, hB1⟩
    · obtain rfl : k = ts.length := by omega
      have HT : Hid (x = true) := by rw [Hid, ← HX.out]; exact rowB_end (by omega) hno.out
      go_wp2
      go_ret
      exact ⟨ret_bool HT.out.symm, hB⟩
end Go.Proofs.Ytdjdbcfcccbhpaa.Old
