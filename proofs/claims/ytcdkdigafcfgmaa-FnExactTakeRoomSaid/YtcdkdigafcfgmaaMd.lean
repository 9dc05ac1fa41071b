/- Whether a room is good: the program. No conditions but those written. -/
import Derived.Test.YtcdkdigafcfgmaaMc
namespace Go.Proofs.Ytcdkdigafcfgmaa
open Go.RowKit

/-- A need fits a size. -/
def manyB (s1 : Int) (t : Int × Int) : Bool := decide (1 ≤ t.2) && decide (t.2 ≤ s1)
/-- A room's numbers are good. -/
def sizesB (s1 s2 : Int) : Bool := (decide (1 ≤ s1) && decide (s1 ≤ 1000)) && (decide (0 ≤ s2) && decide (s2 ≤ s1))
/-- A room is good. -/
def roomB (s1 s2 : Int) (l : List (Int × Int)) : Bool := sizesB s1 s2 && (l.all (manyB s1) && (lineB (tasksOf l) && !firstB s1 s2 l))
theorem roomB_sizes {s1 s2 : Int} {l : List (Int × Int)} (h : sizesB s1 s2 = false) : roomB s1 s2 l = false := by rw [roomB, h]; rfl
theorem roomB_many {s1 s2 : Int} {l : List (Int × Int)} (k : Nat) (hk : k < l.length) (h : manyB s1 (el l k) = false) : roomB s1 s2 l = false := by
  have : l.all (manyB s1) = false := by rw [List.all_eq_false]; exact ⟨el l k, el_mem hk, by simp [h]⟩
  rw [roomB, this]; simp
theorem roomB_line {s1 s2 : Int} {l : List (Int × Int)} (h : lineB (tasksOf l) = false) : roomB s1 s2 l = false := by rw [roomB, h]; simp
theorem roomB_long {s1 s2 : Int} {l : List (Int × Int)} (h : 30 < l.length) : roomB s1 s2 l = false := roomB_line (lineB_long (by rw [tasksOf_len]; exact h))
theorem all_many {s1 : Int} {l : List (Int × Int)} (h : ∀ j, j < l.length → manyB s1 (el l j) = true) : l.all (manyB s1) = true := by
  rw [List.all_eq_true]; intro x hx
  obtain ⟨j, hj, rfl⟩ := mem_el hx
  exact h j hj
theorem roomB_tail {s1 s2 : Int} {l : List (Int × Int)} (h : sizesB s1 s2 = true) (h2 : ∀ j, j < l.length → manyB s1 (el l j) = true) (h3 : lineB (tasksOf l) = true) : roomB s1 s2 l = !firstB s1 s2 l := by
  rw [roomB, h, all_many h2, h3]; rfl
theorem sizesB_ok {s1 s2 : Int} (h : sizesB s1 s2 = true) : 1 ≤ s1 ∧ s1 ≤ 1000 ∧ 0 ≤ s2 ∧ s2 ≤ s1 := by
  simp only [sizesB, Bool.and_eq_true, decide_eq_true_eq] at h
  exact ⟨h.1.1, h.1.2, h.2.1, h.2.2⟩
theorem roomB_good {s1 s2 : Int} {l : List (Int × Int)} (h : roomB s1 s2 l = true) : sizesB s1 s2 = true ∧ (∀ j, j < l.length → manyB s1 (el l j) = true) ∧ lineB (tasksOf l) = true ∧ firstB s1 s2 l = false := by
  simp only [roomB, Bool.and_eq_true, Bool.not_eq_true'] at h
  exact ⟨h.1, fun j hj => (List.all_eq_true.1 h.2.1) _ (el_mem hj), h.2.2.1, h.2.2.2⟩
theorem roomB_len {s1 s2 : Int} {l : List (Int × Int)} (h : roomB s1 s2 l = true) : l.length ≤ 30 := by
  have := lineB_len (roomB_good h).2.2.1
  rwa [tasksOf_len] at this

set_option maxRecDepth 10000 in
set_option maxHeartbeats 4000000 in
theorem implGoodRoom_is (s1 s2 : Int) (ao : Option Addr) (cap : Nat) (l : List (Int × Int)) (w : World) (x : Bool) (hl : l.length ≤ 1048576) (hz : kN.In w.heap.size w ao l) (hx : roomB s1 s2 l = x) :
    Calls Try.prog 31 #[.agg #[.int .i64 s1, .int .i64 s2, .slice ao l.length cap]] w fun e w' => e = .returned (.bool x) ∧ Below w.heap.size w w' := by
  have hB0 := below1 w (.cells #[.int .i64 s1, .int .i64 s2, .slice ao l.length cap] 46)
  by_cases hc1 : s1 < 1
  · have HV : Hid (x = false) := by rw [Hid, ← hx]; exact roomB_sizes (by simp [sizesB]; omega)
    have hc1' : decide (s1 < 1) = true := by simpa using hc1
    clear hx
    go_enter Try.func31, Try.ntmps31
    go_wp2
    go_ret
    exact ⟨ret_bool HV.out.symm, hB0⟩
  have hc1' : decide (s1 < 1) = false := by simpa using hc1
  by_cases hc2 : 1000 < s1
  · have HV : Hid (x = false) := by rw [Hid, ← hx]; exact roomB_sizes (by simp [sizesB]; omega)
    have hc2' : decide (1000 < s1) = true := by simpa using hc2
    clear hx
    go_enter Try.func31, Try.ntmps31
    go_wp2
    go_ret
    exact ⟨ret_bool HV.out.symm, hB0⟩
  have hc2' : decide (1000 < s1) = false := by simpa using hc2
  by_cases hc3 : s2 < 0
  · have HV : Hid (x = false) := by rw [Hid, ← hx]; exact roomB_sizes (by simp [sizesB]; omega)
    have hc3' : decide (s2 < 0) = true := by simpa using hc3
    clear hx
    go_enter Try.func31, Try.ntmps31
    go_wp2
    go_ret
    exact ⟨ret_bool HV.out.symm, hB0⟩
  have hc3' : decide (s2 < 0) = false := by simpa using hc3
  by_cases hc4 : s1 < s2
  · have HV : Hid (x = false) := by rw [Hid, ← hx]; exact roomB_sizes (by simp [sizesB]; omega)
    have hc4' : decide (s1 < s2) = true := by simpa using hc4
    clear hx
    go_enter Try.func31, Try.ntmps31
    go_wp2
    go_ret
    exact ⟨ret_bool HV.out.symm, hB0⟩
  have hc4' : decide (s1 < s2) = false := by simpa using hc4
  by_cases hc5 : (30 : Int) < (l.length : Int)
  · have HV : Hid (x = false) := by rw [Hid, ← hx]; exact roomB_long (by omega)
    have hc5' : decide ((30 : Int) < (l.length : Int)) = true := by simpa using hc5
    clear hx
    go_enter Try.func31, Try.ntmps31
    go_wp2
    go_ret
    exact ⟨ret_bool HV.out.symm, hB0⟩
  have hc5' : decide ((30 : Int) < (l.length : Int)) = false := by simpa using hc5
  have HX : Hid (roomB s1 s2 l = x) := hx
  have HZ : Hid (sizesB s1 s2 = true) := by simp [Hid, sizesB]; omega
  have A0 := hid (Bx.new (w := w) (p := w.heap.size) [.int .i64 s1, .int .i64 s2, .slice ao l.length cap] 46 rfl)
  clear hx
  go_enter Try.func31, Try.ntmps31
  go_wp2
  go_loopw [34] (fun i wr => ∃ k : Nat, k ≤ l.length ∧ i = .int .i64 k ∧ Hid (∀ j, j < k → manyB s1 (el l j) = true) ∧ Hid (Bx wr w.heap.size [.int .i64 s1, .int .i64 s2, .slice ao l.length cap]) ∧ Below w.heap.size w wr) (fun i _ => l.length - (intOf i).toNat)
  case atStart => exact ⟨0, Nat.zero_le _, rfl, fun j hj => by omega, A0, hB0⟩
  case round =>
    obtain ⟨k, hk, rfl, hno, hA, hB⟩ := hrel
    have hsz := hB.size
    have hpA := hA.out.size
    have a0 := hA.out.c 0 rfl
    have a1 := hA.out.c 1 rfl
    have a2 := hA.out.c 2 rfl
    by_cases hlt : k < l.length
    · obtain ⟨b, off, rfl, hb, hc⟩ := kN_at hz hlt
      have d1 := (hB.cell (p := ⟨b, off + k * 2, none⟩) hb).trans (hc k hlt).1
      have d2 := (hB.cell (p := ⟨b, off + k * 2 + 1, none⟩) hb).trans (hc k hlt).2
      obtain ⟨⟨y1, y2⟩, ey⟩ : ∃ v, v = el l k := ⟨_, rfl⟩
      rw [← ey] at d1 d2
      have HY : Hid (el l k = (y1, y2)) := ey.symm
      clear ey hc hz
      dsimp only at d1 d2
      by_cases hm1 : y2 < 1
      · have HF : Hid (x = false) := by rw [Hid, ← HX.out]; exact roomB_many k hlt (by rw [HY.out]; simp [manyB]; omega)
        have hm1' : decide (y2 < 1) = true := by simpa using hm1
        go_wp2
        go_ret
        exact ⟨ret_bool HF.out.symm, Below.allocS hB _⟩
      · have hm1' : decide (y2 < 1) = false := by simpa using hm1
        by_cases hm2 : s1 < y2
        · have HF : Hid (x = false) := by rw [Hid, ← HX.out]; exact roomB_many k hlt (by rw [HY.out]; simp [manyB]; omega)
          have hm2' : decide (s1 < y2) = true := by simpa using hm2
          go_wp2
          go_ret
          exact ⟨ret_bool HF.out.symm, Below.allocS hB _⟩
        · have hm2' : decide (s1 < y2) = false := by simpa using hm2
          go_wp2
          go_roundw
          case rel => exact ⟨k + 1, by omega, by go_num, fun j hj => by
            rcases Nat.lt_succ_iff_lt_or_eq.1 hj with h | rfl
            · exact hno.out j h
            · rw [HY.out]; simp [manyB]; omega, hid (hA.out.alloc _), Below.allocS hB _⟩
          case measure => simp [intOf]; omega
    · obtain rfl : k = l.length := by omega
      go_wp2_with fail
      refine (tasksIn_any ao cap l wr hl (hz.later hB)).mono ?_
      rintro e w2 ⟨⟨v, rfl, hO⟩, hb2⟩
      obtain ⟨qo, qc, rfl, _, hI⟩ := hO.in
      have hB2 := hB.trans (hb2.mono hB.size)
      have A2 := hid (hA.out.later hb2)
      have HI : Hid (kI.In w2.heap.size w2 qo (tasksOf l)) := hI
      have hql : (tasksOf l).length ≤ 1048576 := by rw [tasksOf_len]; exact hl
      clear hb2 hO hI a0 a1 a2 hA
      cases hline : lineB (tasksOf l)
      · have HL : Hid (lineB (tasksOf l) = false) := hline
        have HF : Hid (x = false) := by rw [Hid, ← HX.out]; exact roomB_line hline
        clear hline
        go_wp2_with fail
        refine (goodLine_is qo qc (tasksOf l) w2 false hql HI.out HL.out).mono ?_
        rintro e w3 ⟨rfl, hb3⟩
        have hB3 := hB2.trans (hb3.mono hB2.size)
        go_wp2
        go_ret
        exact ⟨ret_bool HF.out.symm, hB3⟩
      · have HL : Hid (lineB (tasksOf l) = true) := hline
        have HT : Hid ((!firstB s1 s2 l) = x) := by rw [Hid, ← HX.out]; exact (roomB_tail HZ.out hno.out hline).symm
        clear hline
        go_wp2_with fail
        refine (goodLine_is qo qc (tasksOf l) w2 true hql HI.out HL.out).mono ?_
        rintro e w3 ⟨rfl, hb3⟩
        have hB3 := hB2.trans (hb3.mono hB2.size)
        have A3 := A2.out.later hb3
        have a0 := A3.c 0 rfl
        have a1 := A3.c 1 rfl
        have a2 := A3.c 2 rfl
        clear hb3 A2 HI
        obtain ⟨f, hf⟩ : ∃ f, firstB s1 s2 l = f := ⟨_, rfl⟩
        have HF : Hid (firstB s1 s2 l = f) := hf
        have HT2 : Hid ((!f) = x) := by rw [Hid, ← hf]; exact HT.out
        clear hf HT
        go_wp2_with fail
        refine (firstHas_is s1 s2 ao cap l w3 f hl ⟨by omega, by omega⟩ ⟨by omega, by omega⟩ (hz.later hB3) HF.out).mono ?_
        rintro e w4 ⟨rfl, hb4⟩
        have hB4 := hB3.trans (hb4.mono hB3.size)
        go_wp2
        go_ret
        exact ⟨ret_bool HT2.out, hB4⟩
end Go.Proofs.Ytcdkdigafcfgmaa
