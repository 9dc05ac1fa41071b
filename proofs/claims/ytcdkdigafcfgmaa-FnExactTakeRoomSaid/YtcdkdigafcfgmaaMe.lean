/- Whether a room is good: the specification. No conditions but those written. -/
import Derived.Test.YtcdkdigafcfgmaaMd
namespace Go.Proofs.Ytcdkdigafcfgmaa
open Go.RowKit

set_option maxRecDepth 10000 in
set_option maxHeartbeats 4000000 in
theorem specGoodRoom_is (s1 s2 : Int) (ao : Option Addr) (cap : Nat) (l : List (Int × Int)) (w : World) (x : Bool) (hl : l.length ≤ 1048576) (hz : kN.In w.heap.size w ao l) (hx : roomB s1 s2 l = x) :
    Calls Try.prog 29 #[.agg #[.int .i64 s1, .int .i64 s2, .slice ao l.length cap]] w fun e w' => e = .returned (.bool x) ∧ Below w.heap.size w w' := by
  have hB0 := below1 w (.cells #[.int .i64 s1, .int .i64 s2, .slice ao l.length cap] 46)
  have A0 := hid (Bx.new (w := w) (p := w.heap.size) [.int .i64 s1, .int .i64 s2, .slice ao l.length cap] 46 rfl)
  cases h1 : (decide (1 ≤ s1) && decide (s1 ≤ 1000))
  · have H1 : Hid ((decide (1 ≤ s1) && decide (s1 ≤ 1000)) = false) := h1
    have HV : Hid (x = false) := by rw [Hid, ← hx]; exact roomB_sizes (by rw [sizesB, h1]; rfl)
    clear hx h1
    go_enter Try.func29, Try.ntmps29
    go_wp2_with fail
    refine (l1In_is s1 1 1000 _ false H1.out).mono ?_
    rintro e w1 ⟨rfl, rfl⟩
    go_wp2
    go_ret
    exact ⟨ret_bool HV.out.symm, hB0⟩
  have H1 : Hid ((decide (1 ≤ s1) && decide (s1 ≤ 1000)) = true) := h1
  cases h2 : (decide (0 ≤ s2) && decide (s2 ≤ s1))
  · have H2 : Hid ((decide (0 ≤ s2) && decide (s2 ≤ s1)) = false) := h2
    have HV : Hid (x = false) := by rw [Hid, ← hx]; exact roomB_sizes (by rw [sizesB, h2]; simp)
    clear hx h1 h2
    go_enter Try.func29, Try.ntmps29
    go_wp2_with fail
    refine (l1In_is s1 1 1000 _ true H1.out).mono ?_
    rintro e w1 ⟨rfl, rfl⟩
    go_wp2_with fail
    refine (l1In_is s2 0 s1 _ false H2.out).mono ?_
    rintro e w1 ⟨rfl, rfl⟩
    go_wp2
    go_ret
    exact ⟨ret_bool HV.out.symm, hB0⟩
  have H2 : Hid ((decide (0 ≤ s2) && decide (s2 ≤ s1)) = true) := h2
  have HZ : Hid (sizesB s1 s2 = true) := by rw [Hid, sizesB, h1, h2]; rfl
  obtain ⟨q1, q2, q3, q4⟩ := sizesB_ok HZ.out
  have HX : Hid (roomB s1 s2 l = x) := hx
  clear hx h1 h2
  go_enter Try.func29, Try.ntmps29
  go_wp2_with fail
  refine (l1In_is s1 1 1000 _ true H1.out).mono ?_
  rintro e w1 ⟨rfl, hw1⟩
  subst hw1
  go_wp2_with fail
  refine (l1In_is s2 0 s1 _ true H2.out).mono ?_
  rintro e w1 ⟨rfl, hw1⟩
  subst hw1
  go_wp2
  go_loopw [3, 21] (fun u i wr => ∃ (k : Nat) (v : Value), v = u ∧ k ≤ l.length ∧ i = .int .i64 k ∧ Hid (kI.Own (w.heap.size + 1) wr v (tasksOf (l.take k))) ∧ Hid (∀ j, j < k → manyB s1 (el l j) = true) ∧ Hid (Bx wr w.heap.size [.int .i64 s1, .int .i64 s2, .slice ao l.length cap]) ∧ Below w.heap.size w wr ∧ w.heap.size + 1 ≤ wr.heap.size) (fun _ i _ => l.length - (intOf i).toNat)
  case atStart => exact ⟨0, _, rfl, Nat.zero_le _, rfl, Kind.Own.nil _ _ _, fun j hj => by omega, A0, hB0, by simp⟩
  case round =>
    obtain ⟨k, v, rfl, hk, rfl, hO, hno, hA, hB, hs⟩ := hrel
    have hpA := hA.out.size
    have a0 := hA.out.c 0 rfl
    have a1 := hA.out.c 1 rfl
    have a2 := hA.out.c 2 rfl
    by_cases hlt : k < l.length
    · obtain ⟨b, off, rfl, hb, hc⟩ := kN_at hz hlt
      have d1 := (hB.cell (p := ⟨b, off + k * 2, none⟩) hb).trans (hc k hlt).1
      have d2 := (hB.cell (p := ⟨b, off + k * 2 + 1, none⟩) hb).trans (hc k hlt).2
      obtain ⟨⟨y1, y2⟩, ey⟩ : ∃ v, v = el l k := ⟨_, rfl⟩
      rw [← ey] at d1 d2
      have HY : Hid (el l k = (y1, y2)) := ey.symm
      clear ey hc hz
      dsimp only at d1 d2
      cases hm : manyB s1 (y1, y2)
      · have HM : Hid ((decide (1 ≤ y2) && decide (y2 ≤ s1)) = false) := hm
        have HF : Hid (x = false) := by rw [Hid, ← HX.out]; exact roomB_many k hlt (by rw [HY.out]; exact hm)
        clear hm
        go_wp2_with fail
        refine (l1In_is y2 1 s1 _ false HM.out).mono ?_
        rintro e w1 ⟨rfl, rfl⟩
        go_wp2
        go_ret
        exact ⟨ret_bool HF.out.symm, Below.allocS hB _⟩
      · have HM : Hid ((decide (1 ≤ y2) && decide (y2 ≤ s1)) = true) := hm
        have HM' : Hid (manyB s1 (y1, y2) = true) := hm
        clear hm
        go_wp2_with fail
        refine (l1In_is y2 1 s1 _ true HM.out).mono ?_
        rintro e w1 ⟨rfl, hw1⟩
        subst hw1
        have HA : Hid (kI.Own (w.heap.size + 1) ((wr.alloc (.cells #[.int .i64 y1, .int .i64 y2] 54)).alloc (.cells #[.int .i64 y1] 3)) v (tasksOf (l.take k))) := (hO.out.below (below1 _ _)).below (below1 _ _)
        have HN : Hid (kI.In (wr.heap.size + 1 + 1) ((wr.alloc (.cells #[.int .i64 y1, .int .i64 y2] 54)).alloc (.cells #[.int .i64 y1] 3)) (some ⟨wr.heap.size + 1, 0, none⟩) [y1]) := int_one (by omega) (by simp)
        have hll : (tasksOf (l.take k)).length + 1 ≤ 4194304 := by rw [tasksOf_len]; simp; omega
        have hBa : Below w.heap.size w ((wr.alloc (.cells #[.int .i64 y1, .int .i64 y2] 54)).alloc (.cells #[.int .i64 y1] 3)) := Below.allocS (Below.allocS hB _) _
        have hA2 := hid ((hA.out.alloc (.cells #[.int .i64 y1, .int .i64 y2] 54)).alloc (.cells #[.int .i64 y1] 3))
        go_wp2_with (at_builtin; refine Kind.app kI_ok ((wr.alloc (.cells #[.int .i64 y1, .int .i64 y2] 54)).alloc (.cells #[.int .i64 y1] 3)) rfl (.tmp 31) (.tmp 34) rfl (w.heap.size + 1) v (tasksOf (l.take k)) rfl HA.out (by simp; omega) (some ⟨wr.heap.size + 1, 0, none⟩) [y1] 1 1 rfl rfl (by simp) _ HN.out hll ?_; intro v' w' hO' hB' hG' hn'; have hB2 : Below w.heap.size w w' := hBa.trans (hB'.mono (by omega)); have hs2 : w.heap.size + 1 ≤ w'.heap.size := (by have := hB'.size; simp at this; omega); have HA3 := hid (hA2.out.below hB' (by omega)); have HO' : Hid (kI.Own (w.heap.size + 1) w' v' (tasksOf (l.take (k + 1)))) := (by rw [Hid, tasksOf_succ hlt, HY.out]; exact hO'); clear hO' hB' hG' hn')
        go_roundw
        case rel => exact ⟨k + 1, v', rfl, by omega, by go_num, HO', fun j hj => by
          rcases Nat.lt_succ_iff_lt_or_eq.1 hj with h | rfl
          · exact hno.out j h
          · rw [HY.out]; exact HM'.out, HA3, hB2, hs2⟩
        case measure => simp [intOf]; omega
    · obtain rfl : k = l.length := by omega
      rw [List.take_length] at hO
      obtain ⟨qo, qc, rfl, _, hF⟩ := hO.out.fresh
      have hcap := hF.cap
      have HI : Hid (kI.In wr.heap.size wr qo (tasksOf l)) := hF.in
      have hql : (tasksOf l).length ≤ 1048576 := by rw [tasksOf_len]; exact hl
      clear hF hO
      cases hline : lineB (tasksOf l)
      · have HL : Hid (lineB (tasksOf l) = false) := hline
        have HF : Hid (x = false) := by rw [Hid, ← HX.out]; exact roomB_line hline
        clear hline
        go_wp2
        go_quiet (exact Calls.quiet_of_same (l5Tasks_is wr.heap.size qo qc (tasksOf l) _ false hql hcap (by exact HI.out) HL.out))
        go_wp2
        go_ret
        exact ⟨ret_bool HF.out.symm, below_draws hB _⟩
      · have HL : Hid (lineB (tasksOf l) = true) := hline
        have HT : Hid ((!firstB s1 s2 l) = x) := by rw [Hid, ← HX.out]; exact (roomB_tail HZ.out hno.out hline).symm
        clear hline
        by_cases h0 : l.length = 0
        · obtain ⟨z1, z2, z3⟩ := len0 h0
          have HV : Hid (x = true) := by rw [Hid, ← HT.out]; simp [firstB, h0]
          subst z3
          clear h0 z2
          go_wp2
          go_quiet (exact Calls.quiet_of_same (l5Tasks_is wr.heap.size qo qc (tasksOf []) _ true hql hcap (by exact HI.out) HL.out))
          go_wp2
          go_ret
          exact ⟨ret_bool HV.out.symm, below_draws hB _⟩
        · obtain ⟨z1, z2⟩ := len1 h0
          have hpos : 0 < l.length := by omega
          obtain ⟨b, off, rfl, hb, hc⟩ := kN_at hz hpos
          have c1 := (hB.cell (p := ⟨b, off + 0 * 2 + 1, none⟩) hb).trans (hc 0 hpos).2
          rw [Nat.zero_mul, Nat.add_zero] at c1
          obtain ⟨m, em⟩ : ∃ m, m = (el l 0).2 := ⟨_, rfl⟩
          rw [← em] at c1
          have HV : Hid (decide (s1 - s2 < m) = x) := by
            have hfb : firstB s1 s2 l = decide (m ≤ s1 - s2) := by rw [em]; simp only [firstB, hpos, decide_true, Bool.true_and]
            rw [Hid, ← HT.out, hfb, ← decide_not]
            exact decide_eq_decide.2 (by omega)
          clear em hc hz HT
          go_wp2
          go_quiet (exact Calls.quiet_of_same (l5Tasks_is wr.heap.size qo qc (tasksOf l) _ true hql hcap (by exact HI.out) HL.out))
          go_wp2
          go_ret
          exact ⟨ret_bool HV.out, below_draws hB _⟩
end Go.Proofs.Ytcdkdigafcfgmaa
