
/- Pools: the program's small functions. No conditions but those written. -/
import Derived.Test.YtmijibgfdhjbfaaPa
namespace Go.Proofs.Ytmijibgfdhjbfaa
open Go.RowKit

set_option maxHeartbeats 400000 in
theorem isFault_is (f : Int) (w : World) (b : Bool) (hb : faultB f = b) :
    Calls Try.prog 26 #[.int .i64 f] w fun e w' => e = .returned (.bool b) ∧ w' = w := by
  subst hb
  by_cases h : 0 < f
  · have h' : decide (0 < f) = true := by simpa using h
    go_enter Try.func26, Try.ntmps26
    go_wp2
    go_ret
    refine ⟨ret_bool ?_, rfl⟩
    simp [faultB, h]
  · have h' : decide (0 < f) = false := by simpa using h
    go_enter Try.func26, Try.ntmps26
    go_wp2
    go_ret
    exact ⟨ret_bool (by simp [faultB]; omega), rfl⟩
set_option maxHeartbeats 1000000 in
theorem goodWork_is (a s f : Int) (w : World) (x : Bool) (hx : workB (a, s, f) = x) :
    Calls Try.prog 42 #[.agg #[.int .i64 a, .int .i64 s, .int .i64 f]] w fun e w' => e = .returned (.bool x) ∧ Below w.heap.size w w' := by
  have HX : Hid (workB (a, s, f) = x) := hx
  have hB0 := below1 w (.cells #[.int .i64 a, .int .i64 s, .int .i64 f] 47)
  clear hx
  by_cases h4 : s = 4
  · subst h4
    have HF : Hid (faultB f = x) := by rw [Hid, ← HX.out]; rfl
    go_enter Try.func42, Try.ntmps42
    go_wp2_with fail
    refine (isFault_is f _ x HF.out).mono ?_
    rintro e w1 ⟨rfl, rfl⟩
    go_wp2
    go_ret
    exact ⟨rfl, hB0⟩
  have e4 : (s == 4) = false := by simpa using h4
  by_cases h1 : s = 1
  · subst h1
    go_enter Try.func42, Try.ntmps42
    go_wp2
    go_ret
    refine ⟨ret_bool ?_, hB0⟩
    rw [← HX.out]; by_cases h0 : f = 0 <;> simp [workB, h0]
  have e1 : (s == 1) = false := by simpa using h1
  by_cases h2 : s = 2
  · subst h2
    go_enter Try.func42, Try.ntmps42
    go_wp2
    go_ret
    refine ⟨ret_bool ?_, hB0⟩
    rw [← HX.out]; by_cases h0 : f = 0 <;> simp [workB, h0]
  have e2 : (s == 2) = false := by simpa using h2
  by_cases h3 : s = 3
  · subst h3
    go_enter Try.func42, Try.ntmps42
    go_wp2
    go_ret
    refine ⟨ret_bool ?_, hB0⟩
    rw [← HX.out]; by_cases h0 : f = 0 <;> simp [workB, h0]
  have e3 : (s == 3) = false := by simpa using h3
  by_cases h5 : s = 5
  · subst h5
    go_enter Try.func42, Try.ntmps42
    go_wp2
    go_ret
    refine ⟨ret_bool ?_, hB0⟩
    rw [← HX.out]; by_cases h0 : f = 0 <;> simp [workB, h0]
  have e5 : (s == 5) = false := by simpa using h5
  have HV : Hid (x = false) := by
    rw [Hid, ← HX.out, workB, if_neg h4]; simp; omega
  clear h4 h1 h2 h3 h5
  go_enter Try.func42, Try.ntmps42
  go_wp2
  go_ret
  exact ⟨ret_bool HV.out.symm, hB0⟩
set_option maxRecDepth 10000 in
set_option maxHeartbeats 4000000 in
theorem workIds_any (lo : Option Addr) (lc : Nat) (l : List Wo) (w : World) (hl : l.length ≤ 1048576) (hz : kW.In w.heap.size w lo l) :
    Calls Try.prog 34 #[.slice lo l.length lc] w fun e w' => AnsI w (idsOf l) e w' := by
  go_enter Try.func34, Try.ntmps34
  go_wp2
  go_loopw [3, 8] (fun u i wr => ∃ (k : Nat) (v : Value), v = u ∧ k ≤ l.length ∧ i = .int .i64 k ∧ Hid (kI.Own w.heap.size wr v (idsOf (l.take k))) ∧ Below w.heap.size w wr) (fun _ i _ => l.length - (intOf i).toNat)
  case atStart => exact ⟨0, _, rfl, Nat.zero_le _, rfl, Kind.Own.nil _ _ _, Below.refl _ _⟩
  case round =>
    obtain ⟨k, v, rfl, hk, rfl, hO, hB⟩ := hrel
    by_cases hlt : k < l.length
    · obtain ⟨bb, off, rfl, hbb, hc⟩ := kW_at hz hlt
      have d1 := (hB.cell (p := ⟨bb, off + k * 3, none⟩) hbb).trans (hc k hlt).1
      have d2 := (hB.cell (p := ⟨bb, off + k * 3 + 1, none⟩) hbb).trans (hc k hlt).2.1
      have d3 := (hB.cell (p := ⟨bb, off + k * 3 + 2, none⟩) hbb).trans (hc k hlt).2.2
      obtain ⟨⟨y1, y2, y3⟩, ey⟩ : ∃ v, v = el l k := ⟨_, rfl⟩
      rw [← ey] at d1 d2 d3
      have HY : Hid (el l k = (y1, y2, y3)) := ey.symm
      clear ey hc
      dsimp only at d1 d2 d3
      have hs := hB.size
      have HA : Hid (kI.Own w.heap.size ((wr.alloc (.cells #[.int .i64 y1, .int .i64 y2, .int .i64 y3] 47)).alloc (.cells #[.int .i64 y1] 3)) v (idsOf (l.take k))) := (hO.out.below (below1 _ _)).below (below1 _ _)
      have HN : Hid (kI.In (wr.heap.size + 1 + 1) ((wr.alloc (.cells #[.int .i64 y1, .int .i64 y2, .int .i64 y3] 47)).alloc (.cells #[.int .i64 y1] 3)) (some ⟨wr.heap.size + 1, 0, none⟩) [y1]) := int_one (by omega) (by simp)
      have hll : (idsOf (l.take k)).length + 1 ≤ 4194304 := by simp [idsOf] <;> omega
      have hBa : Below w.heap.size w ((wr.alloc (.cells #[.int .i64 y1, .int .i64 y2, .int .i64 y3] 47)).alloc (.cells #[.int .i64 y1] 3)) := Below.allocS (Below.allocS hB _) _
      go_wp2_with (at_builtin; refine Kind.app kI_ok ((wr.alloc (.cells #[.int .i64 y1, .int .i64 y2, .int .i64 y3] 47)).alloc (.cells #[.int .i64 y1] 3)) rfl (.tmp 12) (.tmp 15) rfl w.heap.size v (idsOf (l.take k)) rfl HA.out (by simp; omega) (some ⟨wr.heap.size + 1, 0, none⟩) [y1] 1 1 rfl rfl (by simp) _ HN.out hll ?_; intro v' w' hO' hB' hG' hn'; have hB2 : Below w.heap.size w w' := hBa.trans (hB'.mono (by omega)); have HO' : Hid (kI.Own w.heap.size w' v' (idsOf (l.take (k + 1)))) := (by rw [Hid, idsOf_succ hlt, HY.out]; simpa using hO'); clear hO' hB' hG' hn')
      go_roundw
      case rel => exact ⟨k + 1, v', rfl, by omega, by go_num, HO', hB2⟩
      case measure => simp [intOf]; omega
    · obtain rfl : k = l.length := by omega
      rw [List.take_length] at hO
      obtain ⟨qo, qc, rfl, _, hF⟩ := hO.out.fresh
      have HF : Hid (kI.Fresh w.heap.size wr.heap.size wr qo qc (idsOf l)) := hF
      clear hF hO
      go_wp2
      go_ret
      exact ⟨⟨_, _, rfl, HF.out⟩, hB⟩
set_option maxRecDepth 10000 in
set_option maxHeartbeats 4000000 in
theorem worksAt_any (s1 s2 : Int) (lo : Option Addr) (lc : Nat) (l : List Wo) (s : Int) (w : World) (hl : l.length ≤ 1048576) (hz : kW.In w.heap.size w lo l) :
    Calls Try.prog 28 #[.agg #[.int .i64 s1, .int .i64 s2, .slice lo l.length lc], .int .i64 s] w fun e w' => AnsW w (atL s l) e w' := by
  have hB0 := below1 w (.cells #[.int .i64 s1, .int .i64 s2, .slice lo l.length lc] 29)
  go_enter Try.func28, Try.ntmps28
  go_wp2
  go_loopw [5, 11] (fun u i wr => ∃ (k : Nat) (v : Value), v = u ∧ k ≤ l.length ∧ i = .int .i64 k ∧ Hid (kW.Own w.heap.size wr v (atL s (l.take k))) ∧ Below w.heap.size w wr) (fun _ i _ => l.length - (intOf i).toNat)
  case atStart => exact ⟨0, _, rfl, Nat.zero_le _, rfl, Kind.Own.nil _ _ _, hB0⟩
  case round =>
    obtain ⟨k, v, rfl, hk, rfl, hO, hB⟩ := hrel
    by_cases hlt : k < l.length
    · obtain ⟨bb, off, rfl, hbb, hc⟩ := kW_at hz hlt
      have d1 := (hB.cell (p := ⟨bb, off + k * 3, none⟩) hbb).trans (hc k hlt).1
      have d2 := (hB.cell (p := ⟨bb, off + k * 3 + 1, none⟩) hbb).trans (hc k hlt).2.1
      have d3 := (hB.cell (p := ⟨bb, off + k * 3 + 2, none⟩) hbb).trans (hc k hlt).2.2
      obtain ⟨⟨y1, y2, y3⟩, ey⟩ : ∃ v, v = el l k := ⟨_, rfl⟩
      rw [← ey] at d1 d2 d3
      have HY : Hid (el l k = (y1, y2, y3)) := ey.symm
      clear ey hc
      dsimp only at d1 d2 d3
      have hs := hB.size
      cases he : (y2 == s)
      · have HO' : Hid (kW.Own w.heap.size (wr.alloc (.cells #[.int .i64 y1, .int .i64 y2, .int .i64 y3] 47)) v (atL s (l.take (k + 1)))) := by rw [Hid, atL_out hlt (by rw [HY.out]; exact he)]; exact hO.out.below (below1 _ _)
        have hB2 := Below.allocS hB (.cells #[.int .i64 y1, .int .i64 y2, .int .i64 y3] 47)
        go_wp2
        go_roundw
        case rel => exact ⟨k + 1, _, rfl, by omega, by go_num, HO', hB2⟩
        case measure => simp [intOf]; omega
      · have HE := hid he
        have HA : Hid (kW.Own w.heap.size ((wr.alloc (.cells #[.int .i64 y1, .int .i64 y2, .int .i64 y3] 47)).alloc (.cells #[.int .i64 y1, .int .i64 y2, .int .i64 y3] 47)) v (atL s (l.take k))) := (hO.out.below (below1 _ _)).below (below1 _ _)
        have HN : Hid (kW.In (wr.heap.size + 1 + 1) ((wr.alloc (.cells #[.int .i64 y1, .int .i64 y2, .int .i64 y3] 47)).alloc (.cells #[.int .i64 y1, .int .i64 y2, .int .i64 y3] 47)) (some ⟨wr.heap.size + 1, 0, none⟩) [(y1, y2, y3)]) := kW_one (by omega) (by simp) (by simp) (by simp)
        have hll : (atL s (l.take k)).length + 1 ≤ 4194304 := by have := atL_le s (l.take k); simp at this; omega
        have hBa : Below w.heap.size w ((wr.alloc (.cells #[.int .i64 y1, .int .i64 y2, .int .i64 y3] 47)).alloc (.cells #[.int .i64 y1, .int .i64 y2, .int .i64 y3] 47)) := Below.allocS (Below.allocS hB _) _
        go_wp2_with (at_builtin; refine Kind.app kW_ok ((wr.alloc (.cells #[.int .i64 y1, .int .i64 y2, .int .i64 y3] 47)).alloc (.cells #[.int .i64 y1, .int .i64 y2, .int .i64 y3] 47)) rfl (.tmp 19) (.tmp 21) rfl w.heap.size v (atL s (l.take k)) rfl HA.out (by simp; omega) (some ⟨wr.heap.size + 1, 0, none⟩) [(y1, y2, y3)] 1 1 rfl rfl (by simp) _ HN.out hll ?_; intro v' w' hO' hB' hG' hn'; have hB2 : Below w.heap.size w w' := hBa.trans (hB'.mono (by omega)); have HO' : Hid (kW.Own w.heap.size w' v' (atL s (l.take (k + 1)))) := (by rw [Hid, atL_in hlt (by rw [HY.out]; exact HE.out), HY.out]; exact hO'); clear hO' hB' hG' hn')
        go_roundw
        case rel => exact ⟨k + 1, v', rfl, by omega, by go_num, HO', hB2⟩
        case measure => simp [intOf]; omega
    · obtain rfl : k = l.length := by omega
      rw [List.take_length] at hO
      obtain ⟨qo, qc, rfl, _, hF⟩ := hO.out.fresh
      have HF : Hid (kW.Fresh w.heap.size wr.heap.size wr qo qc (atL s l)) := hF
      clear hF hO
      go_wp2
      go_ret
      exact ⟨⟨_, _, rfl, HF.out⟩, hB⟩
set_option maxHeartbeats 1000000 in
theorem hasAt_is (s1 s2 : Int) (lo : Option Addr) (lc : Nat) (l : List Wo) (s : Int) (w : World) (x : Bool) (hl : l.length ≤ 1048576) (hz : kW.In w.heap.size w lo l) (hx : hasL s l = x) :
    Calls Try.prog 40 #[.agg #[.int .i64 s1, .int .i64 s2, .slice lo l.length lc], .int .i64 s] w fun e w' => e = .returned (.bool x) ∧ Below w.heap.size w w' := by
  have HX := hid hx
  have hB0 := below1 w (.cells #[.int .i64 s1, .int .i64 s2, .slice lo l.length lc] 29)
  clear hx
  go_enter Try.func40, Try.ntmps40
  go_wp2_with fail
  refine (worksAt_any s1 s2 lo lc l s _ hl (hz.later hB0)).mono ?_
  rintro e w1 ⟨⟨go, qc, rfl, hF⟩, hb1⟩
  have hB1 := hB0.trans (hb1.mono hB0.size)
  clear hF hb1
  have hn := atL_le s l
  go_wp2
  go_ret
  exact ⟨ret_bool (by rw [← HX.out, hasL]; simp), hB1⟩
end Go.Proofs.Ytmijibgfdhjbfaa
