
/- Whether a pool is good: the program. No conditions but those written. -/
import Derived.Test.YtmijibgfdhjbfaaPb
import Derived.BigQuiet
import Derived.BigRegion
import Derived.RegionTactic
namespace Go.Proofs.Ytmijibgfdhjbfaa
open Go.RowKit

theorem contains_of (n₀ : Nat) (ao : Option Addr) (len cap : Nat) (zs : List Int) (n : Int) (w : World) (b : Bool) (hlen : zs.length = len) (hl : zs.length ≤ 1048576) (hz : kI.In n₀ w ao zs) (hb : hasB zs n = b) :
    Calls Try.prog 33 #[.slice ao len cap, .int .i64 n] w fun e w' => e = .returned (.bool b) ∧ w' = w := by
  subst hlen; exact contains_is n₀ ao cap zs n w b hl hz hb
set_option maxHeartbeats 2000000 in
theorem noneTwice_is (n₀ : Nat) (ao : Option Addr) (cap : Nat) (q : List Int) (w : World) (x : Bool) (hl : q.length ≤ 1048576) (hc : q.length ≤ cap) (hz : kI.In n₀ w ao q) (hx : onceB q = x) :
    Calls Try.prog 43 #[.slice ao q.length cap] w fun e w' => e = .returned (.bool x) ∧ w' = w := by
  have HX : Hid (onceB q = x) := hx
  clear hx
  go_enter Try.func43, Try.ntmps43
  go_wp2
  go_loop [7] (fun i => ∃ k : Nat, k ≤ q.length ∧ i = .int .i64 k ∧ Hid ((q.take k).Nodup)) (fun i => q.length - (intOf i).toNat)
  case atStart => exact ⟨0, Nat.zero_le _, rfl, by simp [Hid]⟩
  case round =>
    obtain ⟨k, hk, rfl, hno⟩ := hrel
    by_cases hlt : k < q.length
    · have HZ : Hid (kI.In n₀ w ao q) := hz
      obtain ⟨b, off, rfl, hb, hcs⟩ := ints_at hz hlt
      have hck := hcs k hlt
      clear hcs hz
      obtain ⟨y, ey⟩ : ∃ x, x = el q k := ⟨_, rfl⟩
      rw [← ey] at hck
      have HY : Hid (y = el q k) := ey
      clear ey
      cases hm : hasB (q.take k) y
      · have HM : Hid (hasB (q.take k) y = false) := hm
        clear hm
        go_wp2_with fail
        refine (contains_of n₀ _ k cap (q.take k) y _ false (by simp; omega) (by simp; omega) (HZ.out.take k) HM.out).mono ?_
        rintro e w1 ⟨rfl, rfl⟩
        go_wp2
        go_round
        case rel => exact ⟨k + 1, by omega, by go_num, nodup_succ hlt hno.out (by rw [← HY.out]; simpa [hasB] using HM.out)⟩
        case measure => simp [intOf]; omega
      · have HM : Hid (hasB (q.take k) y = true) := hm
        have HF : Hid (x = false) := by rw [Hid, ← HX.out]; exact onceB_no k hlt (by rw [← HY.out]; exact hm)
        clear hm
        go_wp2_with fail
        refine (contains_of n₀ _ k cap (q.take k) y _ true (by simp; omega) (by simp; omega) (HZ.out.take k) HM.out).mono ?_
        rintro e w1 ⟨rfl, rfl⟩
        go_wp2
        go_ret
        exact ⟨ret_bool HF.out.symm, rfl⟩
    · obtain rfl : k = q.length := by omega
      have HF : Hid (x = true) := by rw [Hid, ← HX.out]; exact onceB_yes hno.out
      go_wp2
      go_ret
      exact ⟨ret_bool HF.out.symm, rfl⟩
set_option maxHeartbeats 2000000 in
theorem goodWorks_is (lo : Option Addr) (lc : Nat) (l : List Wo) (w : World) (x : Bool) (hl : l.length ≤ 1048576) (hz : kW.In w.heap.size w lo l) (hx : worksB l = x) :
    Calls Try.prog 27 #[.slice lo l.length lc] w fun e w' => e = .returned (.bool x) ∧ Below w.heap.size w w' := by
  have HX := hid hx
  clear hx
  go_enter Try.func27, Try.ntmps27
  go_wp2
  go_loopw [7] (fun i wr => ∃ k : Nat, k ≤ l.length ∧ i = .int .i64 k ∧ Hid (∀ j, j < k → workB (el l j) = true) ∧ Below w.heap.size w wr) (fun i _ => l.length - (intOf i).toNat)
  case atStart => exact ⟨0, Nat.zero_le _, rfl, fun j hj => by omega, Below.refl _ _⟩
  case round =>
    obtain ⟨k, hk, rfl, hno, hB⟩ := hrel
    by_cases hlt : k < l.length
    · obtain ⟨bb, off, rfl, hbb, hc⟩ := kW_at hz hlt
      have d1 := (hB.cell (p := ⟨bb, off + k * 3, none⟩) hbb).trans (hc k hlt).1
      have d2 := (hB.cell (p := ⟨bb, off + k * 3 + 1, none⟩) hbb).trans (hc k hlt).2.1
      have d3 := (hB.cell (p := ⟨bb, off + k * 3 + 2, none⟩) hbb).trans (hc k hlt).2.2
      obtain ⟨⟨y1, y2, y3⟩, ey⟩ : ∃ v, v = el l k := ⟨_, rfl⟩
      rw [← ey] at d1 d2 d3
      have HY : Hid (el l k = (y1, y2, y3)) := ey.symm
      clear ey hc
      dsimp only at d1 d2 d3
      have hBa := Below.allocS hB (.cells #[.int .i64 y1, .int .i64 y2, .int .i64 y3] 47)
      cases hm : workB (y1, y2, y3)
      · have HM := hid hm
        have HV : Hid (x = false) := by rw [Hid, ← HX.out]; exact worksB_no k hlt (by rw [HY.out]; exact hm)
        clear hm
        go_wp2_with fail
        refine (goodWork_is y1 y2 y3 _ false HM.out).mono ?_
        rintro e w1 ⟨rfl, hb1⟩
        have hB1 := hBa.trans (hb1.mono hBa.size)
        go_wp2
        go_ret
        exact ⟨ret_bool HV.out.symm, hB1⟩
      · have HM := hid hm
        clear hm
        go_wp2_with fail
        refine (goodWork_is y1 y2 y3 _ true HM.out).mono ?_
        rintro e w1 ⟨rfl, hb1⟩
        have hB1 := hBa.trans (hb1.mono hBa.size)
        clear hb1
        go_wp2
        go_roundw
        case rel => exact ⟨k + 1, by omega, by go_num, fun j hj => by
          rcases Nat.lt_succ_iff_lt_or_eq.1 hj with h | rfl
          · exact hno.out j h
          · rw [HY.out]; exact HM.out, hB1⟩
        case measure => simp [intOf]; omega
    · obtain rfl : k = l.length := by omega
      have HV : Hid (onceB (idsOf l) = x) := by rw [Hid, ← HX.out]; exact (worksB_all hno.out).symm
      have hql : (idsOf l).length ≤ 1048576 := by rw [idsOf_len]; exact hl
      clear hno hk
      go_wp2_with fail
      refine (workIds_any lo lc l _ hl (hz.later hB)).mono ?_
      rintro e w1 ⟨⟨qo, qc, rfl, hF1⟩, hb1⟩
      have hB1 := hB.trans (hb1.mono hB.size)
      have HF := hid hF1
      obtain ⟨q, eq⟩ : ∃ q, q = idsOf l := ⟨_, rfl⟩
      rw [← eq] at HF HV hql ⊢
      clear hb1 hF1 eq
      go_wp2_with fail
      refine (noneTwice_is _ qo qc q _ x hql HF.out.cap HF.out.in HV.out).mono ?_
      rintro e w2 ⟨rfl, rfl⟩
      go_wp2
      go_ret
      exact ⟨rfl, hB1⟩
set_option maxHeartbeats 1000000 in
theorem tells_is (s1 s2 : Int) (lo : Option Addr) (lc : Nat) (l : List Wo) (a s f : Int) (p : Nat) (w : World) (x : Bool) (hp : Bx w p [.int .i64 s1, .int .i64 s2, .slice lo l.length lc]) (hx : (f == s2) = x) :
    Calls Try.prog 44 #[.agg #[.int .i64 a, .int .i64 s, .int .i64 f], .pointer (some ⟨p, 0, none⟩)] w fun e w' => e = .returned (.bool x) ∧ Below w.heap.size w w' := by
  have hpz := hp.size
  have hpc := hp.c 1 rfl
  have hB0 := below1 w (.cells #[.int .i64 a, .int .i64 s, .int .i64 f] 47)
  have hx' := hid hx
  clear hx hp
  go_enter Try.func44, Try.ntmps44
  go_wp2
  go_ret
  exact ⟨ret_bool hx'.out, hB0⟩
/-- The first place of a work that tells the fault. -/
def idxT (l : List Wo) (fa : Int) : Int := idxI (l.map (·.2.2)) fa
theorem idxT_has (l : List Wo) (fa : Int) : decide (0 ≤ idxT l fa) = tellsB fa l := by
  rw [idxT, idxI_has, hasB, tellsB, Bool.eq_iff_iff, decide_eq_true_iff, List.any_eq_true, List.mem_map]
  simp
theorem el_map3 {l : List Wo} {j : Nat} (h : j < l.length) : el (l.map (·.2.2)) j = (el l j).2.2 := by simp [el, h]
set_option maxHeartbeats 2000000 in
theorem indexFunc_is (s1 s2 : Int) (lo : Option Addr) (lc : Nat) (l : List Wo) (ro : Option Addr) (rc : Nat) (r : List Wo) (p : Nat) (w : World) (x : Int) (hl : r.length ≤ 1048576) (hz : kW.In w.heap.size w ro r) (hp : Bx w p [.int .i64 s1, .int .i64 s2, .slice lo l.length lc]) (hx : idxT r s2 = x) :
    Calls Try.prog 49 #[.slice ro r.length rc, .func (.func 44) #[] #[.pointer (some ⟨p, 0, none⟩)]] w fun e w' => e = .returned (.int .i64 x) ∧ Below w.heap.size w w' := by
  have HX := hid hx
  have P0 := hid hp
  clear hx hp
  go_enter Try.func49, Try.ntmps49
  go_wp2
  go_loopw [8] (fun i wr => ∃ k : Nat, k ≤ r.length ∧ i = .int .i64 k ∧ Hid (∀ j, j < k → (el r j).2.2 ≠ s2) ∧ Hid (Bx wr p [.int .i64 s1, .int .i64 s2, .slice lo l.length lc]) ∧ Below w.heap.size w wr) (fun i _ => r.length - (intOf i).toNat)
  case atStart => exact ⟨0, Nat.zero_le _, rfl, fun j hj => by omega, P0, Below.refl _ _⟩
  case round =>
    obtain ⟨k, hk, rfl, hno, hP, hB⟩ := hrel
    by_cases hlt : k < r.length
    · obtain ⟨bb, off, rfl, hbb, hc⟩ := kW_at hz hlt
      have d1 := (hB.cell (p := ⟨bb, off + k * 3, none⟩) hbb).trans (hc k hlt).1
      have d2 := (hB.cell (p := ⟨bb, off + k * 3 + 1, none⟩) hbb).trans (hc k hlt).2.1
      have d3 := (hB.cell (p := ⟨bb, off + k * 3 + 2, none⟩) hbb).trans (hc k hlt).2.2
      obtain ⟨⟨y1, y2, y3⟩, ey⟩ : ∃ v, v = el r k := ⟨_, rfl⟩
      rw [← ey] at d1 d2 d3
      have HY : Hid (el r k = (y1, y2, y3)) := ey.symm
      clear ey hc
      dsimp only at d1 d2 d3
      clear hz
      by_cases hy : y3 = s2
      · have HY1 : Hid ((y3 == s2) = true) := by simpa [Hid] using hy
        have HV : Hid (x = (k : Int)) := by
          rw [Hid, ← HX.out]
          refine idxI_yes (by simpa using hlt) (by rw [el_map3 hlt, HY.out]; exact hy) fun j hj => ?_
          rw [el_map3 (by omega)]; exact hno.out j hj
        clear hy
        go_wp2_with fail
        refine (tells_is s1 s2 lo lc l y1 y2 y3 p _ true hP.out HY1.out).mono ?_
        rintro e w1 ⟨rfl, hb1⟩
        have hB1 := hB.trans (hb1.mono hB.size)
        go_wp2
        go_ret
        exact ⟨ret_int HV.out.symm, hB1⟩
      · have HY1 : Hid ((y3 == s2) = false) := by simpa [Hid] using hy
        have HY2 : Hid (y3 ≠ s2) := hy
        clear hy
        go_wp2_with fail
        refine (tells_is s1 s2 lo lc l y1 y2 y3 p _ false hP.out HY1.out).mono ?_
        rintro e w1 ⟨rfl, hb1⟩
        have hB1 := hB.trans (hb1.mono hB.size)
        have hP1 := hid (hP.out.later hb1)
        clear hb1
        go_wp2
        go_roundw
        case rel => exact ⟨k + 1, by omega, by go_num, fun j hj => by
          rcases Nat.lt_succ_iff_lt_or_eq.1 hj with h | rfl
          · exact hno.out j h
          · rw [HY.out]; exact HY2.out, hP1, hB1⟩
        case measure => simp [intOf]; omega
    · obtain rfl : k = r.length := by omega
      have HN : Hid (x = -1) := by
        rw [Hid, ← HX.out]
        exact idxI_no fun j hj => by
          have hj' : j < r.length := by simpa using hj
          rw [el_map3 hj']; exact hno.out j hj'
      go_wp2
      go_ret
      exact ⟨ret_int HN.out.symm, hB⟩
theorem containsFunc_is (s1 s2 : Int) (lo : Option Addr) (lc : Nat) (l : List Wo) (ro : Option Addr) (rc : Nat) (r : List Wo) (p : Nat) (w : World) (x : Bool) (hl : r.length ≤ 1048576) (hz : kW.In w.heap.size w ro r) (hp : Bx w p [.int .i64 s1, .int .i64 s2, .slice lo l.length lc]) (hx : tellsB s2 r = x) :
    Calls Try.prog 45 #[.slice ro r.length rc, .func (.func 44) #[] #[.pointer (some ⟨p, 0, none⟩)]] w fun e w' => e = .returned (.bool x) ∧ Below w.heap.size w w' := by
  subst hx
  rw [← idxT_has]
  have H := indexFunc_is s1 s2 lo lc l ro rc r p w _ hl hz hp rfl
  generalize idxT r s2 = z at H ⊢
  go_enter Try.func45, Try.ntmps45
  go_wp2_with fail
  refine H.mono ?_
  rintro e w1 ⟨rfl, hb1⟩
  go_wp2
  go_ret
  exact ⟨ret_bool (by simp), hb1⟩
end Go.Proofs.Ytmijibgfdhjbfaa
