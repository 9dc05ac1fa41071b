/- Rooms: the tasks in line, what is free, whether the first one has room. No conditions but those written. -/
import Derived.Test.YtcdkdigafcfgmaaMb
import Derived.Test.YtcdkdigafcfgmaaLa
namespace Go.Proofs.Ytcdkdigafcfgmaa
open Go.RowKit

/-- The tasks of those that wait. -/
def tasksOf (l : List (Int × Int)) : List Int := l.map Prod.fst
theorem tasksOf_len (l : List (Int × Int)) : (tasksOf l).length = l.length := by simp [tasksOf]
theorem tasksOf_succ {l : List (Int × Int)} {k : Nat} (h : k < l.length) : tasksOf (l.take (k + 1)) = tasksOf (l.take k) ++ [(el l k).1] := by
  rw [take_succ_el h]; simp [tasksOf]
set_option maxHeartbeats 2000000 in
theorem tasksIn_any (ao : Option Addr) (cap : Nat) (l : List (Int × Int)) (w : World) (hl : l.length ≤ 1048576) (hz : kN.In w.heap.size w ao l) :
    Calls Try.prog 70 #[.slice ao l.length cap] w fun e w' => (∃ v, e = .returned v ∧ kI.Own w.heap.size w' v (tasksOf l)) ∧ Below w.heap.size w w' := by
  go_enter Try.func70, Try.ntmps70
  go_wp2
  go_loopw [3, 8] (fun u i wr => ∃ (k : Nat) (v : Value), v = u ∧ k ≤ l.length ∧ i = .int .i64 k ∧ Hid (kI.Own w.heap.size wr v (tasksOf (l.take k))) ∧ Below w.heap.size w wr) (fun _ i _ => l.length - (intOf i).toNat)
  case atStart => exact ⟨0, _, rfl, Nat.zero_le _, rfl, Kind.Own.nil _ _ _, Below.refl _ _⟩
  case round =>
    obtain ⟨k, v, rfl, hk, rfl, hO, hB⟩ := hrel
    have hsz := hB.size
    by_cases hlt : k < l.length
    · obtain ⟨b, off, rfl, hb, hc⟩ := kN_at hz hlt
      have d1 := (hB.cell (p := ⟨b, off + k * 2, none⟩) hb).trans (hc k hlt).1
      have d2 := (hB.cell (p := ⟨b, off + k * 2 + 1, none⟩) hb).trans (hc k hlt).2
      obtain ⟨⟨y1, y2⟩, ey⟩ : ∃ v, v = el l k := ⟨_, rfl⟩
      rw [← ey] at d1 d2
      have HY : Hid (el l k = (y1, y2)) := ey.symm
      clear ey hc
      dsimp only at d1 d2
      have HA : Hid (kI.Own w.heap.size ((wr.alloc (.cells #[.int .i64 y1, .int .i64 y2] 54)).alloc (.cells #[.int .i64 y1] 3)) v (tasksOf (l.take k))) := (hO.out.below (below1 _ _)).below (below1 _ _)
      have HN : Hid (kI.In (wr.heap.size + 1 + 1) ((wr.alloc (.cells #[.int .i64 y1, .int .i64 y2] 54)).alloc (.cells #[.int .i64 y1] 3)) (some ⟨wr.heap.size + 1, 0, none⟩) [y1]) := int_one (by omega) (by simp)
      have hll : (tasksOf (l.take k)).length + 1 ≤ 4194304 := by rw [tasksOf_len]; simp; omega
      have hBa : Below w.heap.size w ((wr.alloc (.cells #[.int .i64 y1, .int .i64 y2] 54)).alloc (.cells #[.int .i64 y1] 3)) := Below.allocS (Below.allocS hB _) _
      go_wp2_with (at_builtin; refine Kind.app kI_ok ((wr.alloc (.cells #[.int .i64 y1, .int .i64 y2] 54)).alloc (.cells #[.int .i64 y1] 3)) rfl (.tmp 12) (.tmp 15) rfl w.heap.size v (tasksOf (l.take k)) rfl HA.out hBa.size (some ⟨wr.heap.size + 1, 0, none⟩) [y1] 1 1 rfl rfl (by simp) _ HN.out hll ?_; intro v' w' hO' hB' hG' hn'; have hB2 : Below w.heap.size w w' := hBa.trans hB'; have HO' : Hid (kI.Own w.heap.size w' v' (tasksOf (l.take (k + 1)))) := (by rw [Hid, tasksOf_succ hlt, HY.out]; exact hO'); clear hO' hB' hG' hn')
      go_roundw
      case rel => exact ⟨k + 1, v', rfl, by omega, by go_num, HO', hB2⟩
      case measure => simp [intOf]; omega
    · obtain rfl : k = l.length := by omega
      go_wp2
      go_ret
      exact ⟨⟨_, rfl, by have := hO.out; rwa [List.take_length] at this⟩, hB⟩

set_option maxHeartbeats 400000 in
theorem freeIn_any (s1 s2 : Int) (ao : Option Addr) (n cap : Nat) (w : World) (h1 : 0 ≤ s1 ∧ s1 ≤ 1000) (h2 : -1000000 ≤ s2 ∧ s2 ≤ 1000000) :
    Calls Try.prog 76 #[.agg #[.int .i64 s1, .int .i64 s2, .slice ao n cap]] w fun e w' => e = .returned (.int .i64 (s1 - s2)) ∧ Below w.heap.size w w' := by
  go_enter Try.func76, Try.ntmps76
  go_wp2
  go_ret
  exact ⟨rfl, below1 _ _⟩
/-- The first one waiting has room. -/
def firstB (s1 s2 : Int) (l : List (Int × Int)) : Bool := decide (0 < l.length) && decide ((el l 0).2 ≤ s1 - s2)
set_option maxRecDepth 10000 in
set_option maxHeartbeats 2000000 in
theorem firstHas_is (s1 s2 : Int) (ao : Option Addr) (cap : Nat) (l : List (Int × Int)) (w : World) (x : Bool) (hl : l.length ≤ 1048576) (h1 : 0 ≤ s1 ∧ s1 ≤ 1000) (h2 : -1000000 ≤ s2 ∧ s2 ≤ 1000000) (hz : kN.In w.heap.size w ao l) (hx : firstB s1 s2 l = x) :
    Calls Try.prog 71 #[.agg #[.int .i64 s1, .int .i64 s2, .slice ao l.length cap]] w fun e w' => e = .returned (.bool x) ∧ Below w.heap.size w w' := by
  by_cases h0 : l.length = 0
  · obtain ⟨z1, z2, z3⟩ := len0 h0
    have HV : Hid (x = false) := by rw [Hid, ← hx]; simp [firstB, h0]
    subst z3
    clear hx h0 z1
    go_enter Try.func71, Try.ntmps71
    go_wp2
    go_quiet (fail)
    go_wp2
    go_ret
    exact ⟨ret_bool HV.out.symm, below_draws (below1 _ _) _⟩
  · obtain ⟨z1, z2⟩ := len1 h0
    have hpos : 0 < l.length := by omega
    obtain ⟨b, off, rfl, hb, hc⟩ := kN_at hz hpos
    have c1 := (hc 0 hpos).2
    rw [Nat.zero_mul, Nat.add_zero] at c1
    obtain ⟨m, em⟩ : ∃ m, m = (el l 0).2 := ⟨_, rfl⟩
    rw [← em] at c1
    have HX : Hid (decide (m ≤ s1 - s2) = x) := by rw [Hid, ← hx, em]; simp [firstB, hpos]
    clear hx em hc hz
    obtain ⟨W2, hW2⟩ : ∃ W2, W2 = w.alloc (.cells #[.int .i64 s1, .int .i64 s2, .slice (some ⟨b, off, none⟩) l.length cap] 46) := ⟨_, rfl⟩
    have hB2 : Below w.heap.size w W2 := by rw [hW2]; exact below1 _ _
    have A2 : Bx W2 w.heap.size [.int .i64 s1, .int .i64 s2, .slice (some ⟨b, off, none⟩) l.length cap] := by rw [hW2]; exact Bx.new _ _ rfl
    have HW : Hid (W2 = w.alloc (.cells #[.int .i64 s1, .int .i64 s2, .slice (some ⟨b, off, none⟩) l.length cap] 46)) := hW2
    have d1 : W2.cell? ⟨b, off + 1, none⟩ = some (.int .i64 m) := (hB2.cell (p := ⟨b, off + 1, none⟩) hb).trans c1
    clear hW2
    have a0 := A2.c 0 rfl
    have a1 := A2.c 1 rfl
    have a2 := A2.c 2 rfl
    go_enter Try.func71, Try.ntmps71
    go_wp2
    rw [← HW.out]
    go_region_held3 (fun Y => Y.cell? ⟨w.heap.size, 0, none⟩ = some (.int .i64 s1) ∧ Y.cell? ⟨w.heap.size, 1, none⟩ = some (.int .i64 s2) ∧ Y.cell? ⟨w.heap.size, 2, none⟩ = some (.slice (some ⟨b, off, none⟩) l.length cap) ∧ Y.cell? ⟨b, off + 1, none⟩ = some (.int .i64 m))
      (first | (with_reducible exact ⟨a0, a1, a2, d1⟩) | (with_reducible exact P1) | exact ⟨a0, a1, a2, d1⟩)
      (first
        | (go_at_call 76; refine (freeIn_any s1 s2 _ _ _ _ h1 h2).mono ?_; rintro e w1 ⟨rfl, hb1⟩; have hB3 : Below w.heap.size w w1 := hB2.drew.trans (hb1.mono hB2.size); have A3 := A2.drew.later hb1; have P1 := (⟨A3.c 0 rfl, A3.c 1 rfl, A3.c 2 rfl, (hB3.cell (p := ⟨b, off + 1, none⟩) hb).trans c1⟩ : w1.cell? ⟨w.heap.size, 0, none⟩ = some (.int .i64 s1) ∧ w1.cell? ⟨w.heap.size, 1, none⟩ = some (.int .i64 s2) ∧ w1.cell? ⟨w.heap.size, 2, none⟩ = some (.slice (some ⟨b, off, none⟩) l.length cap) ∧ w1.cell? ⟨b, off + 1, none⟩ = some (.int .i64 m)); clear hb1))
    all_goals
      go_wp2
      go_ret
      exact ⟨ret_bool HX.out, hB3⟩
end Go.Proofs.Ytcdkdigafcfgmaa
