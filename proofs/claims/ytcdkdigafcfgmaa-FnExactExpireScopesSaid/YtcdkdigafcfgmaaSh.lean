/- How the program ends scopes. No conditions but those written. -/
import Derived.Test.YtcdkdigafcfgmaaSg
namespace Go.Proofs.Ytcdkdigafcfgmaa
open Go.RowKit

set_option maxHeartbeats 1000000 in
theorem endPtr_no (b o : Nat) (dl wy why : Int) (w : World) (hw : wy ≠ 0) (c0 : w.cell? ⟨b, o, none⟩ = some (.int .i64 dl)) (c1 : w.cell? ⟨b, o + 1, none⟩ = some (.int .i64 wy)) :
    Calls Try.prog 103 #[.pointer (some ⟨b, o, none⟩), .int .i64 why] w fun e w' => e = .returned (.bool false) ∧ Below w.heap.size w w' := by
  have HW : Hid ((wy != 0) = true) := by simpa [Hid] using hw
  clear hw
  go_enter Try.func103, Try.ntmps103
  go_wp2_with fail
  refine (ended_is dl wy _ true HW.out).mono ?_
  rintro e w1 ⟨rfl, hb1⟩
  go_wp2
  go_ret
  exact ⟨rfl, hb1⟩
set_option maxHeartbeats 1000000 in
theorem endPtr_yes (b o : Nat) (dl why : Int) (w : World) (c0 : w.cell? ⟨b, o, none⟩ = some (.int .i64 dl)) (c1 : w.cell? ⟨b, o + 1, none⟩ = some (.int .i64 0)) (f1 : w.frozen? ⟨b, o + 1, none⟩ = false) :
    Calls Try.prog 103 #[.pointer (some ⟨b, o, none⟩), .int .i64 why] w fun e w' => e = .returned (.bool true) ∧ ∃ w1, Below w.heap.size w w1 ∧ w' = w1.setCell ⟨b, o + 1, none⟩ (.int .i64 why) := by
  have hb : b < w.heap.size := World.block_lt_of_cell? _ _ c0
  go_enter Try.func103, Try.ntmps103
  go_wp2_with fail
  refine (ended_is dl 0 _ false rfl).mono ?_
  rintro e w1 ⟨rfl, hb1⟩
  have d0 := (hb1.cell (p := ⟨b, o, none⟩) hb).trans c0
  have d1 := (hb1.cell (p := ⟨b, o + 1, none⟩) hb).trans c1
  have e1 := (hb1.frozen (p := ⟨b, o + 1, none⟩) hb).trans f1
  go_wp2
  go_ret
  exact ⟨rfl, w1, hb1, rfl⟩
set_option maxHeartbeats 400000 in
theorem dueBy_is (dl wy now : Int) (w : World) (x : Bool) (hx : decide (dl ≤ now) = x) :
    Calls Try.prog 99 #[.agg #[.int .i64 dl, .int .i64 wy], .int .i64 now] w fun e w' => e = .returned (.bool x) ∧ Below w.heap.size w w' := by
  have HX : Hid (decide (dl ≤ now) = x) := hx
  clear hx
  go_enter Try.func99, Try.ntmps99
  go_wp2
  go_ret
  exact ⟨ret_bool HX.out, below1 _ _⟩
/-- The scope at a place is the one that is told. -/
def isB (k : Int) (j : Nat) (_ : Sc) : Bool := ((j : Int) == k)
/-- The scope's time has come. -/
def dueB (now : Int) (_ : Nat) (b : Sc) : Bool := decide (b.2.1 ≤ now)
set_option maxHeartbeats 400000 in
theorem is_is (k : Int) (j : Nat) (y1 y2 y3 : Int) (p : Nat) (w : World) (x : Bool) (hc : w.cell? ⟨p, 0, none⟩ = some (.int .i64 k)) (hx : isB k j (y1, y2, y3) = x) :
    Calls Try.prog 97 #[.int .i64 (j : Int), .agg #[.int .i64 y2, .int .i64 y3, .int .i64 y1], .pointer (some ⟨p, 0, none⟩)] w fun e w' => e = .returned (.bool x) ∧ Below w.heap.size w w' := by
  have HX : Hid (((j : Int) == k) = x) := hx
  have hp : p < w.heap.size := World.block_lt_of_cell? _ _ hc
  clear hx
  go_enter Try.func97, Try.ntmps97
  go_wp2
  go_ret
  exact ⟨ret_bool HX.out, below1 _ _⟩
set_option maxHeartbeats 400000 in
theorem due_is (k : Int) (j : Nat) (y1 y2 y3 : Int) (p : Nat) (w : World) (x : Bool) (hc : w.cell? ⟨p, 0, none⟩ = some (.int .i64 k)) (hx : dueB k j (y1, y2, y3) = x) :
    Calls Try.prog 98 #[.int .i64 (j : Int), .agg #[.int .i64 y2, .int .i64 y3, .int .i64 y1], .pointer (some ⟨p, 0, none⟩)] w fun e w' => e = .returned (.bool x) ∧ Below w.heap.size w w' := by
  have HX : Hid (decide (y2 ≤ k) = x) := hx
  have hp : p < w.heap.size := World.block_lt_of_cell? _ _ hc
  clear hx
  go_enter Try.func98, Try.ntmps98
  go_wp2_with fail
  refine (dueBy_is y2 y3 k _ x HX.out).mono ?_
  rintro e w1 ⟨rfl, hb1⟩
  have hB1 := (below1 w (.cells #[.int .i64 y2, .int .i64 y3, .int .i64 y1] 112)).trans (hb1.mono (by simp))
  go_wp2
  go_ret
  exact ⟨rfl, hB1⟩

set_option maxHeartbeats 2000000 in
theorem scopesOf_any (ao : Option Addr) (cap : Nat) (l : List Sc) (w : World) (hl : l.length ≤ 1048576) (hz : kB.In w.heap.size w ao l) :
    Calls Try.prog 104 #[.slice ao l.length cap] w fun e w' => (∃ v, e = .returned v ∧ kS.Own w.heap.size w' v l) ∧ Below w.heap.size w w' := by
  go_enter Try.func104, Try.ntmps104
  go_wp2
  go_loopw [3, 8] (fun u i wr => ∃ (k : Nat) (v : Value), v = u ∧ k ≤ l.length ∧ i = .int .i64 k ∧ Hid (kS.Own w.heap.size wr v (l.take k)) ∧ Below w.heap.size w wr) (fun _ i _ => l.length - (intOf i).toNat)
  case atStart => exact ⟨0, _, rfl, Nat.zero_le _, rfl, Kind.Own.nil _ _ _, Below.refl _ _⟩
  case round =>
    obtain ⟨k, v, rfl, hk, rfl, hO, hB⟩ := hrel
    have hsz := hB.size
    by_cases hlt : k < l.length
    · obtain ⟨b, off, rfl, hb, hc⟩ := kB_at hz hlt
      have d1 := (hB.cell (p := ⟨b, off + k * 3, none⟩) hb).trans (hc k hlt).1
      have d2 := (hB.cell (p := ⟨b, off + k * 3 + 1, none⟩) hb).trans (hc k hlt).2.1
      have d3 := (hB.cell (p := ⟨b, off + k * 3 + 2, none⟩) hb).trans (hc k hlt).2.2
      obtain ⟨⟨y1, y2, y3⟩, ey⟩ : ∃ v, v = el l k := ⟨_, rfl⟩
      rw [← ey] at d1 d2 d3
      have HY : Hid (el l k = (y1, y2, y3)) := ey.symm
      clear ey hc
      dsimp only at d1 d2 d3
      have HA : Hid (kS.Own w.heap.size ((wr.alloc (.cells #[.int .i64 y2, .int .i64 y3, .int .i64 y1] 112)).alloc (.cells #[.int .i64 y1, .int .i64 y2, .int .i64 y3] 104)) v (l.take k)) := (hO.out.below (below1 _ _)).below (below1 _ _)
      have HN : Hid (kS.In (wr.heap.size + 1 + 1) ((wr.alloc (.cells #[.int .i64 y2, .int .i64 y3, .int .i64 y1] 112)).alloc (.cells #[.int .i64 y1, .int .i64 y2, .int .i64 y3] 104)) (some ⟨wr.heap.size + 1, 0, none⟩) [(y1, y2, y3)]) := kS_one (by omega) (by simp) (by simp) (by simp)
      have hll : (l.take k).length + 1 ≤ 4194304 := by simp; omega
      have hBa : Below w.heap.size w ((wr.alloc (.cells #[.int .i64 y2, .int .i64 y3, .int .i64 y1] 112)).alloc (.cells #[.int .i64 y1, .int .i64 y2, .int .i64 y3] 104)) := Below.allocS (Below.allocS hB _) _
      go_wp2_with (at_builtin; refine Kind.app kS_ok ((wr.alloc (.cells #[.int .i64 y2, .int .i64 y3, .int .i64 y1] 112)).alloc (.cells #[.int .i64 y1, .int .i64 y2, .int .i64 y3] 104)) rfl (.tmp 12) (.tmp 22) rfl w.heap.size v (l.take k) rfl HA.out hBa.size (some ⟨wr.heap.size + 1, 0, none⟩) [(y1, y2, y3)] 1 1 rfl rfl (by simp) _ HN.out hll ?_; intro v' w' hO' hB' hG' hn'; have hB2 : Below w.heap.size w w' := hBa.trans hB'; have HO' : Hid (kS.Own w.heap.size w' v' (l.take (k + 1))) := (by rw [Hid, take_succ_el hlt, HY.out]; exact hO'); clear hO' hB' hG' hn')
      go_roundw
      case rel => exact ⟨k + 1, v', rfl, by omega, by go_num, HO', hB2⟩
      case measure => simp [intOf]; omega
    · obtain rfl : k = l.length := by omega
      go_wp2
      go_ret
      exact ⟨⟨_, rfl, by have := hO.out; rwa [List.take_length] at this⟩, hB⟩
end Go.Proofs.Ytcdkdigafcfgmaa
