/- Scopes as branches: the small functions over them. No conditions but those written. -/
import Derived.Test.YtcdkdigafcfgmaaCb
import Derived.Test.YtcdkdigafcfgmaaBx
namespace Go.Proofs.Ytcdkdigafcfgmaa
open Go.RowKit

/-- A scope: up, deadline, why. -/
abbrev Sc := Int × Int × Int
/-- A row of branches: deadline, why, up. -/
def kB : Kind Sc := ⟨112, 107, 3, fun t => [.int .i64 t.2.1, .int .i64 t.2.2, .int .i64 t.1], fun _ => rfl, fun a v h => by simp at h; rcases h with rfl | rfl | rfl <;> rfl⟩
theorem Try.info112 : (Try.prog.info? 112).map (fun i => (i.zero, i.size, i.bytes)) = some (some (.agg #[.int .i64 0, .int .i64 0, .int .i64 0]), 3, 24) := by kernel_rfl
theorem kB_ok : kB.Ok := kind_ok (K := kB) Try.underlying107 Try.info112 rfl (by decide) (by decide)
theorem kB_at {n : Nat} {W : World} {ao : Option Addr} {ts : List Sc} (h : kB.In n W ao ts) {k : Nat} (hk : k < ts.length) :
    ∃ b off, ao = some ⟨b, off, none⟩ ∧ b < n ∧ ∀ j, j < ts.length → W.cell? ⟨b, off + j * 3, none⟩ = some (.int .i64 (el ts j).2.1) ∧ W.cell? ⟨b, off + j * 3 + 1, none⟩ = some (.int .i64 (el ts j).2.2) ∧ W.cell? ⟨b, off + j * 3 + 2, none⟩ = some (.int .i64 (el ts j).1) := by
  obtain ⟨b, off, e, hb, hc⟩ := h.pos hk
  exact ⟨b, off, e, hb, fun j hj => ⟨hc j hj 0 (by decide), hc j hj 1 (by decide), hc j hj 2 (by decide)⟩⟩
theorem kB_one {n : Nat} {W : World} {p : Nat} {t : Sc} (hp : p < n) (h0 : W.cell? ⟨p, 0, none⟩ = some (.int .i64 t.2.1)) (h1 : W.cell? ⟨p, 1, none⟩ = some (.int .i64 t.2.2)) (h2 : W.cell? ⟨p, 2, none⟩ = some (.int .i64 t.1)) : kB.In n W (some ⟨p, 0, none⟩) [t] := by
  refine Kind.In.mk1 hp fun i hi => ?_
  rw [Nat.zero_add]
  have hi' : i < 3 := hi
  rcases (show i = 0 ∨ i = 1 ∨ i = 2 from by omega) with rfl | rfl | rfl
  · exact h0
  · exact h1
  · exact h2

set_option maxHeartbeats 2000000 in
theorem branchesOf_any (ao : Option Addr) (cap : Nat) (l : List Sc) (w : World) (hl : l.length ≤ 1048576) (hz : kS.In w.heap.size w ao l) :
    Calls Try.prog 86 #[.slice ao l.length cap] w fun e w' => (∃ v, e = .returned v ∧ kB.Own w.heap.size w' v l) ∧ Below w.heap.size w w' := by
  go_enter Try.func86, Try.ntmps86
  go_wp2
  go_loopw [3, 8] (fun u i wr => ∃ (k : Nat) (v : Value), v = u ∧ k ≤ l.length ∧ i = .int .i64 k ∧ Hid (kB.Own w.heap.size wr v (l.take k)) ∧ Below w.heap.size w wr) (fun _ i _ => l.length - (intOf i).toNat)
  case atStart => exact ⟨0, _, rfl, Nat.zero_le _, rfl, Kind.Own.nil _ _ _, Below.refl _ _⟩
  case round =>
    obtain ⟨k, v, rfl, hk, rfl, hO, hB⟩ := hrel
    have hsz := hB.size
    by_cases hlt : k < l.length
    · obtain ⟨b, off, rfl, hb, hc⟩ := kS_at hz hlt
      have d1 := (hB.cell (p := ⟨b, off + k * 3, none⟩) hb).trans (hc k hlt).1
      have d2 := (hB.cell (p := ⟨b, off + k * 3 + 1, none⟩) hb).trans (hc k hlt).2.1
      have d3 := (hB.cell (p := ⟨b, off + k * 3 + 2, none⟩) hb).trans (hc k hlt).2.2
      obtain ⟨⟨y1, y2, y3⟩, ey⟩ : ∃ v, v = el l k := ⟨_, rfl⟩
      rw [← ey] at d1 d2 d3
      have HY : Hid (el l k = (y1, y2, y3)) := ey.symm
      clear ey hc
      dsimp only at d1 d2 d3
      have HA : Hid (kB.Own w.heap.size ((wr.alloc (.cells #[.int .i64 y1, .int .i64 y2, .int .i64 y3] 104)).alloc (.cells #[.int .i64 y2, .int .i64 y3, .int .i64 y1] 112)) v (l.take k)) := (hO.out.below (below1 _ _)).below (below1 _ _)
      have HN : Hid (kB.In (wr.heap.size + 1 + 1) ((wr.alloc (.cells #[.int .i64 y1, .int .i64 y2, .int .i64 y3] 104)).alloc (.cells #[.int .i64 y2, .int .i64 y3, .int .i64 y1] 112)) (some ⟨wr.heap.size + 1, 0, none⟩) [(y1, y2, y3)]) := kB_one (by omega) (by simp) (by simp) (by simp)
      have hll : (l.take k).length + 1 ≤ 4194304 := by simp; omega
      have hBa : Below w.heap.size w ((wr.alloc (.cells #[.int .i64 y1, .int .i64 y2, .int .i64 y3] 104)).alloc (.cells #[.int .i64 y2, .int .i64 y3, .int .i64 y1] 112)) := Below.allocS (Below.allocS hB _) _
      go_wp2_with (at_builtin; refine Kind.app kB_ok ((wr.alloc (.cells #[.int .i64 y1, .int .i64 y2, .int .i64 y3] 104)).alloc (.cells #[.int .i64 y2, .int .i64 y3, .int .i64 y1] 112)) rfl (.tmp 12) (.tmp 21) rfl w.heap.size v (l.take k) rfl HA.out hBa.size (some ⟨wr.heap.size + 1, 0, none⟩) [(y1, y2, y3)] 1 1 rfl rfl (by simp) _ HN.out hll ?_; intro v' w' hO' hB' hG' hn'; have hB2 : Below w.heap.size w w' := hBa.trans hB'; have HO' : Hid (kB.Own w.heap.size w' v' (l.take (k + 1))) := (by rw [Hid, take_succ_el hlt, HY.out]; exact hO'); clear hO' hB' hG' hn')
      go_roundw
      case rel => exact ⟨k + 1, v', rfl, by omega, by go_num, HO', hB2⟩
      case measure => simp [intOf]; omega
    · obtain rfl : k = l.length := by omega
      go_wp2
      go_ret
      exact ⟨⟨_, rfl, by have := hO.out; rwa [List.take_length] at this⟩, hB⟩

set_option maxHeartbeats 400000 in
theorem ended_is (dl why : Int) (w : World) (x : Bool) (hx : (why != 0) = x) :
    Calls Try.prog 90 #[.agg #[.int .i64 dl, .int .i64 why]] w fun e w' => e = .returned (.bool x) ∧ Below w.heap.size w w' := by
  have HX : Hid ((why != 0) = x) := hx
  clear hx
  go_enter Try.func90, Try.ntmps90
  go_wp2
  go_ret
  exact ⟨ret_bool HX.out, below1 _ _⟩
/-- An ending is good. -/
def endB (dl why : Int) : Bool := decide (0 ≤ dl) && (decide (0 ≤ why) && decide (why ≤ 2))
set_option maxHeartbeats 400000 in
theorem goodEnd_is (dl why : Int) (w : World) (x : Bool) (hx : endB dl why = x) :
    Calls Try.prog 87 #[.agg #[.int .i64 dl, .int .i64 why]] w fun e w' => e = .returned (.bool x) ∧ Below w.heap.size w w' := by
  subst hx
  by_cases h1 : 0 ≤ dl
  · have h1' : decide (0 ≤ dl) = true := by simpa using h1
    by_cases h2 : 0 ≤ why
    · have h2' : decide (0 ≤ why) = true := by simpa using h2
      have HX : Hid (decide (why ≤ 2) = endB dl why) := by rw [Hid, endB, h1', h2']; simp
      generalize endB dl why = x at HX ⊢
      go_enter Try.func87, Try.ntmps87
      go_wp2
      go_ret
      exact ⟨ret_bool HX.out, below1 _ _⟩
    · have h2' : decide (0 ≤ why) = false := by simpa using h2
      have HX : Hid (endB dl why = false) := by rw [Hid, endB, h2']; simp
      generalize endB dl why = x at HX ⊢
      go_enter Try.func87, Try.ntmps87
      go_wp2
      go_ret
      exact ⟨ret_bool HX.out.symm, below1 _ _⟩
  · have h1' : decide (0 ≤ dl) = false := by simpa using h1
    have HX : Hid (endB dl why = false) := by rw [Hid, endB, h1']; simp
    generalize endB dl why = x at HX ⊢
    go_enter Try.func87, Try.ntmps87
    go_wp2
    go_ret
    exact ⟨ret_bool HX.out.symm, below1 _ _⟩
/-- An up is good at a place. -/
def upB (k : Int) (up : Int) : Bool := if k = 0 then up == -1 else decide (0 ≤ up) && decide (up < k)
set_option maxHeartbeats 400000 in
theorem goodUp_is (k up : Int) (w : World) (x : Bool) (hx : upB k up = x) :
    Calls Try.prog 88 #[.int .i64 k, .int .i64 up] w fun e w' => e = .returned (.bool x) ∧ w' = w := by
  by_cases h0 : k = 0
  · have h0' : (k == 0) = true := by simpa using h0
    have HX : Hid ((up == -1) = x) := by rw [Hid, ← hx, upB, if_pos h0]
    clear hx h0
    go_enter Try.func88, Try.ntmps88
    go_wp2
    go_ret
    exact ⟨ret_bool HX.out, rfl⟩
  · have h0' : (k == 0) = false := by simpa using h0
    by_cases h1 : 0 ≤ up
    · have h1' : decide (0 ≤ up) = true := by simpa using h1
      have HX : Hid (decide (up < k) = x) := by rw [Hid, ← hx, upB, if_neg h0, h1']; simp
      clear hx
      go_enter Try.func88, Try.ntmps88
      go_wp2
      go_ret
      exact ⟨ret_bool HX.out, rfl⟩
    · have h1' : decide (0 ≤ up) = false := by simpa using h1
      have HX : Hid (x = false) := by rw [Hid, ← hx, upB, if_neg h0, h1']; simp
      clear hx
      go_enter Try.func88, Try.ntmps88
      go_wp2
      go_ret
      exact ⟨ret_bool HX.out.symm, rfl⟩
/-- The scope above has ended. -/
def aboveB (l : List Sc) (up : Int) : Bool := (up != -1) && ((el l up.toNat).2.2 != 0)
set_option maxHeartbeats 1000000 in
theorem endedAbove_is (ao : Option Addr) (cap : Nat) (l : List Sc) (up : Int) (w : World) (x : Bool) (hu : up = -1 ∨ (0 ≤ up ∧ up < l.length)) (hz : kB.In w.heap.size w ao l) (hx : aboveB l up = x) :
    Calls Try.prog 89 #[.slice ao l.length cap, .int .i64 up] w fun e w' => e = .returned (.bool x) ∧ Below w.heap.size w w' := by
  by_cases h0 : up = -1
  · have h0' : (up != -1) = false := by simpa using h0
    have HX : Hid (x = false) := by rw [Hid, ← hx, aboveB, h0']; simp
    clear hx h0 hu
    go_enter Try.func89, Try.ntmps89
    go_wp2
    go_ret
    exact ⟨ret_bool HX.out.symm, Below.refl _ _⟩
  · have h0' : (up != -1) = true := by simpa using h0
    have hu' : 0 ≤ up ∧ up < l.length := by rcases hu with h | h; exact absurd h h0; exact h
    obtain ⟨k, rfl⟩ : ∃ k : Nat, up = k := ⟨up.toNat, by omega⟩
    have hk : k < l.length := by omega
    have HX : Hid (((el l k).2.2 != 0) = x) := by rw [Hid, ← hx, aboveB, h0']; simp
    clear hx hu hu' h0
    obtain ⟨b, off, rfl, hb, hc⟩ := kB_at hz hk
    obtain ⟨c1, c2, c3⟩ := hc k hk
    obtain ⟨⟨y1, y2, y3⟩, ey⟩ : ∃ v, v = el l k := ⟨_, rfl⟩
    rw [← ey] at c1 c2 c3 HX
    clear ey hc hz
    dsimp only at c1 c2 c3 HX
    go_enter Try.func89, Try.ntmps89
    go_wp2_with fail
    refine (ended_is y2 y3 _ x HX.out).mono ?_
    rintro e w1 ⟨rfl, hb1⟩
    go_wp2
    go_ret
    exact ⟨rfl, hb1⟩
end Go.Proofs.Ytcdkdigafcfgmaa
