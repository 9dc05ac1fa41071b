/- The iterator over a queue of timers. No conditions but those written. -/
import Derived.RangeFuncNested
import Derived.RangeFuncBound
import Derived.RangeFuncCalls
import Derived.RangeFuncLeaves
import Derived.RangeFuncBox
import Derived.Shelf.Abstract
import Derived.Shelf.RegionOpen
import Derived.WalkKit
import Derived.OwnWalkIn
import Derived.TacticsInMore
import Derived.LoopNIn
import Derived.LoopIn
import Derived.Test.YtmjjjckjmfekcaaDc
namespace Go.Proofs.Ytmjjjckjmfekcaa
open Go.RowKit Go.Shelf

attribute [local go_sem] Oper.semAt_some

/-- The block b lies as it lay. -/
def SameB (b : Nat) (W W' : World) : Prop := W'.heap[b]? = W.heap[b]?
theorem SameB.cell {b : Nat} {W W' : World} (h : SameB b W W') (o : Nat) : W'.cell? ⟨b, o, none⟩ = W.cell? ⟨b, o, none⟩ := World.cell?_of_block (w := W) (a := ⟨b, o, none⟩) h
theorem SameB.trans {b : Nat} {A B C : World} (h : SameB b A B) (k : SameB b B C) : SameB b A C := Eq.trans k h
theorem sameB_put {b : Nat} {w : World} (hb : b < w.heap.size) (W : World) (l : Nat) (o o' : Obj) (hl : w.heap.size ≤ l) (_ : W.heap[l]? = some o) (_ : o.isCells = false) (_ : o.isWalk = false) : SameB b W (W.putObj l o') :=
  World.putObj_heap_other (by omega)
theorem sameB_set {g : Nat} {W : World} {a : Addr} {u : Value} (h : g ≠ a.block) : SameB g W (W.setCell a u) := Below.heap_setCell W a u g h
theorem grown_alloc (W : World) (o : Obj) : W.grownBy (W.alloc o) none := ⟨rfl, rfl, rfl, by simp, fun k hk _ => Below.heap_alloc W o k hk⟩

/-- A timer's value. -/
def tv (t : T3) : Value := .agg #[.int .i64 t.1, .int .i64 t.2.1, .int .i64 t.2.2]

set_option maxRecDepth 100000 in
set_option maxHeartbeats 2000000 in
theorem all1_in (F : Fence) (n : Nat) (h62 : F.fn 62) (hro : F.round = none) (hn : 1 ≤ n) (l Bs b off len cap : Nat) (ts : List T3) (hreach : len ≤ 1048576) (J Jx : List Nat → World → Prop) (W : World) (hJ : AbidesFrom W.heap.size J)
    (hY : ∀ (pre : List Nat) (x : Nat) (W : World), J pre W → pre.length < len → YieldAt F (n - 1) Try.prog l #[.int .i64 (x : Int), tv (t3 ts x)] W fun e W' =>
      (e = .returned (.bool true) ∧ J (pre ++ [x]) W' ∧ SameB b W W') ∨ (e = .returned (.bool false) ∧ Jx (pre ++ [x]) W'))
    (hBs : W.cell? ⟨Bs, 0, none⟩ = some (.slice (some ⟨b, off, none⟩) len cap)) (hc : ∀ j, j < len → W.cell? ⟨b, off + j * 3, none⟩ = some (.int .i64 (t3 ts j).1) ∧ W.cell? ⟨b, off + j * 3 + 1, none⟩ = some (.int .i64 (t3 ts j).2.1) ∧ W.cell? ⟨b, off + j * 3 + 2, none⟩ = some (.int .i64 (t3 ts j).2.2)) (h0 : J [] W) :
    CallsIn F n Try.prog 62 #[.func (.yield l) #[] #[], .pointer (some ⟨Bs, 0, none⟩)] W fun e W' => (∃ v, e = .returned v) ∧
      ((∃ ys, ys = List.range len ∧ J ys W') ∨ (∃ pre, (∃ k, k ≤ len ∧ pre = List.range k) ∧ Jx pre W')) := by
  refine callsIn_of_wp Try.func62 rfl h62 ?_ hro
  simp only [Try.ntmps62, List.size_toArray, List.length_cons, List.length_nil, Nat.reduceAdd, Nat.reduceSub, Array.replicate_succ, Array.replicate_zero, List.push_toArray, List.append_toArray, List.nil_append, List.cons_append]
  gi_wp2
  gi_loopw [8] (fun i wr => ∃ k : Nat, k ≤ len ∧ i = .int .i64 k ∧ J (List.range k) wr ∧ Hid (SameB b W wr))
    (fun i _ => len - (intOf i).toNat)
  case atStart => exact ⟨0, Nat.zero_le _, rfl, h0, rfl⟩
  case round =>
    obtain ⟨k, hk, rfl, hJs, hnx⟩ := hrel
    by_cases hlt : k < len
    · obtain ⟨c1, c2, c3⟩ := hc k hlt
      have d1 := (hnx.out.cell (off + k * 3)).trans c1
      have d2 := (hnx.out.cell (off + k * 3 + 1)).trans c2
      have d3 := (hnx.out.cell (off + k * 3 + 2)).trans c3
      obtain ⟨x1, e1⟩ : ∃ x, x = (t3 ts k).1 := ⟨_, rfl⟩
      obtain ⟨x2, e2⟩ : ∃ x, x = (t3 ts k).2.1 := ⟨_, rfl⟩
      obtain ⟨x3, e3⟩ : ∃ x, x = (t3 ts k).2.2 := ⟨_, rfl⟩
      have hbl : b < wr.heap.size := World.block_lt_of_cell? _ _ d1
      have hJa := hJ _ wr _ none hJs (grown_alloc wr (.cells #[.int .i64 x1, .int .i64 x2, .int .i64 x3] 51)) (fun r e => by cases e)
      obtain ⟨fn, tmps, assign, body, hy, hR⟩ := hY _ k _ hJa (by rw [List.length_range]; exact hlt)
      simp only [tv, ← e1, ← e2, ← e3] at hy
      rw [← e1] at d1
      rw [← e2] at d2
      rw [← e3] at d3
      clear c1 c2 c3 hc e1 e2 e3
      gi_wp2
      refine hR.mono ?_
      rintro e W3 (⟨rfl, hJ3, hk3⟩ | ⟨rfl, hJx3⟩)
      · have hk4 : SameB b wr W3 := SameB.trans (Below.heap_alloc wr _ b hbl) hk3
        gi_wp2
        go_roundw
        case rel => exact ⟨k + 1, by omega, by simp, by rw [List.range_succ]; exact hJ3, hnx.out.trans hk4⟩
        case measure => simp [intOf]; omega
      · gi_wp2
        refine bodyPost_ret (results_none rfl _ _ _) rfl ?_
        exact ⟨⟨_, rfl⟩, .inr ⟨_, ⟨k + 1, by omega, List.range_succ.symm⟩, hJx3⟩⟩
    · obtain rfl : k = len := by omega
      gi_wp2
      go_end0
      exact ⟨⟨_, rfl⟩, .inl ⟨_, rfl, hJs⟩⟩

set_option maxRecDepth 100000 in
set_option maxHeartbeats 1000000 in
theorem all1_nil_in (F : Fence) (n : Nat) (h62 : F.fn 62) (hro : F.round = none) (l Bs : Nat) (ao : Option Addr) (cap : Nat) (J : List Nat → World → Prop) (W : World) (hBs : W.cell? ⟨Bs, 0, none⟩ = some (.slice ao 0 cap)) (h0 : J [] W) :
    CallsIn F n Try.prog 62 #[.func (.yield l) #[] #[], .pointer (some ⟨Bs, 0, none⟩)] W fun e W' => (∃ v, e = .returned v) ∧ J [] W' := by
  refine callsIn_of_wp Try.func62 rfl h62 ?_ hro
  simp only [Try.ntmps62, List.size_toArray, List.length_cons, List.length_nil, Nat.reduceAdd, Nat.reduceSub, Array.replicate_succ, Array.replicate_zero, List.push_toArray, List.append_toArray, List.nil_append, List.cons_append]
  gi_wp2
  gi_loopw [8] (fun i wr => i = .int .i64 0 ∧ J [] wr) (fun _ _ => 0)
  case atStart => exact ⟨rfl, h0⟩
  case round =>
    obtain ⟨rfl, hJs⟩ := hrel
    gi_wp2
    go_end0
    exact ⟨⟨_, rfl⟩, hJs⟩

/-- The queue's iterator hands out (0, ts[0]), (1, ts[1]), ..: all, or the first k of them. -/
theorem all_stops (F : Fence) (n : Nat) (h62 : F.fn 62) (hro : F.round = none) (hn : 1 ≤ n) (Bs b : Nat) (ao : Option Addr) (cap : Nat) (ts : List T3) (hreach : ts.length ≤ 1048576) (w : World) (hBs : Bs < w.heap.size)
    (hc : w.cell? ⟨Bs, 0, none⟩ = some (.slice ao ts.length cap)) (hI : ts = [] ∨ ∃ off, ao = some ⟨b, off, none⟩ ∧ b < w.heap.size ∧ ∀ j, j < ts.length → w.cell? ⟨b, off + j * 3, none⟩ = some (.int .i64 (t3 ts j).1) ∧ w.cell? ⟨b, off + j * 3 + 1, none⟩ = some (.int .i64 (t3 ts j).2.1) ∧ w.cell? ⟨b, off + j * 3 + 2, none⟩ = some (.int .i64 (t3 ts j).2.2)) :
    SeqStopsK F n Try.prog 62 #[.pointer (some ⟨Bs, 0, none⟩)] (fun x : Nat => #[Value.int .i64 (x : Int), tv (t3 ts x)]) (SameB b) (fun ys => ys = List.range ts.length)
      (fun pre => ∃ k, k ≤ ts.length ∧ pre = List.range k) ts.length w := fun l J Jx W hW hJ _ hY h0 => by
  have hc' := (hW.cell (p := ⟨Bs, 0, none⟩) hBs).trans hc
  rcases hI with rfl | ⟨off, rfl, hb, hcs⟩
  · exact (all1_nil_in F n h62 hro l Bs ao cap J W hc' h0).mono fun e W' ⟨he, hj⟩ => ⟨he, .inl ⟨_, rfl, hj⟩⟩
  · exact all1_in F n h62 hro hn l Bs b off ts.length cap ts hreach J Jx W hJ hY hc' (fun j hj => ⟨(hW.cell (p := ⟨b, off + j * 3, none⟩) hb).trans (hcs j hj).1, (hW.cell (p := ⟨b, off + j * 3 + 1, none⟩) hb).trans (hcs j hj).2.1, (hW.cell (p := ⟨b, off + j * 3 + 2, none⟩) hb).trans (hcs j hj).2.2⟩) h0

theorem TimersIn.row {n : Nat} {W : World} {ao : Option Addr} {ts : List T3} (h : TimersIn n W ao ts) : ∃ g, g ≤ n ∧ (ts = [] ∨ ∃ off, ao = some ⟨g, off, none⟩ ∧ g < n ∧ ∀ j, j < ts.length → W.cell? ⟨g, off + j * 3, none⟩ = some (.int .i64 (t3 ts j).1) ∧ W.cell? ⟨g, off + j * 3 + 1, none⟩ = some (.int .i64 (t3 ts j).2.1) ∧ W.cell? ⟨g, off + j * 3 + 2, none⟩ = some (.int .i64 (t3 ts j).2.2)) := by
  rcases h with h | ⟨b, off, e, hb, hc⟩
  · exact ⟨0, Nat.zero_le _, .inl h⟩
  · exact ⟨b, Nat.le_of_lt hb, .inr ⟨off, e, hb, hc⟩⟩

set_option maxHeartbeats 1000000 in
theorem all_any (v : Value) (hv : ∃ a n c, v = .slice a n c) (w : World) :
    Calls Try.prog 58 #[.agg #[v]] w fun e w' => e = .returned (.func (.func 62) #[] #[.pointer (some ⟨w.heap.size, 0, none⟩)]) ∧ w' = w.alloc (.cells #[v] 67) := by
  obtain ⟨a, n, c, rfl⟩ := hv
  go_enter Try.func58, Try.ntmps58
  go_wp2
  go_ret
  exact ⟨rfl, rfl⟩

/-- Of what came the timers whose place is not pl. -/
def keepN (ts : List T3) (pl : Int) (pre : List Nat) : List T3 := (pre.filter (fun k : Nat => (k : Int) != pl)).map (t3 ts)
theorem keepN_snoc (ts : List T3) (pl : Int) (pre : List Nat) (x : Nat) : keepN ts pl (pre ++ [x]) = if (x : Int) = pl then keepN ts pl pre else keepN ts pl pre ++ [t3 ts x] := by
  rw [keepN, List.filter_append]
  by_cases e : (x : Int) = pl <;> simp [keepN, e]
theorem keepN_len (ts : List T3) (pl : Int) (pre : List Nat) : (keepN ts pl pre).length ≤ pre.length := by
  rw [keepN, List.length_map]; exact List.length_filter_le _ _
theorem keepN_range (ts : List T3) (k : Nat) (hk : k < ts.length) : keepN ts (k : Int) (List.range ts.length) = ts.take k ++ ts.drop (k + 1) := by
  obtain ⟨m, hm⟩ : ∃ m, ts.length = k + (1 + m) := ⟨ts.length - k - 1, by omega⟩
  have e1 : (List.range k).filter (fun j : Nat => (j : Int) != (k : Int)) = List.range k := by
    rw [List.filter_eq_self]; intro j hj; have := List.mem_range.1 hj; simp; omega
  have e2 : ((List.range m).map (fun i => k + (1 + i))).filter (fun j : Nat => (j : Int) != (k : Int)) = (List.range m).map (fun i => k + (1 + i)) := by
    rw [List.filter_eq_self]; intro j hj
    obtain ⟨i, _, rfl⟩ := List.mem_map.1 hj
    simp; omega
  rw [hm, List.range_add, List.range_add, keepN]
  simp only [List.map_append, List.map_map, List.filter_append, Function.comp_def]
  rw [e1, e2]
  have e3 : (List.map (fun x => k + x) (List.range 1)).filter (fun j : Nat => (j : Int) != (k : Int)) = [] := by simp [List.range_succ]
  rw [e3, List.map_nil, List.nil_append]
  congr 1
  · apply List.ext_getElem?
    intro i
    by_cases hi : i < k
    · have : i < ts.length := by omega
      simp [hi, this, t3]
    · rw [List.getElem?_eq_none (by simp; omega), List.getElem?_eq_none (by simp; omega)]
  · apply List.ext_getElem?
    intro i
    by_cases hi : i < m
    · have h1 : k + (1 + i) < ts.length := by omega
      have h2 : k + 1 + i < ts.length := by omega
      simp only [List.map_map, List.getElem?_map, List.getElem?_drop, List.getElem?_range hi, Option.map_some, Function.comp_def, t3]
      rw [show k + 1 + i = k + (1 + i) from by omega]
      simp [h1]
    · rw [List.getElem?_eq_none (by simp; omega), List.getElem?_eq_none (by simp; omega)]
end Go.Proofs.Ytmjjjckjmfekcaa
