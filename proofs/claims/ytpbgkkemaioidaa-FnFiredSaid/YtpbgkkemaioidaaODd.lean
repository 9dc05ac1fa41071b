
/- The iterator over a queue of timers. No conditions but those written. -/
import Derived.RangeFuncNested
import Derived.RangeFuncBound
import Derived.RangeFuncCalls
import Derived.RangeFuncLeaves
import Derived.RangeFuncBox
import Derived.Shelf.Abstract
import Derived.Shelf.RegionOpen
import Derived.WalkKit
import Derived.OwnWalkIn
import Derived.TacticsInMore
import Derived.LoopNIn
import Derived.LoopIn
import Derived.Test.YtpbgkkemaioidaaODc
namespace Go.Proofs.Ytpbgkkemaioidaa.Old
open Go.RowKit Go.Shelf

attribute [local go_sem] Oper.semAt_some

/-- The block b lies as it lay. -/
def SameB (b : Nat) (W W' : World) : Prop := W'.heap[b]? = W.heap[b]?
theorem SameB.cell {b : Nat} {W W' : World} (h : SameB b W W') (o : Nat) : W'.cell? ⟨b, o, none⟩ = W.cell? ⟨b, o, none⟩ := World.cell?_of_block (w := W) (a := ⟨b, o, none⟩) h
theorem SameB.trans {b : Nat} {A B C : World} (h : SameB b A B) (k : SameB b B C) : SameB b A C := Eq.trans k h
theorem sameB_put {b : Nat} {w : World} (hb : b < w.heap.size) (W : World) (l : Nat) (o o' : Obj) (hl : w.heap.size ≤ l) (_ : W.heap[l]? = some o) (_ : o.isCells = false) (_ : o.isWalk = false) : SameB b W (W.putObj l o') :=
  World.putObj_heap_other (by omega)
theorem sameB_set {g : Nat} {W : World} {a : Addr} {u : Value} (h : g ≠ a.block) : SameB g W (W.setCell a u) := Below.heap_setCell W a u g h
theorem grown_alloc (W : World) (o : Obj) : W.grownBy (W.alloc o) none := ⟨rfl, rfl, rfl, by simp, fun k hk _ => Below.heap_alloc W o k hk⟩

/-- A timer's value. -/
def tv (t : T3) : Value := .agg #[.int .i64 t.1, .int .i64 t.2.1, .int .i64 t.2.2]

theorem TimersIn.row {n : Nat} {W : World} {ao : Option Addr} {ts : List T3} (h : TimersIn n W ao ts) : ∃ g, g ≤ n ∧ (ts = [] ∨ ∃ off, ao = some ⟨g, off, none⟩ ∧ g < n ∧ ∀ j, j < ts.length → W.cell? ⟨g, off + j * 3, none⟩ = some (.int .i64 (t3 ts j).1) ∧ W.cell? ⟨g, off + j * 3 + 1, none⟩ = some (.int .i64 (t3 ts j).2.1) ∧ W.cell? ⟨g, off + j * 3 + 2, none⟩ = some (.int .i64 (t3 ts j).2.2)) := by
  rcases h with h | ⟨b, off, e, hb, hc⟩
  · exact ⟨0, Nat.zero_le _, .inl h⟩
  · exact ⟨b, Nat.le_of_lt hb, .inr ⟨off, e, hb, hc⟩⟩

/-- Of what came the timers whose place is not pl. -/
def keepN (ts : List T3) (pl : Int) (pre : List Nat) : List T3 := (pre.filter (fun k : Nat => (k : Int) != pl)).map (t3 ts)
theorem keepN_snoc (ts : List T3) (pl : Int) (pre : List Nat) (x : Nat) : keepN ts pl (pre ++ [x]) = if (x : Int) = pl then keepN ts pl pre else keepN ts pl pre ++ [t3 ts x] := by
  rw [keepN, List.filter_append]
  by_cases e : (x : Int) = pl <;> simp [keepN, e]
theorem keepN_len (ts : List T3) (pl : Int) (pre : List Nat) : (keepN ts pl pre).length ≤ pre.length := by
  rw [keepN, List.length_map]; exact List.length_filter_le _ _
theorem keepN_range (ts : List T3) (k : Nat) (hk : k < ts.length) : keepN ts (k : Int) (List.range ts.length) = ts.take k ++ ts.drop (k + 1) := by
  obtain ⟨m, hm⟩ : ∃ m, ts.length = k + (1 + m) := ⟨ts.length - k - 1, by omega⟩
  have e1 : (List.range k).filter (fun j : Nat => (j : Int) != (k : Int)) = List.range k := by
    rw [List.filter_eq_self]; intro j hj; have := List.mem_range.1 hj; simp; omega
  have e2 : ((List.range m).map (fun i => k + (1 + i))).filter (fun j : Nat => (j : Int) != (k : Int)) = (List.range m).map (fun i => k + (1 + i)) := by
    rw [List.filter_eq_self]; intro j hj
    obtain ⟨i, _, rfl⟩ := List.mem_map.1 hj
    simp; omega
  rw [hm, List.range_add, List.range_add, keepN]
  simp only [List.map_append, List.map_map, List.filter_append, Function.comp_def]
  rw [e1, e2]
  have e3 : (List.map (fun x => k + x) (List.range 1)).filter (fun j : Nat => (j : Int) != (k : Int)) = [] := by simp [List.range_succ]
  rw [e3, List.map_nil, List.nil_append]
  congr 1
  · apply List.ext_getElem?
    intro i
    by_cases hi : i < k
    · have : i < ts.length := by omega
      simp [hi, this, t3]
    · rw [List.getElem?_eq_none (by simp; omega), List.getElem?_eq_none (by simp; omega)]
  · apply List.ext_getElem?
    intro i
    by_cases hi : i < m
    · have h1 : k + (1 + i) < ts.length := by omega
      have h2 : k + 1 + i < ts.length := by omega
      simp only [List.map_map, List.getElem?_map, List.getElem?_drop, List.getElem?_range hi, Option.map_some, Function.comp_def, t3]
      rw [show k + 1 + i = k + (1 + i) from by omega]
      simp [h1]
    · rw [List.getElem?_eq_none (by simp; omega), List.getElem?_eq_none (by simp; omega)]
end Go.Proofs.Ytpbgkkemaioidaa.Old
