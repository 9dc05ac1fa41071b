
/- A queue of waiters: its iterator, without one place, with one more. No conditions but those written. -/
import Derived.RangeFuncNested
import Derived.RangeFuncBound
import Derived.RangeFuncCalls
import Derived.RangeFuncLeaves
import Derived.RangeFuncBox
import Derived.Shelf.Abstract
import Derived.Shelf.RegionOpen
import Derived.WalkKit
import Derived.OwnWalkIn
import Derived.TacticsInMore
import Derived.LoopNIn
import Derived.LoopIn
import Derived.Test.YtdfmmidokfcjfaaOFa
namespace Go.Proofs.Ytdfmmidokfcjfaa.Old
open Go.RowKit Go.Shelf

attribute [local go_sem] Oper.semAt_some

/-- The block b lies as it lay. -/
def SameB (b : Nat) (W W' : World) : Prop := W'.heap[b]? = W.heap[b]?
theorem SameB.cell {b : Nat} {W W' : World} (h : SameB b W W') (o : Nat) : W'.cell? ⟨b, o, none⟩ = W.cell? ⟨b, o, none⟩ := World.cell?_of_block (w := W) (a := ⟨b, o, none⟩) h
theorem SameB.trans {b : Nat} {A B C : World} (h : SameB b A B) (k : SameB b B C) : SameB b A C := Eq.trans k h
theorem sameB_put {b : Nat} {w : World} (hb : b < w.heap.size) (W : World) (l : Nat) (o o' : Obj) (hl : w.heap.size ≤ l) (_ : W.heap[l]? = some o) (_ : o.isCells = false) (_ : o.isWalk = false) : SameB b W (W.putObj l o') :=
  World.putObj_heap_other (by omega)
theorem sameB_set {g : Nat} {W : World} {a : Addr} {u : Value} (h : g ≠ a.block) : SameB g W (W.setCell a u) := Below.heap_setCell W a u g h
theorem grown_alloc (W : World) (o : Obj) : W.grownBy (W.alloc o) none := ⟨rfl, rfl, rfl, by simp, fun k hk _ => Below.heap_alloc W o k hk⟩
/-- A timer's value. -/
def tv (t : T3) : Value := .agg #[.int .i64 t.1, .int .i64 t.2.1, .int .i64 t.2.2]
set_option maxRecDepth 100000 in
set_option maxHeartbeats 2000000 in
theorem all1_in (F : Fence) (n : Nat) (hAll : F.fn 48) (hro : F.round = none) (hn : 1 ≤ n) (l Bs b off len cap : Nat) (ts : List T3) (hreach : len ≤ 1048576) (J Jx : List Nat → World → Prop) (W : World) (hJ : AbidesFrom W.heap.size J)
    (hY : ∀ (pre : List Nat) (x : Nat) (W : World), J pre W → pre.length < len → YieldAt F (n - 1) Try.prog l #[.int .i64 (x : Int), tv (t3 ts x)] W fun e W' =>
      (e = .returned (.bool true) ∧ J (pre ++ [x]) W' ∧ SameB b W W') ∨ (e = .returned (.bool false) ∧ Jx (pre ++ [x]) W'))
    (hBs : W.cell? ⟨Bs, 0, none⟩ = some (.slice (some ⟨b, off, none⟩) len cap)) (hc : ∀ j, j < len → W.cell? ⟨b, off + j * 3, none⟩ = some (.int .i64 (t3 ts j).1) ∧ W.cell? ⟨b, off + j * 3 + 1, none⟩ = some (.int .i64 (t3 ts j).2.1) ∧ W.cell? ⟨b, off + j * 3 + 2, none⟩ = some (.int .i64 (t3 ts j).2.2)) (h0 : J [] W) :
    CallsIn F n Try.prog 48 #[.func (.yield l) #[] #[], .pointer (some ⟨Bs, 0, none⟩)] W fun e W' => (∃ v, e = .returned v) ∧
      ((∃ ys, ys = List.range len ∧ J ys W') ∨ (∃ pre, (∃ k, k ≤ len ∧ pre = List.range k) ∧ Jx pre W')) := by
  refine callsIn_of_wp Try.func48 rfl hAll ?_ hro
  simp only [Try.ntmps48, List.size_toArray, List.length_cons, List.length_nil, Nat.reduceAdd, Nat.reduceSub, Array.replicate_succ, Array.replicate_zero, List.push_toArray, List.append_toArray, List.nil_append, List.cons_append]
  gi_wp2
  gi_loopw [8] (fun i wr => ∃ k : Nat, k ≤ len ∧ i = .int .i64 k ∧ J (List.range k) wr ∧ Hid (SameB b W wr))
    (fun i _ => len - (intOf i).toNat)
  case atStart => exact ⟨0, Nat.zero_le _, rfl, h0, rfl⟩
  case round =>
    obtain ⟨k, hk, rfl, hJs, hnx⟩ := hrel
    by_cases hlt : k < len
    · obtain ⟨c1, c2, c3⟩ := hc k hlt
      have d1 := (hnx.out.cell (off + k * 3)).trans c1
      have d2 := (hnx.out.cell (off + k * 3 + 1)).trans c2
      have d3 := (hnx.out.cell (off + k * 3 + 2)).trans c3
      obtain ⟨x1, e1⟩ : ∃ x, x = (t3 ts k).1 := ⟨_, rfl⟩
      obtain ⟨x2, e2⟩ : ∃ x, x = (t3 ts k).2.1 := ⟨_, rfl⟩
      obtain ⟨x3, e3⟩ : ∃ x, x = (t3 ts k).2.2 := ⟨_, rfl⟩
      have hbl : b < wr.heap.size := World.block_lt_of_cell? _ _ d1
      have hJa := hJ _ wr _ none hJs (grown_alloc wr (.cells #[.int .i64 x1, .int .i64 x2, .int .i64 x3] 28)) (fun r e => by cases e)
      obtain ⟨fn, tmps, assign, body, hy, hR⟩ := hY _ k _ hJa (by rw [List.length_range]; exact hlt)
      simp only [tv, ← e1, ← e2, ← e3] at hy
      rw [← e1] at d1
      rw [← e2] at d2
      rw [← e3] at d3
      clear c1 c2 c3 hc e1 e2 e3
      gi_wp2
      refine hR.mono ?_
      rintro e W3 (⟨rfl, hJ3, hk3⟩ | ⟨rfl, hJx3⟩)
      · have hk4 : SameB b wr W3 := SameB.trans (Below.heap_alloc wr _ b hbl) hk3
        gi_wp2
        go_roundw
        case rel => exact ⟨k + 1, by omega, by simp, by rw [List.range_succ]; exact hJ3, hnx.out.trans hk4⟩
        case measure => simp [intOf]; omega
      · gi_wp2
        refine bodyPost_ret (results_none rfl _ _ _) rfl ?_
        exact ⟨⟨_, rfl⟩, .inr ⟨_, ⟨k + 1, by omega, List.range_succ.symm⟩, hJx3⟩⟩
    · obtain rfl : k = len := by omega
      gi_wp2
      go_end0
      exact ⟨⟨_, rfl⟩, .inl ⟨_, rfl, hJs⟩⟩
set_option maxRecDepth 100000 in
set_option maxHeartbeats 1000000 in
theorem all1_nil_in (F : Fence) (n : Nat) (hAll : F.fn 48) (hro : F.round = none) (l Bs : Nat) (ao : Option Addr) (cap : Nat) (J : List Nat → World → Prop) (W : World) (hBs : W.cell? ⟨Bs, 0, none⟩ = some (.slice ao 0 cap)) (h0 : J [] W) :
    CallsIn F n Try.prog 48 #[.func (.yield l) #[] #[], .pointer (some ⟨Bs, 0, none⟩)] W fun e W' => (∃ v, e = .returned v) ∧ J [] W' := by
  refine callsIn_of_wp Try.func48 rfl hAll ?_ hro
  simp only [Try.ntmps48, List.size_toArray, List.length_cons, List.length_nil, Nat.reduceAdd, Nat.reduceSub, Array.replicate_succ, Array.replicate_zero, List.push_toArray, List.append_toArray, List.nil_append, List.cons_append]
  gi_wp2
  gi_loopw [8] (fun i wr => i = .int .i64 0 ∧ J [] wr) (fun _ _ => 0)
  case atStart => exact ⟨rfl, h0⟩
  case round =>
    obtain ⟨rfl, hJs⟩ := hrel
    gi_wp2
    go_end0
    exact ⟨⟨_, rfl⟩, hJs⟩
/-- The queue's iterator hands out (0, ts[0]), (1, ts[1]), ..: all, or the first k of them. -/
theorem all_stops (F : Fence) (n : Nat) (hAll : F.fn 48) (hro : F.round = none) (hn : 1 ≤ n) (Bs b : Nat) (ao : Option Addr) (cap : Nat) (ts : List T3) (hreach : ts.length ≤ 1048576) (w : World) (hBs : Bs < w.heap.size)
    (hc : w.cell? ⟨Bs, 0, none⟩ = some (.slice ao ts.length cap)) (hI : ts = [] ∨ ∃ off, ao = some ⟨b, off, none⟩ ∧ b < w.heap.size ∧ ∀ j, j < ts.length → w.cell? ⟨b, off + j * 3, none⟩ = some (.int .i64 (t3 ts j).1) ∧ w.cell? ⟨b, off + j * 3 + 1, none⟩ = some (.int .i64 (t3 ts j).2.1) ∧ w.cell? ⟨b, off + j * 3 + 2, none⟩ = some (.int .i64 (t3 ts j).2.2)) :
    SeqStopsK F n Try.prog 48 #[.pointer (some ⟨Bs, 0, none⟩)] (fun x : Nat => #[Value.int .i64 (x : Int), tv (t3 ts x)]) (SameB b) (fun ys => ys = List.range ts.length)
      (fun pre => ∃ k, k ≤ ts.length ∧ pre = List.range k) ts.length w := fun l J Jx W hW hJ _ hY h0 => by
  have hc' := (hW.cell (p := ⟨Bs, 0, none⟩) hBs).trans hc
  rcases hI with rfl | ⟨off, rfl, hb, hcs⟩
  · exact (all1_nil_in F n hAll hro l Bs ao cap J W hc' h0).mono fun e W' ⟨he, hj⟩ => ⟨he, .inl ⟨_, rfl, hj⟩⟩
  · exact all1_in F n hAll hro hn l Bs b off ts.length cap ts hreach J Jx W hJ hY hc' (fun j hj => ⟨(hW.cell (p := ⟨b, off + j * 3, none⟩) hb).trans (hcs j hj).1, (hW.cell (p := ⟨b, off + j * 3 + 1, none⟩) hb).trans (hcs j hj).2.1, (hW.cell (p := ⟨b, off + j * 3 + 2, none⟩) hb).trans (hcs j hj).2.2⟩) h0
set_option maxHeartbeats 1000000 in
theorem all_any (v : Value) (hv : ∃ a n c, v = .slice a n c) (w : World) :
    Calls Try.prog 47 #[.agg #[v]] w fun e w' => e = .returned (.func (.func 48) #[] #[.pointer (some ⟨w.heap.size, 0, none⟩)]) ∧ w' = w.alloc (.cells #[v] 71) := by
  obtain ⟨a, n, c, rfl⟩ := hv
  go_enter Try.func47, Try.ntmps47
  go_wp2
  go_ret
  exact ⟨rfl, rfl⟩
/-- Of what came the timers whose place is not pl. -/
def keepN (ts : List T3) (pl : Int) (pre : List Nat) : List T3 := (pre.filter (fun k : Nat => (k : Int) != pl)).map (t3 ts)
theorem keepN_snoc (ts : List T3) (pl : Int) (pre : List Nat) (x : Nat) : keepN ts pl (pre ++ [x]) = if (x : Int) = pl then keepN ts pl pre else keepN ts pl pre ++ [t3 ts x] := by
  rw [keepN, List.filter_append]
  by_cases e : (x : Int) = pl <;> simp [keepN, e]
theorem keepN_len (ts : List T3) (pl : Int) (pre : List Nat) : (keepN ts pl pre).length ≤ pre.length := by
  rw [keepN, List.length_map]; exact List.length_filter_le _ _
theorem keepN_range (ts : List T3) (k : Nat) (hk : k < ts.length) : keepN ts (k : Int) (List.range ts.length) = ts.take k ++ ts.drop (k + 1) := by
  obtain ⟨m, hm⟩ : ∃ m, ts.length = k + (1 + m) := ⟨ts.length - k - 1, by omega⟩
  have e1 : (List.range k).filter (fun j : Nat => (j : Int) != (k : Int)) = List.range k := by
    rw [List.filter_eq_self]; intro j hj; have := List.mem_range.1 hj; simp; omega
  have e2 : ((List.range m).map (fun i => k + (1 + i))).filter (fun j : Nat => (j : Int) != (k : Int)) = (List.range m).map (fun i => k + (1 + i)) := by
    rw [List.filter_eq_self]; intro j hj
    obtain ⟨i, _, rfl⟩ := List.mem_map.1 hj
    simp; omega
  rw [hm, List.range_add, List.range_add, keepN]
  simp only [List.map_append, List.map_map, List.filter_append, Function.comp_def]
  rw [e1, e2]
  have e3 : (List.map (fun x => k + x) (List.range 1)).filter (fun j : Nat => (j : Int) != (k : Int)) = [] := by simp [List.range_succ]
  rw [e3, List.map_nil, List.nil_append]
  congr 1
  · apply List.ext_getElem?
    intro i
    by_cases hi : i < k
    · have : i < ts.length := by omega
      simp [hi, this, t3]
    · rw [List.getElem?_eq_none (by simp; omega), List.getElem?_eq_none (by simp; omega)]
  · apply List.ext_getElem?
    intro i
    by_cases hi : i < m
    · have h1 : k + (1 + i) < ts.length := by omega
      have h2 : k + 1 + i < ts.length := by omega
      simp only [List.map_map, List.getElem?_map, List.getElem?_drop, List.getElem?_range hi, Option.map_some, Function.comp_def, t3]
      rw [show k + 1 + i = k + (1 + i) from by omega]
      simp [h1]
    · rw [List.getElem?_eq_none (by simp; omega), List.getElem?_eq_none (by simp; omega)]
theorem owns_kept {w w' : World} {base : Nat} {e : TypeId} {size : Nat} {v : Value} {n : Nat} {xs : List Value} {row : Option Nat} (h : w.ownsRow base e size v n xs) (hg : w.grownBy w' row) (hr : ∀ r, row = some r → ∃ o : Obj, w.heap[r]? = some o ∧ o.isCells = false) : w'.ownsRow base e size v n xs := by
  obtain ⟨h1, h2⟩ := h
  refine ⟨h1, ?_⟩
  rcases h2 with h2 | ⟨g, cap, cur, hv, hb, hh, r⟩
  · exact Or.inl h2
  · refine Or.inr ⟨g, cap, cur, hv, hb, ?_, r⟩
    rw [hg.block g (Array.getElem?_eq_some_iff.1 hh).1 (fun e => ?_)]
    · exact hh
    · obtain ⟨o, ho, hc⟩ := hr g e.symm
      rw [hh] at ho; cases ho; cases hc
theorem FreshC.kept {lo hi : Nat} {W W' : World} {to : Option Addr} {tc : Nat} {ts : List T3} {row : Option Nat} (h : FreshC lo hi W to tc ts) (hg : W.grownBy W' row) (hr : ∀ r, row = some r → ∃ o : Obj, W.heap[r]? = some o ∧ o.isCells = false) : FreshC lo hi W' to tc ts := by
  rcases h with h | ⟨g, xs, e, hl, ho, hp⟩
  · exact .inl h
  · exact .inr ⟨g, xs, e, hl, owns_kept ho hg hr, hp⟩
theorem own_cells {lo : Nat} {W : World} {v : Value} {n : Nat} {xs : List Value} (h : W.ownsRow lo 28 3 v n xs) : ∀ (j : Nat) (o : Obj), v.ownBlock = some j → W.heap[j]? = some o → o.isCells = true := by
  rcases h.2 with ⟨e, _⟩ | ⟨g, cap, cur, e, hb, hh, _⟩
  · subst e
    exact fun j o h => by simp [Value.ownBlock] at h
  · subst e
    refine fun j o h ho => ?_
    simp [Value.ownBlock] at h
    subst h
    rw [hh] at ho; cases ho; rfl
/-- Between two rounds: the box holds a row of its own with what is kept. -/
def DInv (B : Nat) (ts : List T3) (pl : Int) (g : Nat) (pre : List Nat) (W : World) : Prop :=
  W.cell? ⟨B + 1, 0, none⟩ = some (.int .i64 pl) ∧ (W.cell? ⟨B + 1 + 1, 0, none⟩ = some (.slice none 0 0) ∧ W.frozen? ⟨B + 1 + 1, 0, none⟩ = false) ∧ (∃ v, W.cell? ⟨B + 1 + 1 + 1, 0, none⟩ = some v ∧ OwnV (B + 1 + 1 + 1 + 1) W v (keepN ts pl pre)) ∧ W.frozen? ⟨B + 1 + 1 + 1, 0, none⟩ = false ∧ g < W.heap.size
theorem DInv.kept {B : Nat} {ts : List T3} {pl : Int} {g : Nat} {pre : List Nat} {W W' : World} {row : Option Nat} (h : DInv B ts pl g pre W) (hg : W.grownBy W' row) (hr : ∀ r, row = some r → ∃ o : Obj, W.heap[r]? = some o ∧ o.isCells = false) : DInv B ts pl g pre W' := by
  obtain ⟨h2, ⟨h3, h4⟩, ⟨v, h5, h6⟩, h7, h8⟩ := h
  exact ⟨cell_kept h2 hg hr, ⟨cell_kept h3 hg hr, (frozen_kept h3 hg hr).trans h4⟩, ⟨v, cell_kept h5 hg hr, owns_kept h6 hg hr⟩, (frozen_kept h5 hg hr).trans h7, Nat.lt_of_lt_of_le h8 hg.size⟩
/-- A round's own variables: the item lies in a block of its own. -/
def Item (p : Nat) (t : T3) (W : World) : Prop := W.cell? ⟨p, 0, none⟩ = some (.int .i64 t.1) ∧ W.cell? ⟨p, 1, none⟩ = some (.int .i64 t.2.1) ∧ W.cell? ⟨p, 2, none⟩ = some (.int .i64 t.2.2)
theorem Item.kept {p : Nat} {t : T3} {W W' : World} {row : Option Nat} (h : Item p t W) (hg : W.grownBy W' row) (hr : ∀ r, row = some r → ∃ o : Obj, W.heap[r]? = some o ∧ o.isCells = false) : Item p t W' :=
  ⟨cell_kept h.1 hg hr, cell_kept h.2.1 hg hr, cell_kept h.2.2 hg hr⟩
set_option maxRecDepth 100000 in
set_option maxHeartbeats 4000000 in
theorem without_any (ao : Option Addr) (cap : Nat) (ts : List T3) (pl : Int) (w : World) (hm : ts.length ≤ 1048576) (hq : TimersIn w.heap.size w ao ts) (R : List T3) (hR : R = keepN ts pl (List.range ts.length)) :
    Calls Try.prog 39 #[.agg #[.slice ao ts.length cap], .int .i64 pl] w fun e w' => (∃ go qc, e = .returned (.agg #[.slice go R.length qc]) ∧ FreshC w.heap.size w'.heap.size w' go qc R) ∧ Below w.heap.size w w' := by
  have HR : Hid (R = keepN ts pl (List.range ts.length)) := hR
  clear hR
  refine (callsIn_wide (n := 4)).1 ?_
  have hro : Fence.wide.round = none := rfl
  refine callsIn_of_wp_marks Try.func39 rfl trivial ?_ hro
  simp only [Try.ntmps39, List.size_toArray, List.length_cons, List.length_nil, Nat.reduceAdd, Nat.reduceSub, Array.replicate_succ, Array.replicate_zero, List.push_toArray, List.append_toArray, List.nil_append, List.cons_append]
  gi_wp2_with fail
  refine ⟨trivial, ?_⟩
  refine (callsIn_wide.2 (all_any _ ⟨_, _, _, rfl⟩ _)).mono ?_
  rintro e w2 ⟨rfl, rfl⟩
  gi_wp2_with fail
  obtain ⟨g, hgs, hg⟩ := hq.row
  obtain ⟨W0, hW0⟩ : ∃ W0, W0 = ((((w.alloc (Obj.cells #[Value.slice ao ts.length cap] 71)).alloc (Obj.cells #[Value.int IntKind.i64 pl] 3)).alloc (Obj.cells #[Value.slice none 0 0] 71)).alloc (Obj.cells #[Value.slice none 0 0] 24)).alloc (Obj.cells #[Value.slice ao ts.length cap] 71) := ⟨_, rfl⟩
  rw [← hW0]
  have hBW : Below w.heap.size w W0 := by rw [hW0]; exact (((below3 w _ _ _).alloc (by simp; omega) _).alloc (by simp; omega) _)
  have hsW : W0.heap.size = w.heap.size + 1 + 1 + 1 + 1 + 1 := by rw [hW0]; simp
  have cW : W0.cell? ⟨w.heap.size + 1 + 1 + 1 + 1, 0, none⟩ = some (.slice ao ts.length cap) := by rw [hW0]; simp [go_sem]
  have b0 : W0.cell? ⟨w.heap.size + 1, 0, none⟩ = some (.int .i64 pl) := by rw [hW0]; simp [go_sem]
  have r0 : W0.cell? ⟨w.heap.size + 1 + 1, 0, none⟩ = some (.slice none 0 0) := by rw [hW0]; simp [go_sem]
  have r1 : W0.frozen? ⟨w.heap.size + 1 + 1, 0, none⟩ = false := by rw [hW0]; simp [go_sem]
  have r2 : W0.cell? ⟨w.heap.size + 1 + 1 + 1, 0, none⟩ = some (.slice none 0 0) := by rw [hW0]; simp [go_sem]
  have r3 : W0.frozen? ⟨w.heap.size + 1 + 1 + 1, 0, none⟩ = false := by rw [hW0]; simp [go_sem]
  clear hW0
  have hq0 : ts = [] ∨ ∃ off, ao = some ⟨g, off, none⟩ ∧ g < W0.heap.size ∧ ∀ j, j < ts.length → W0.cell? ⟨g, off + j * 3, none⟩ = some (.int .i64 (t3 ts j).1) ∧ W0.cell? ⟨g, off + j * 3 + 1, none⟩ = some (.int .i64 (t3 ts j).2.1) ∧ W0.cell? ⟨g, off + j * 3 + 2, none⟩ = some (.int .i64 (t3 ts j).2.2) := by
    rcases hg with h | ⟨off, h1, h3, h4⟩
    · exact .inl h
    · exact .inr ⟨off, h1, by omega, fun j hj => ⟨(hBW.cell (p := ⟨g, off + j * 3, none⟩) h3).trans (h4 j hj).1, (hBW.cell (p := ⟨g, off + j * 3 + 1, none⟩) h3).trans (h4 j hj).2.1, (hBW.cell (p := ⟨g, off + j * 3 + 2, none⟩) h3).trans (h4 j hj).2.2⟩⟩
  have hgW : g < W0.heap.size := by omega
  have hinv0 : DInv w.heap.size ts pl g [] W0 := ⟨b0, ⟨r0, r1⟩, ⟨.slice none 0 0, r2, OwnV.nil _ _⟩, r3, hgW⟩
  clear b0 r0 r1 r2 r3 hg
  obtain ⟨i0, hi, hz0, hz1, hz2⟩ := info_parts Try.info28
  refine wpIn_rangeFunc_ownH hro (by omega) (gf := 48) (lb := #[.pointer (some ⟨w.heap.size + 1 + 1 + 1 + 1, 0, none⟩)]) rfl trivial (enters_of Try.func48 (by kernel_rfl) rfl)
    (all_stops Fence.wide (4 - 1) trivial hro (by omega) (w.heap.size + 1 + 1 + 1 + 1) g ao cap ts (by omega) W0 (by omega) cW hq0) SameB.trans (sameB_put hgW) (Below.refl _ _) (fun _ => rfl)
    (fun pre W => (pre.length ≤ ts.length ∧ DInv w.heap.size ts pl g pre W) ∧ Below w.heap.size w W)
    (fun _ _ _ => False)
    (OwnFrom.and (Own.from (fun s A B row hs hg hr => ⟨hs.1, hs.2.kept hg hr⟩) _) (ownFrom_below (Nat.le_refl _) (by omega)))
    (fun _ _ _ _ _ hs _ _ => hs)
    ⟨⟨by simp, hinv0⟩, hBW⟩
    (fun x a' W => ∃ p, w.heap.size + 1 + 1 + 1 < p ∧ Item p (t3 ts x) W ∧ a' = { tmps := #[Value.agg #[Value.slice ao ts.length cap], Value.int .i64 pl, Value.pointer (some ⟨w.heap.size, 0, none⟩), Value.pointer (some ⟨w.heap.size + 1, 0, none⟩), Value.pointer (some ⟨w.heap.size + 1 + 1, 0, none⟩), Value.pointer (some ⟨w.heap.size + 1 + 1 + 1, 0, none⟩), Value.int .i64 (x : Int), Value.pointer (some ⟨p, 0, none⟩), Value.agg #[Value.slice ao ts.length cap], Value.func (Fn.func 48) #[] #[Value.pointer (some ⟨w.heap.size + 1 + 1 + 1 + 1, 0, none⟩)], Value.int .i64 (x : Int), tv (t3 ts x), undef, undef, undef, undef, undef, undef, undef, undef, undef], defers := [] })
    (fun x a' s A B row hs hg hr => by obtain ⟨p, h1, h2, h3⟩ := hs; exact ⟨p, h1, h2.kept hg (fun r e => (hr r e).2), h3⟩) ?assign ?body ?done ?stop
  case assign =>
    rintro l pre x W K ⟨⟨hpl, hI⟩, hB⟩ hK
    have hsB : w.heap.size + 1 + 1 + 1 < W.heap.size := by obtain ⟨v, hv, _⟩ := hI.2.2.1; exact World.block_lt_of_cell? _ _ hv
    have hgl : g < W.heap.size := hI.2.2.2.2
    have hI' := hI.kept (grown_alloc W (.cells #[.int .i64 (t3 ts x).1, .int .i64 (t3 ts x).2.1, .int .i64 (t3 ts x).2.2] 28)) (fun r e => by cases e)
    have hK' := hK { tmps := #[Value.agg #[Value.slice ao ts.length cap], Value.int .i64 pl, Value.pointer (some ⟨w.heap.size, 0, none⟩), Value.pointer (some ⟨w.heap.size + 1, 0, none⟩), Value.pointer (some ⟨w.heap.size + 1 + 1, 0, none⟩), Value.pointer (some ⟨w.heap.size + 1 + 1 + 1, 0, none⟩), Value.int .i64 (x : Int), Value.pointer (some ⟨W.heap.size, 0, none⟩), Value.agg #[Value.slice ao ts.length cap], Value.func (Fn.func 48) #[] #[Value.pointer (some ⟨w.heap.size + 1 + 1 + 1 + 1, 0, none⟩)], Value.int .i64 (x : Int), tv (t3 ts x), undef, undef, undef, undef, undef, undef, undef, undef, undef], defers := [] } (W.alloc (.cells #[.int .i64 (t3 ts x).1, .int .i64 (t3 ts x).2.1, .int .i64 (t3 ts x).2.2] 28)) ((KeepsOthers.alloc _ _).from _) (Below.heap_alloc W _ g hgl) ⟨⟨hpl, hI'⟩, hB.alloc hB.size _⟩ ⟨W.heap.size, hsB, ⟨by simp, by simp, by simp⟩, rfl⟩
    have HK : Hid (K { tmps := #[Value.agg #[Value.slice ao ts.length cap], Value.int .i64 pl, Value.pointer (some ⟨w.heap.size, 0, none⟩), Value.pointer (some ⟨w.heap.size + 1, 0, none⟩), Value.pointer (some ⟨w.heap.size + 1 + 1, 0, none⟩), Value.pointer (some ⟨w.heap.size + 1 + 1 + 1, 0, none⟩), Value.int .i64 (x : Int), Value.pointer (some ⟨W.heap.size, 0, none⟩), Value.agg #[Value.slice ao ts.length cap], Value.func (Fn.func 48) #[] #[Value.pointer (some ⟨w.heap.size + 1 + 1 + 1 + 1, 0, none⟩)], Value.int .i64 (x : Int), tv (t3 ts x), undef, undef, undef, undef, undef, undef, undef, undef, undef], defers := [] } (W.alloc (.cells #[.int .i64 (t3 ts x).1, .int .i64 (t3 ts x).2.1, .int .i64 (t3 ts x).2.2] 28))) := hK'
    clear hK hK' hI' hI
    obtain ⟨⟨x1, x2, x3⟩, ex⟩ : ∃ v, v = t3 ts x := ⟨_, rfl⟩
    rw [← ex] at HK ⊢
    clear ex
    simp only [tv] at HK ⊢
    gi_wp2
    exact HK.out
  case body =>
    rintro l pre x a' W _ _ ⟨⟨hpl, hI⟩, hB⟩ ⟨p, hp, hit, rfl⟩ hlen
    have HL : Hid ((pre ++ [x]).length ≤ ts.length) := by simp [Hid]; omega
    have hkl := keepN_len ts pl pre
    have hK1 := keepN_snoc ts pl pre x
    obtain ⟨hb0, ⟨hr0, hr1⟩, ⟨v, hv, hown⟩, hr3, hgW'⟩ := hI
    obtain ⟨go, qc, rfl, _⟩ := hown.fresh
    have hBs := hB.size
    have hsB : w.heap.size + 1 + 1 + 1 < W.heap.size := World.block_lt_of_cell? _ _ hv
    obtain ⟨⟨x1, x2, x3⟩, ex⟩ : ∃ v, v = t3 ts x := ⟨_, rfl⟩
    rw [← ex] at hK1 hit ⊢
    clear ex
    simp only [tv, Item] at hit ⊢
    obtain ⟨hi1, hi2, hi3⟩ := hit
    have HO : Hid (OwnV (w.heap.size + 1 + 1 + 1 + 1) W (.slice go (keepN ts pl pre).length qc) (keepN ts pl pre)) := hown
    have HK1 : Hid (keepN ts pl (pre ++ [x]) = if (x : Int) = pl then keepN ts pl pre else keepN ts pl pre ++ [(x1, x2, x3)]) := hK1
    clear hown hK1
    generalize hF : keepN ts pl pre = F at *
    by_cases hx : (x : Int) = pl
    · have hx' : ((x : Int) != pl) = false := by simpa using hx
      have HE : Hid (keepN ts pl (pre ++ [x]) = F) := by rw [Hid, HK1.out, if_pos hx]
      clear hx hF
      gi_wp2
      exact ⟨KeepsFrom.refl _ _, rfl, ⟨HL.out, hb0, ⟨hr0, hr1⟩, ⟨_, hv, by rw [HE.out]; exact HO.out⟩, hr3, hgW'⟩, hB⟩
    · have hx' : ((x : Int) != pl) = true := by simpa using hx
      have HE : Hid (keepN ts pl (pre ++ [x]) = F ++ [(x1, x2, x3)]) := by rw [Hid, HK1.out, if_neg hx]
      have HX : Hid (w.heap.size + 1 + 1 + 1 + 1 ≤ (W.alloc (.cells #[.int .i64 x1, .int .i64 x2, .int .i64 x3] 28)).heap.size ∧ (∀ j u, ([Value.int .i64 x1, .int .i64 x2, .int .i64 x3] : List Value)[j]? = some u → (W.alloc (.cells #[.int .i64 x1, .int .i64 x2, .int .i64 x3] 28)).cell? ((⟨W.heap.size, 0, none⟩ : Addr).add j) = some u) ∧ ∀ u ∈ ([Value.int .i64 x1, .int .i64 x2, .int .i64 x3] : List Value), u.oneCell' = true) := by
        refine ⟨by simp; omega, fun j u h => ?_, fun u hu => by simp at hu; rcases hu with rfl | rfl | rfl <;> rfl⟩
        match j, h with
        | 0, h => simp at h; subst h; simp [Addr.add]
        | 1, h => simp at h; subst h; simp [Addr.add]
        | 2, h => simp at h; subst h; simp [Addr.add]
      clear hx hF
      gi_wp2_with (gi_at_builtin; refine wpListIn_append_own (W.alloc (.cells #[.int .i64 x1, .int .i64 x2, .int .i64 x3] 28)) rfl (.tmp 15) (.tmp 17) 24 rfl (w.heap.size + 1 + 1 + 1 + 1) 28 i0 (.agg #[.int .i64 0, .int .i64 0, .int .i64 0]) 3 24 Try.underlying24 hi hz0 hz1 hz2 rfl (by decide) (.slice go F.length qc) F.length (tcells F) rfl (HO.out.alloc _) ⟨W.heap.size, 0, none⟩ 1 1 [.int .i64 x1, .int .i64 x2, .int .i64 x3] rfl rfl HX.out.2.1 HX.out.2.2 (by unfold maxLen; omega) (by omega) HX.out.1 ?_; intro v' w1 hown' hgrow _; have hob1 := OwnV.low (xs := F) (HO.out.below (below1 W (.cells #[.int .i64 x1, .int .i64 x2, .int .i64 x3] 28))); have hob2 := own_cells (HO.out.alloc (.cells #[.int .i64 x1, .int .i64 x2, .int .i64 x3] 28)); have hlow : ∀ k, k < w.heap.size + 1 + 1 + 1 + 1 → w1.heap[k]? = W.heap[k]? := (fun k hk => (hgrow.block k (by simp; omega) (fun e => by have := hob1 k e.symm; omega)).trans (Below.heap_alloc _ _ k (by omega))); have l0 : w1.cell? ⟨w.heap.size + 1 + 1 + 1, 0, none⟩ = some (.slice go F.length qc) := (World.cell?_of_block (a := ⟨w.heap.size + 1 + 1 + 1, 0, none⟩) (hlow _ (by simp))).trans hv; have l1 : w1.frozen? ⟨w.heap.size + 1 + 1 + 1, 0, none⟩ = false := (World.frozen?_of_block (a := ⟨w.heap.size + 1 + 1 + 1, 0, none⟩) (hlow _ (by simp))).trans hr3; have HH : Hid (OwnV (w.heap.size + 1 + 1 + 1 + 1) w1 v' (F ++ [(x1, x2, x3)]) ∧ KeepsOthers W w1 ∧ (∀ k, k < w.heap.size + 1 + 1 + 1 + 1 → w1.heap[k]? = W.heap[k]?) ∧ W.heap.size ≤ w1.heap.size ∧ w1.os = W.os ∧ w1.tape = W.tape ∧ w1.output = W.output) := ⟨(by unfold OwnV; rw [tcells_app, List.length_append]; exact hown'), (KeepsOthers.alloc _ _).trans (KeepsOthers.of_grownBy hgrow hob2), hlow, (by have := hgrow.size; simp at this; omega), hgrow.os, hgrow.tape, hgrow.output⟩; obtain ⟨go', qc', rfl, _⟩ := HH.out.1.fresh; clear hown' hgrow hob1 hob2 hlow)
      obtain ⟨ho, hk, hlow, hsz, c1, c2, c3⟩ := HH.out
      have hB1 : Below w.heap.size w w1 := hB.trans ⟨c1, c2, c3, hsz, fun k hk => hlow k (by omega)⟩
      refine ⟨(hk.trans (KeepsOthers.setCell _ _ _)).from _, SameB.trans (hlow g (by omega)) (sameB_set (by simp; omega)), ⟨HL.out, ?_, ⟨?_, ?_⟩, ⟨_, World.cell?_setCell_same' _ _ _ (by rw [l0]; rfl), ?_⟩, by rw [World.frozen?_setCell]; exact l1, by simp; omega⟩, hB1.setCell (p := ⟨w.heap.size + 1 + 1 + 1, 0, none⟩) (by simp; omega) _⟩
      · rw [World.cell?_setCell_other _ _ _ _ (by simp)]; exact (World.cell?_of_block (a := ⟨w.heap.size + 1, 0, none⟩) (hlow (w.heap.size + 1) (by omega))).trans hb0
      · rw [World.cell?_setCell_other _ _ _ _ (by simp)]; exact (World.cell?_of_block (a := ⟨w.heap.size + 1 + 1, 0, none⟩) (hlow (w.heap.size + 1 + 1) (by omega))).trans hr0
      · rw [World.frozen?_setCell]; exact (World.frozen?_of_block (a := ⟨w.heap.size + 1 + 1, 0, none⟩) (hlow (w.heap.size + 1 + 1) (by omega))).trans hr1
      · rw [HE.out]
        have := ownsRow_setCell_below ho (a := ⟨w.heap.size + 1 + 1 + 1, 0, none⟩) (by simp) (.slice go' (F ++ [(x1, x2, x3)]).length qc')
        simpa [OwnV] using this
  case done =>
    rintro D ys W hD rfl ⟨⟨hpl, hI⟩, hB⟩ hK
    obtain ⟨hb0, ⟨hr0, hr1⟩, ⟨v, hv, hown⟩, hr3, hgW'⟩ := hI
    rw [← HR.out] at hown
    obtain ⟨go, qc, rfl, hF, _⟩ := hown.fresh
    have HF : Hid (FreshC (w.heap.size + 1 + 1 + 1 + 1) W.heap.size W go qc R) := hF
    clear hF hown hpl
    gi_wp2
    have hk1 : KeepsOthers W (W.setCell ⟨w.heap.size + 1 + 1, 0, none⟩ (.slice go R.length qc)) := KeepsOthers.setCell _ _ _
    have hK' := hk1.same D _ hK rfl
    have hX0 : (W.setCell ⟨w.heap.size + 1 + 1, 0, none⟩ (.slice go R.length qc)).cell? ⟨w.heap.size + 1 + 1, 0, none⟩ = some (.slice go R.length qc) := World.cell?_setCell_same' _ _ _ (by rw [hr0]; rfl)
    refine ⟨by simp, .inl ⟨_, _, rfl, run_takeDeferred hK', ?_⟩⟩
    have hc5 := cell_kept hX0 (grownBy_putObj' _ D (.deferred none)) (fun r e => by cases e; exact ⟨_, hK', rfl⟩)
    have hF2 := HF.out.setBelow (a := ⟨w.heap.size + 1 + 1, 0, none⟩) (by simp) (.slice go R.length qc)
    refine ⟨.agg #[.slice go R.length qc], ?_, ⟨go, qc, rfl, ?_⟩, (hB.setCell (p := ⟨w.heap.size + 1 + 1, 0, none⟩) (by simp; omega) _).trans (belowK_b (w := W0) (by omega) _ D _ _ hD hK' rfl rfl)⟩
    · simp [results, Try.f39, go_sem, hc5]
    · exact (hF2.kept (grownBy_putObj' _ D (.deferred none)) (fun r e => by cases e; exact ⟨_, hK', rfl⟩)).wide (by omega) (by simp)
  case stop =>
    rintro D c pre W _ _ h _
    exact h.elim
end Go.Proofs.Ytdfmmidokfcjfaa.Old
