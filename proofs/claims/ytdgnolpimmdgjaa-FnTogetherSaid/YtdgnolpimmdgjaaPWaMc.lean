/- Queues without one place: what serves every kind. No conditions but those written. A queue of Need: its iterator, without one place. No conditions but those written. Boxes: blocks of a struct's cells. No conditions but those written. Rooms: sizes, copies, comparisons, marks. No conditions but those written. A room copied. No conditions but those written. Tasks in line: the program's look and the specification's. No conditions but those written. Rooms: the tasks in line, what is free, whether the first one has room. No conditions but those written. -/
import Derived.RangeFuncNested
import Derived.RangeFuncBound
import Derived.RangeFuncCalls
import Derived.RangeFuncLeaves
import Derived.RangeFuncBox
import Derived.Shelf.Abstract
import Derived.Shelf.RegionOpen
import Derived.OwnWalkIn
import Derived.TacticsInMore
import Derived.LoopNIn
import Derived.LoopIn
import Derived.Test.YtdgnolpimmdgjaaPGenCb
namespace Go.Proofs.Ytdgnolpimmdgjaa
section
open Go.RowKit Go.Shelf

/-- The block b lies as it lay. -/
def SameB (b : Nat) (W W' : World) : Prop := W'.heap[b]? = W.heap[b]?
theorem SameB.cell {b : Nat} {W W' : World} (h : SameB b W W') (o : Nat) : W'.cell? ⟨b, o, none⟩ = W.cell? ⟨b, o, none⟩ := World.cell?_of_block (w := W) (a := ⟨b, o, none⟩) h
theorem SameB.trans {b : Nat} {A B C : World} (h : SameB b A B) (k : SameB b B C) : SameB b A C := Eq.trans k h
theorem sameB_put {b : Nat} {w : World} (hb : b < w.heap.size) (W : World) (l : Nat) (o o' : Obj) (hl : w.heap.size ≤ l) (_ : W.heap[l]? = some o) (_ : o.isCells = false) (_ : o.isWalk = false) : SameB b W (W.putObj l o') :=
  World.putObj_heap_other (by omega)
theorem sameB_set {g : Nat} {W : World} {a : Addr} {u : Value} (h : g ≠ a.block) : SameB g W (W.setCell a u) := Below.heap_setCell W a u g h
theorem grown_alloc (W : World) (o : Obj) : W.grownBy (W.alloc o) none := ⟨rfl, rfl, rfl, by simp, fun k hk _ => Below.heap_alloc W o k hk⟩
section
variable {α : Type} [Inhabited α]
/-- Of what came the elements whose place is not pl. -/
def keepE (ts : List α) (pl : Int) (pre : List Nat) : List α := (pre.filter (fun k : Nat => (k : Int) != pl)).map (el ts)
theorem keepE_snoc (ts : List α) (pl : Int) (pre : List Nat) (x : Nat) : keepE ts pl (pre ++ [x]) = if (x : Int) = pl then keepE ts pl pre else keepE ts pl pre ++ [el ts x] := by
  rw [keepE, List.filter_append]
  by_cases e : (x : Int) = pl <;> simp [keepE, e]
theorem keepE_len (ts : List α) (pl : Int) (pre : List Nat) : (keepE ts pl pre).length ≤ pre.length := by
  rw [keepE, List.length_map]; exact List.length_filter_le _ _
theorem keepE_range (ts : List α) (k : Nat) (hk : k < ts.length) : keepE ts (k : Int) (List.range ts.length) = ts.take k ++ ts.drop (k + 1) := by
  obtain ⟨m, hm⟩ : ∃ m, ts.length = k + (1 + m) := ⟨ts.length - k - 1, by omega⟩
  have e1 : (List.range k).filter (fun j : Nat => (j : Int) != (k : Int)) = List.range k := by
    rw [List.filter_eq_self]; intro j hj; have := List.mem_range.1 hj; simp; omega
  have e2 : ((List.range m).map (fun i => k + (1 + i))).filter (fun j : Nat => (j : Int) != (k : Int)) = (List.range m).map (fun i => k + (1 + i)) := by
    rw [List.filter_eq_self]; intro j hj
    obtain ⟨i, _, rfl⟩ := List.mem_map.1 hj
    simp; omega
  rw [hm, List.range_add, List.range_add, keepE]
  simp only [List.map_append, List.map_map, List.filter_append, Function.comp_def]
  rw [e1, e2]
  have e3 : (List.map (fun x => k + x) (List.range 1)).filter (fun j : Nat => (j : Int) != (k : Int)) = [] := by simp [List.range_succ]
  rw [e3, List.map_nil, List.nil_append]
  congr 1
  · apply List.ext_getElem?
    intro i
    by_cases hi : i < k
    · have : i < ts.length := by omega
      simp [hi, this, el]
    · rw [List.getElem?_eq_none (by simp; omega), List.getElem?_eq_none (by simp; omega)]
  · apply List.ext_getElem?
    intro i
    by_cases hi : i < m
    · have h1 : k + (1 + i) < ts.length := by omega
      have h2 : k + 1 + i < ts.length := by omega
      simp only [List.map_map, List.getElem?_map, List.getElem?_drop, List.getElem?_range hi, Option.map_some, Function.comp_def, el]
      rw [show k + 1 + i = k + (1 + i) from by omega]
      simp [h1]
    · rw [List.getElem?_eq_none (by simp; omega), List.getElem?_eq_none (by simp; omega)]
end
theorem owns_kept {w w' : World} {base : Nat} {e : TypeId} {size : Nat} {v : Value} {n : Nat} {xs : List Value} {row : Option Nat} (h : w.ownsRow base e size v n xs) (hg : w.grownBy w' row) (hr : ∀ r, row = some r → ∃ o : Obj, w.heap[r]? = some o ∧ o.isCells = false) : w'.ownsRow base e size v n xs := by
  obtain ⟨h1, h2⟩ := h
  refine ⟨h1, ?_⟩
  rcases h2 with h2 | ⟨g, cap, cur, hv, hb, hh, r⟩
  · exact Or.inl h2
  · refine Or.inr ⟨g, cap, cur, hv, hb, ?_, r⟩
    rw [hg.block g (Array.getElem?_eq_some_iff.1 hh).1 (fun e => ?_)]
    · exact hh
    · obtain ⟨o, ho, hc⟩ := hr g e.symm
      rw [hh] at ho; cases ho; cases hc
theorem Kind.Fresh.kept {α : Type} {K : Kind α} {lo hi : Nat} {W W' : World} {to : Option Addr} {tc : Nat} {ts : List α} {row : Option Nat} (h : K.Fresh lo hi W to tc ts) (hg : W.grownBy W' row) (hr : ∀ r, row = some r → ∃ o : Obj, W.heap[r]? = some o ∧ o.isCells = false) : K.Fresh lo hi W' to tc ts := by
  rcases h with h | ⟨g, e, hl, ho⟩
  · exact .inl h
  · exact .inr ⟨g, e, hl, owns_kept ho hg hr⟩
theorem own_cells {lo ty sz : Nat} {W : World} {v : Value} {n : Nat} {xs : List Value} (h : W.ownsRow lo ty sz v n xs) : ∀ (j : Nat) (o : Obj), v.ownBlock = some j → W.heap[j]? = some o → o.isCells = true := by
  rcases h.2 with ⟨e, _⟩ | ⟨g, cap, cur, e, hb, hh, _⟩
  · subst e
    exact fun j o h => by simp [Value.ownBlock] at h
  · subst e
    refine fun j o h ho => ?_
    simp [Value.ownBlock] at h
    subst h
    rw [hh] at ho; cases ho; rfl
end
section
open Go.RowKit Go.Shelf

attribute [local go_sem] Oper.semAt_some

/-- An element's value. -/
def tvN (t : Int × Int) : Value := .agg #[.int .i64 t.1, .int .i64 t.2]
set_option maxRecDepth 100000 in
set_option maxHeartbeats 2000000 in
theorem all1N_in (F : Fence) (n : Nat) (hAll : F.fn 63) (hro : F.round = none) (hn : 1 ≤ n) (l Bs b off len cap : Nat) (ts : List (Int × Int)) (hreach : len ≤ 1048576) (J Jx : List Nat → World → Prop) (W : World) (hJ : AbidesFrom W.heap.size J)
    (hY : ∀ (pre : List Nat) (x : Nat) (W : World), J pre W → pre.length < len → YieldAt F (n - 1) Try.prog l #[.int .i64 (x : Int), tvN (el ts x)] W fun e W' =>
      (e = .returned (.bool true) ∧ J (pre ++ [x]) W' ∧ SameB b W W') ∨ (e = .returned (.bool false) ∧ Jx (pre ++ [x]) W'))
    (hBs : W.cell? ⟨Bs, 0, none⟩ = some (.slice (some ⟨b, off, none⟩) len cap)) (hc : ∀ j, j < len → W.cell? ⟨b, off + j * 2, none⟩ = some (.int .i64 (el ts j).1) ∧ W.cell? ⟨b, off + j * 2 + 1, none⟩ = some (.int .i64 (el ts j).2)) (h0 : J [] W) :
    CallsIn F n Try.prog 63 #[.func (.yield l) #[] #[], .pointer (some ⟨Bs, 0, none⟩)] W fun e W' => (∃ v, e = .returned v) ∧
      ((∃ ys, ys = List.range len ∧ J ys W') ∨ (∃ pre, (∃ k, k ≤ len ∧ pre = List.range k) ∧ Jx pre W')) := by
  refine callsIn_of_wp Try.func63 rfl hAll ?_ hro
  simp only [Try.ntmps63, List.size_toArray, List.length_cons, List.length_nil, Nat.reduceAdd, Nat.reduceSub, Array.replicate_succ, Array.replicate_zero, List.push_toArray, List.append_toArray, List.nil_append, List.cons_append]
  gi_wp2
  gi_loopw [8] (fun i wr => ∃ k : Nat, k ≤ len ∧ i = .int .i64 k ∧ J (List.range k) wr ∧ Hid (SameB b W wr))
    (fun i _ => len - (intOf i).toNat)
  case atStart => exact ⟨0, Nat.zero_le _, rfl, h0, rfl⟩
  case round =>
    obtain ⟨k, hk, rfl, hJs, hnx⟩ := hrel
    by_cases hlt : k < len
    · obtain ⟨c1, c2⟩ := hc k hlt
      have d1 := (hnx.out.cell (off + k * 2)).trans c1
      have d2 := (hnx.out.cell (off + k * 2 + 1)).trans c2
      obtain ⟨x1, e1⟩ : ∃ x, x = (el ts k).1 := ⟨_, rfl⟩
      obtain ⟨x2, e2⟩ : ∃ x, x = (el ts k).2 := ⟨_, rfl⟩
      have hbl : b < wr.heap.size := World.block_lt_of_cell? _ _ d1
      have hJa := hJ _ wr _ none hJs (grown_alloc wr (.cells #[.int .i64 x1, .int .i64 x2] 68)) (fun r e => by cases e)
      obtain ⟨fn, tmps, assign, body, hy, hR⟩ := hY _ k _ hJa (by rw [List.length_range]; exact hlt)
      simp only [tvN, ← e1, ← e2] at hy
      rw [← e1] at d1
      rw [← e2] at d2
      clear c1 c2 hc e1 e2
      gi_wp2
      refine hR.mono ?_
      rintro e W3 (⟨rfl, hJ3, hk3⟩ | ⟨rfl, hJx3⟩)
      · have hk4 : SameB b wr W3 := SameB.trans (Below.heap_alloc wr _ b hbl) hk3
        gi_wp2
        go_roundw
        case rel => exact ⟨k + 1, by omega, by simp, by rw [List.range_succ]; exact hJ3, hnx.out.trans hk4⟩
        case measure => simp [intOf]; omega
      · gi_wp2
        refine bodyPost_ret (results_none rfl _ _ _) rfl ?_
        exact ⟨⟨_, rfl⟩, .inr ⟨_, ⟨k + 1, by omega, List.range_succ.symm⟩, hJx3⟩⟩
    · obtain rfl : k = len := by omega
      gi_wp2
      go_end0
      exact ⟨⟨_, rfl⟩, .inl ⟨_, rfl, hJs⟩⟩
set_option maxRecDepth 100000 in
set_option maxHeartbeats 1000000 in
theorem all1N_nil_in (F : Fence) (n : Nat) (hAll : F.fn 63) (hro : F.round = none) (l Bs : Nat) (ao : Option Addr) (cap : Nat) (J : List Nat → World → Prop) (W : World) (hBs : W.cell? ⟨Bs, 0, none⟩ = some (.slice ao 0 cap)) (h0 : J [] W) :
    CallsIn F n Try.prog 63 #[.func (.yield l) #[] #[], .pointer (some ⟨Bs, 0, none⟩)] W fun e W' => (∃ v, e = .returned v) ∧ J [] W' := by
  refine callsIn_of_wp Try.func63 rfl hAll ?_ hro
  simp only [Try.ntmps63, List.size_toArray, List.length_cons, List.length_nil, Nat.reduceAdd, Nat.reduceSub, Array.replicate_succ, Array.replicate_zero, List.push_toArray, List.append_toArray, List.nil_append, List.cons_append]
  gi_wp2
  gi_loopw [8] (fun i wr => i = .int .i64 0 ∧ J [] wr) (fun _ _ => 0)
  case atStart => exact ⟨rfl, h0⟩
  case round =>
    obtain ⟨rfl, hJs⟩ := hrel
    gi_wp2
    go_end0
    exact ⟨⟨_, rfl⟩, hJs⟩
/-- The queue's iterator hands out (0, ts[0]), (1, ts[1]), ..: all, or the first k of them. -/
theorem allN_stops (F : Fence) (n : Nat) (hAll : F.fn 63) (hro : F.round = none) (hn : 1 ≤ n) (Bs b : Nat) (ao : Option Addr) (cap : Nat) (ts : List (Int × Int)) (hreach : ts.length ≤ 1048576) (w : World) (hBs : Bs < w.heap.size)
    (hc : w.cell? ⟨Bs, 0, none⟩ = some (.slice ao ts.length cap)) (hI : ts = [] ∨ ∃ off, ao = some ⟨b, off, none⟩ ∧ b < w.heap.size ∧ ∀ j, j < ts.length → w.cell? ⟨b, off + j * 2, none⟩ = some (.int .i64 (el ts j).1) ∧ w.cell? ⟨b, off + j * 2 + 1, none⟩ = some (.int .i64 (el ts j).2)) :
    SeqStopsK F n Try.prog 63 #[.pointer (some ⟨Bs, 0, none⟩)] (fun x : Nat => #[Value.int .i64 (x : Int), tvN (el ts x)]) (SameB b) (fun ys => ys = List.range ts.length)
      (fun pre => ∃ k, k ≤ ts.length ∧ pre = List.range k) ts.length w := fun l J Jx W hW hJ _ hY h0 => by
  have hc' := (hW.cell (p := ⟨Bs, 0, none⟩) hBs).trans hc
  rcases hI with rfl | ⟨off, rfl, hb, hcs⟩
  · exact (all1N_nil_in F n hAll hro l Bs ao cap J W hc' h0).mono fun e W' ⟨he, hj⟩ => ⟨he, .inl ⟨_, rfl, hj⟩⟩
  · exact all1N_in F n hAll hro hn l Bs b off ts.length cap ts hreach J Jx W hJ hY hc' (fun j hj => ⟨(hW.cell (p := ⟨b, off + j * 2, none⟩) hb).trans (hcs j hj).1, (hW.cell (p := ⟨b, off + j * 2 + 1, none⟩) hb).trans (hcs j hj).2⟩) h0
set_option maxHeartbeats 1000000 in
theorem allN_any (v : Value) (hv : ∃ a n c, v = .slice a n c) (w : World) :
    Calls Try.prog 62 #[.agg #[v]] w fun e w' => e = .returned (.func (.func 63) #[] #[.pointer (some ⟨w.heap.size, 0, none⟩)]) ∧ w' = w.alloc (.cells #[v] 92) := by
  obtain ⟨a, n, c, rfl⟩ := hv
  go_enter Try.func62, Try.ntmps62
  go_wp2
  go_ret
  exact ⟨rfl, rfl⟩
/-- Between two rounds: the box holds a row of its own with what is kept. -/
def DInvN (B : Nat) (ts : List (Int × Int)) (pl : Int) (g : Nat) (pre : List Nat) (W : World) : Prop :=
  W.cell? ⟨B + 1, 0, none⟩ = some (.int .i64 pl) ∧ (W.cell? ⟨B + 1 + 1, 0, none⟩ = some (.slice none 0 0) ∧ W.frozen? ⟨B + 1 + 1, 0, none⟩ = false) ∧ (∃ v, W.cell? ⟨B + 1 + 1 + 1, 0, none⟩ = some v ∧ kN.Own (B + 1 + 1 + 1 + 1) W v (keepE ts pl pre)) ∧ W.frozen? ⟨B + 1 + 1 + 1, 0, none⟩ = false ∧ g < W.heap.size
theorem DInvN.kept {B : Nat} {ts : List (Int × Int)} {pl : Int} {g : Nat} {pre : List Nat} {W W' : World} {row : Option Nat} (h : DInvN B ts pl g pre W) (hg : W.grownBy W' row) (hr : ∀ r, row = some r → ∃ o : Obj, W.heap[r]? = some o ∧ o.isCells = false) : DInvN B ts pl g pre W' := by
  obtain ⟨h2, ⟨h3, h4⟩, ⟨v, h5, h6⟩, h7, h8⟩ := h
  exact ⟨cell_kept h2 hg hr, ⟨cell_kept h3 hg hr, (frozen_kept h3 hg hr).trans h4⟩, ⟨v, cell_kept h5 hg hr, owns_kept h6 hg hr⟩, (frozen_kept h5 hg hr).trans h7, Nat.lt_of_lt_of_le h8 hg.size⟩
/-- A round's own variables: the item lies in a block of its own. -/
def ItemN (p : Nat) (t : Int × Int) (W : World) : Prop := W.cell? ⟨p, 0, none⟩ = some (.int .i64 t.1) ∧ W.cell? ⟨p, 1, none⟩ = some (.int .i64 t.2)
theorem ItemN.kept {p : Nat} {t : Int × Int} {W W' : World} {row : Option Nat} (h : ItemN p t W) (hg : W.grownBy W' row) (hr : ∀ r, row = some r → ∃ o : Obj, W.heap[r]? = some o ∧ o.isCells = false) : ItemN p t W' :=
  ⟨cell_kept h.1 hg hr, cell_kept h.2 hg hr⟩
set_option maxRecDepth 100000 in
set_option maxHeartbeats 4000000 in
theorem withoutN_any (ao : Option Addr) (cap : Nat) (ts : List (Int × Int)) (pl : Int) (w : World) (hm : ts.length ≤ 1048576) (hq : kN.In w.heap.size w ao ts) (R : List (Int × Int)) (hR : R = keepE ts pl (List.range ts.length)) :
    Calls Try.prog 54 #[.agg #[.slice ao ts.length cap], .int .i64 pl] w fun e w' => (∃ go qc, e = .returned (.agg #[.slice go R.length qc]) ∧ kN.Fresh w.heap.size w'.heap.size w' go qc R) ∧ Below w.heap.size w w' := by
  have HR : Hid (R = keepE ts pl (List.range ts.length)) := hR
  clear hR
  refine (callsIn_wide (n := 4)).1 ?_
  have hro : Fence.wide.round = none := rfl
  refine callsIn_of_wp_marks Try.func54 rfl trivial ?_ hro
  simp only [Try.ntmps54, List.size_toArray, List.length_cons, List.length_nil, Nat.reduceAdd, Nat.reduceSub, Array.replicate_succ, Array.replicate_zero, List.push_toArray, List.append_toArray, List.nil_append, List.cons_append]
  gi_wp2_with fail
  refine ⟨trivial, ?_⟩
  refine (callsIn_wide.2 (allN_any _ ⟨_, _, _, rfl⟩ _)).mono ?_
  rintro e w2 ⟨rfl, rfl⟩
  gi_wp2_with fail
  obtain ⟨g, hgs, hg⟩ : ∃ g, g ≤ w.heap.size ∧ (ts = [] ∨ ∃ off, ao = some ⟨g, off, none⟩ ∧ g < w.heap.size ∧ ∀ j, j < ts.length → w.cell? ⟨g, off + j * 2, none⟩ = some (.int .i64 (el ts j).1) ∧ w.cell? ⟨g, off + j * 2 + 1, none⟩ = some (.int .i64 (el ts j).2)) := by
    rcases Nat.eq_zero_or_pos ts.length with h | h
    · exact ⟨0, Nat.zero_le _, .inl (List.length_eq_zero_iff.1 h)⟩
    · obtain ⟨b, off, e, hb, hc⟩ := kN_at hq h
      exact ⟨b, Nat.le_of_lt hb, .inr ⟨off, e, hb, hc⟩⟩
  obtain ⟨W0, hW0⟩ : ∃ W0, W0 = ((((w.alloc (Obj.cells #[Value.slice ao ts.length cap] 92)).alloc (Obj.cells #[Value.int IntKind.i64 pl] 3)).alloc (Obj.cells #[Value.slice none 0 0] 92)).alloc (Obj.cells #[Value.slice none 0 0] 32)).alloc (Obj.cells #[Value.slice ao ts.length cap] 92) := ⟨_, rfl⟩
  rw [← hW0]
  have hBW : Below w.heap.size w W0 := by rw [hW0]; exact (((below3 w _ _ _).alloc (by simp; omega) _).alloc (by simp; omega) _)
  have hsW : W0.heap.size = w.heap.size + 1 + 1 + 1 + 1 + 1 := by rw [hW0]; simp
  have cW : W0.cell? ⟨w.heap.size + 1 + 1 + 1 + 1, 0, none⟩ = some (.slice ao ts.length cap) := by rw [hW0]; simp [go_sem]
  have b0 : W0.cell? ⟨w.heap.size + 1, 0, none⟩ = some (.int .i64 pl) := by rw [hW0]; simp [go_sem]
  have r0 : W0.cell? ⟨w.heap.size + 1 + 1, 0, none⟩ = some (.slice none 0 0) := by rw [hW0]; simp [go_sem]
  have r1 : W0.frozen? ⟨w.heap.size + 1 + 1, 0, none⟩ = false := by rw [hW0]; simp [go_sem]
  have r2 : W0.cell? ⟨w.heap.size + 1 + 1 + 1, 0, none⟩ = some (.slice none 0 0) := by rw [hW0]; simp [go_sem]
  have r3 : W0.frozen? ⟨w.heap.size + 1 + 1 + 1, 0, none⟩ = false := by rw [hW0]; simp [go_sem]
  clear hW0
  have hq0 : ts = [] ∨ ∃ off, ao = some ⟨g, off, none⟩ ∧ g < W0.heap.size ∧ ∀ j, j < ts.length → W0.cell? ⟨g, off + j * 2, none⟩ = some (.int .i64 (el ts j).1) ∧ W0.cell? ⟨g, off + j * 2 + 1, none⟩ = some (.int .i64 (el ts j).2) := by
    rcases hg with h | ⟨off, h1, h3, h4⟩
    · exact .inl h
    · exact .inr ⟨off, h1, by omega, fun j hj => ⟨(hBW.cell (p := ⟨g, off + j * 2, none⟩) h3).trans (h4 j hj).1, (hBW.cell (p := ⟨g, off + j * 2 + 1, none⟩) h3).trans (h4 j hj).2⟩⟩
  have hgW : g < W0.heap.size := by omega
  have hinv0 : DInvN w.heap.size ts pl g [] W0 := ⟨b0, ⟨r0, r1⟩, ⟨.slice none 0 0, r2, Kind.Own.nil _ _ _⟩, r3, hgW⟩
  clear b0 r0 r1 r2 r3 hg
  obtain ⟨i0, hi, hz0, hz1, hz2⟩ := info_parts Try.info68
  refine wpIn_rangeFunc_ownH hro (by omega) (gf := 63) (lb := #[.pointer (some ⟨w.heap.size + 1 + 1 + 1 + 1, 0, none⟩)]) rfl trivial (enters_of Try.func63 (by kernel_rfl) rfl)
    (allN_stops Fence.wide (4 - 1) trivial hro (by omega) (w.heap.size + 1 + 1 + 1 + 1) g ao cap ts (by omega) W0 (by omega) cW hq0) SameB.trans (sameB_put hgW) (Below.refl _ _) (fun _ => rfl)
    (fun pre W => (pre.length ≤ ts.length ∧ DInvN w.heap.size ts pl g pre W) ∧ Below w.heap.size w W)
    (fun _ _ _ => False)
    (OwnFrom.and (Own.from (fun s A B row hs hg hr => ⟨hs.1, hs.2.kept hg hr⟩) _) (ownFrom_below (Nat.le_refl _) (by omega)))
    (fun _ _ _ _ _ hs _ _ => hs)
    ⟨⟨by simp, hinv0⟩, hBW⟩
    (fun x a' W => ∃ p, w.heap.size + 1 + 1 + 1 < p ∧ ItemN p (el ts x) W ∧ a' = { tmps := #[Value.agg #[Value.slice ao ts.length cap], Value.int .i64 pl, Value.pointer (some ⟨w.heap.size, 0, none⟩), Value.pointer (some ⟨w.heap.size + 1, 0, none⟩), Value.pointer (some ⟨w.heap.size + 1 + 1, 0, none⟩), Value.pointer (some ⟨w.heap.size + 1 + 1 + 1, 0, none⟩), Value.int .i64 (x : Int), Value.pointer (some ⟨p, 0, none⟩), Value.agg #[Value.slice ao ts.length cap], Value.func (Fn.func 63) #[] #[Value.pointer (some ⟨w.heap.size + 1 + 1 + 1 + 1, 0, none⟩)], Value.int .i64 (x : Int), tvN (el ts x), undef, undef, undef, undef, undef, undef, undef, undef, undef], defers := [] })
    (fun x a' s A B row hs hg hr => by obtain ⟨p, h1, h2, h3⟩ := hs; exact ⟨p, h1, h2.kept hg (fun r e => (hr r e).2), h3⟩) ?assign ?body ?done ?stop
  case assign =>
    rintro l pre x W K ⟨⟨hpl, hI⟩, hB⟩ hK
    have hsB : w.heap.size + 1 + 1 + 1 < W.heap.size := by obtain ⟨v, hv, _⟩ := hI.2.2.1; exact World.block_lt_of_cell? _ _ hv
    have hgl : g < W.heap.size := hI.2.2.2.2
    have hI' := hI.kept (grown_alloc W (.cells #[.int .i64 (el ts x).1, .int .i64 (el ts x).2] 68)) (fun r e => by cases e)
    have hK' := hK { tmps := #[Value.agg #[Value.slice ao ts.length cap], Value.int .i64 pl, Value.pointer (some ⟨w.heap.size, 0, none⟩), Value.pointer (some ⟨w.heap.size + 1, 0, none⟩), Value.pointer (some ⟨w.heap.size + 1 + 1, 0, none⟩), Value.pointer (some ⟨w.heap.size + 1 + 1 + 1, 0, none⟩), Value.int .i64 (x : Int), Value.pointer (some ⟨W.heap.size, 0, none⟩), Value.agg #[Value.slice ao ts.length cap], Value.func (Fn.func 63) #[] #[Value.pointer (some ⟨w.heap.size + 1 + 1 + 1 + 1, 0, none⟩)], Value.int .i64 (x : Int), tvN (el ts x), undef, undef, undef, undef, undef, undef, undef, undef, undef], defers := [] } (W.alloc (.cells #[.int .i64 (el ts x).1, .int .i64 (el ts x).2] 68)) ((KeepsOthers.alloc _ _).from _) (Below.heap_alloc W _ g hgl) ⟨⟨hpl, hI'⟩, hB.alloc hB.size _⟩ ⟨W.heap.size, hsB, ⟨by simp, by simp⟩, rfl⟩
    have HK : Hid (K { tmps := #[Value.agg #[Value.slice ao ts.length cap], Value.int .i64 pl, Value.pointer (some ⟨w.heap.size, 0, none⟩), Value.pointer (some ⟨w.heap.size + 1, 0, none⟩), Value.pointer (some ⟨w.heap.size + 1 + 1, 0, none⟩), Value.pointer (some ⟨w.heap.size + 1 + 1 + 1, 0, none⟩), Value.int .i64 (x : Int), Value.pointer (some ⟨W.heap.size, 0, none⟩), Value.agg #[Value.slice ao ts.length cap], Value.func (Fn.func 63) #[] #[Value.pointer (some ⟨w.heap.size + 1 + 1 + 1 + 1, 0, none⟩)], Value.int .i64 (x : Int), tvN (el ts x), undef, undef, undef, undef, undef, undef, undef, undef, undef], defers := [] } (W.alloc (.cells #[.int .i64 (el ts x).1, .int .i64 (el ts x).2] 68))) := hK'
    clear hK hK' hI' hI
    obtain ⟨⟨x1, x2⟩, ex⟩ : ∃ v, v = el ts x := ⟨_, rfl⟩
    rw [← ex] at HK ⊢
    clear ex
    simp only [tvN] at HK ⊢
    gi_wp2
    exact HK.out
  case body =>
    rintro l pre x a' W _ _ ⟨⟨hpl, hI⟩, hB⟩ ⟨p, hp, hit, rfl⟩ hlen
    have HL : Hid ((pre ++ [x]).length ≤ ts.length) := by simp [Hid]; omega
    have hkl := keepE_len ts pl pre
    have hK1 := keepE_snoc ts pl pre x
    obtain ⟨hb0, ⟨hr0, hr1⟩, ⟨v, hv, hown⟩, hr3, hgW'⟩ := hI
    obtain ⟨go, qc, rfl, _⟩ := hown.fresh
    have hBs := hB.size
    have hsB : w.heap.size + 1 + 1 + 1 < W.heap.size := World.block_lt_of_cell? _ _ hv
    obtain ⟨⟨x1, x2⟩, ex⟩ : ∃ v, v = el ts x := ⟨_, rfl⟩
    rw [← ex] at hK1 hit ⊢
    clear ex
    simp only [tvN, ItemN] at hit ⊢
    obtain ⟨hi1, hi2⟩ := hit
    have HO : Hid (kN.Own (w.heap.size + 1 + 1 + 1 + 1) W (.slice go (keepE ts pl pre).length qc) (keepE ts pl pre)) := hown
    have HK1 : Hid (keepE ts pl (pre ++ [x]) = if (x : Int) = pl then keepE ts pl pre else keepE ts pl pre ++ [(x1, x2)]) := hK1
    clear hown hK1
    generalize hF : keepE ts pl pre = F at *
    by_cases hx : (x : Int) = pl
    · have hx' : ((x : Int) != pl) = false := by simpa using hx
      have HE : Hid (keepE ts pl (pre ++ [x]) = F) := by rw [Hid, HK1.out, if_pos hx]
      clear hx hF
      gi_wp2
      exact ⟨KeepsFrom.refl _ _, rfl, ⟨HL.out, hb0, ⟨hr0, hr1⟩, ⟨_, hv, by rw [HE.out]; exact HO.out⟩, hr3, hgW'⟩, hB⟩
    · have hx' : ((x : Int) != pl) = true := by simpa using hx
      have HE : Hid (keepE ts pl (pre ++ [x]) = F ++ [(x1, x2)]) := by rw [Hid, HK1.out, if_neg hx]
      have HX : Hid (w.heap.size + 1 + 1 + 1 + 1 ≤ (W.alloc (.cells #[.int .i64 x1, .int .i64 x2] 68)).heap.size ∧ (∀ j u, ([.int .i64 x1, .int .i64 x2] : List Value)[j]? = some u → (W.alloc (.cells #[.int .i64 x1, .int .i64 x2] 68)).cell? ((⟨W.heap.size, 0, none⟩ : Addr).add j) = some u) ∧ ∀ u ∈ ([.int .i64 x1, .int .i64 x2] : List Value), u.oneCell' = true) := by
        refine ⟨by simp; omega, fun j u h => ?_, fun u hu => by simp at hu; rcases hu with rfl | rfl <;> rfl⟩
        match j, h with
        | 0, h => simp at h; subst h; simp [Addr.add]
        | 1, h => simp at h; subst h; simp [Addr.add]
      clear hx hF
      gi_wp2_with (gi_at_builtin; refine wpListIn_append_own (W.alloc (.cells #[.int .i64 x1, .int .i64 x2] 68)) rfl (.tmp 15) (.tmp 17) 32 rfl (w.heap.size + 1 + 1 + 1 + 1) 68 i0 (.agg #[.int .i64 0, .int .i64 0]) 2 16 Try.underlying32 hi hz0 hz1 hz2 rfl (by decide) (.slice go F.length qc) F.length (kN.flat F) rfl (HO.out.below (below1 _ _)) ⟨W.heap.size, 0, none⟩ 1 1 [.int .i64 x1, .int .i64 x2] rfl rfl HX.out.2.1 HX.out.2.2 (by unfold maxLen; omega) (by omega) HX.out.1 ?_; intro v' w1 hown' hgrow _; have hob1 := Kind.Own.low (xs := F) (HO.out.below (below1 W (.cells #[.int .i64 x1, .int .i64 x2] 68))); have hob2 := own_cells (HO.out.below (below1 W (.cells #[.int .i64 x1, .int .i64 x2] 68))); have hlow : ∀ k, k < w.heap.size + 1 + 1 + 1 + 1 → w1.heap[k]? = W.heap[k]? := (fun k hk => (hgrow.block k (by simp; omega) (fun e => by have := hob1 k e.symm; omega)).trans (Below.heap_alloc _ _ k (by omega))); have l0 : w1.cell? ⟨w.heap.size + 1 + 1 + 1, 0, none⟩ = some (.slice go F.length qc) := (World.cell?_of_block (a := ⟨w.heap.size + 1 + 1 + 1, 0, none⟩) (hlow _ (by simp))).trans hv; have l1 : w1.frozen? ⟨w.heap.size + 1 + 1 + 1, 0, none⟩ = false := (World.frozen?_of_block (a := ⟨w.heap.size + 1 + 1 + 1, 0, none⟩) (hlow _ (by simp))).trans hr3; have HH : Hid (kN.Own (w.heap.size + 1 + 1 + 1 + 1) w1 v' (F ++ [(x1, x2)]) ∧ KeepsOthers W w1 ∧ (∀ k, k < w.heap.size + 1 + 1 + 1 + 1 → w1.heap[k]? = W.heap[k]?) ∧ W.heap.size ≤ w1.heap.size ∧ w1.os = W.os ∧ w1.tape = W.tape ∧ w1.output = W.output) := ⟨(by unfold Kind.Own; rw [Kind.flat_app, List.length_append]; exact hown'), (KeepsOthers.alloc _ _).trans (KeepsOthers.of_grownBy hgrow hob2), hlow, (by have := hgrow.size; simp at this; omega), hgrow.os, hgrow.tape, hgrow.output⟩; obtain ⟨go', qc', rfl, _⟩ := HH.out.1.fresh; clear hown' hgrow hob1 hob2 hlow)
      obtain ⟨ho, hk, hlow, hsz, c1, c2, c3⟩ := HH.out
      have hB1 : Below w.heap.size w w1 := hB.trans ⟨c1, c2, c3, hsz, fun k hk => hlow k (by omega)⟩
      refine ⟨(hk.trans (KeepsOthers.setCell _ _ _)).from _, SameB.trans (hlow g (by omega)) (sameB_set (by simp; omega)), ⟨HL.out, ?_, ⟨?_, ?_⟩, ⟨_, World.cell?_setCell_same' _ _ _ (by rw [l0]; rfl), ?_⟩, by rw [World.frozen?_setCell]; exact l1, by simp; omega⟩, hB1.setCell (p := ⟨w.heap.size + 1 + 1 + 1, 0, none⟩) (by simp; omega) _⟩
      · rw [World.cell?_setCell_other _ _ _ _ (by simp)]; exact (World.cell?_of_block (a := ⟨w.heap.size + 1, 0, none⟩) (hlow (w.heap.size + 1) (by omega))).trans hb0
      · rw [World.cell?_setCell_other _ _ _ _ (by simp)]; exact (World.cell?_of_block (a := ⟨w.heap.size + 1 + 1, 0, none⟩) (hlow (w.heap.size + 1 + 1) (by omega))).trans hr0
      · rw [World.frozen?_setCell]; exact (World.frozen?_of_block (a := ⟨w.heap.size + 1 + 1, 0, none⟩) (hlow (w.heap.size + 1 + 1) (by omega))).trans hr1
      · rw [HE.out]
        have h := ho.setBelow (a := ⟨w.heap.size + 1 + 1 + 1, 0, none⟩) (by simp) (.slice go' (F ++ [(x1, x2)]).length qc')
        simpa using h
  case done =>
    rintro D ys W hD rfl ⟨⟨hpl, hI⟩, hB⟩ hK
    obtain ⟨hb0, ⟨hr0, hr1⟩, ⟨v, hv, hown⟩, hr3, hgW'⟩ := hI
    rw [← HR.out] at hown
    obtain ⟨go, qc, rfl, _, hF⟩ := hown.fresh
    have HF : Hid (kN.Fresh (w.heap.size + 1 + 1 + 1 + 1) W.heap.size W go qc R) := hF
    clear hF hown hpl
    gi_wp2
    have hk1 : KeepsOthers W (W.setCell ⟨w.heap.size + 1 + 1, 0, none⟩ (.slice go R.length qc)) := KeepsOthers.setCell _ _ _
    have hK' := hk1.same D _ hK rfl
    have hX0 : (W.setCell ⟨w.heap.size + 1 + 1, 0, none⟩ (.slice go R.length qc)).cell? ⟨w.heap.size + 1 + 1, 0, none⟩ = some (.slice go R.length qc) := World.cell?_setCell_same' _ _ _ (by rw [hr0]; rfl)
    refine ⟨by simp, .inl ⟨_, _, rfl, run_takeDeferred hK', ?_⟩⟩
    have hc5 := cell_kept hX0 (grownBy_putObj' _ D (.deferred none)) (fun r e => by cases e; exact ⟨_, hK', rfl⟩)
    have hF2 := HF.out.setBelow (a := ⟨w.heap.size + 1 + 1, 0, none⟩) (by simp) (.slice go R.length qc)
    refine ⟨.agg #[.slice go R.length qc], ?_, ⟨go, qc, rfl, ?_⟩, (hB.setCell (p := ⟨w.heap.size + 1 + 1, 0, none⟩) (by simp; omega) _).trans (belowK_b (w := W0) (by omega) _ D _ _ hD hK' rfl rfl)⟩
    · simp [results, Try.f54, go_sem, hc5]
    · exact (hF2.kept (grownBy_putObj' _ D (.deferred none)) (fun r e => by cases e; exact ⟨_, hK', rfl⟩)).wide (by omega) (by simp)
  case stop =>
    rintro D c pre W _ _ h _
    exact h.elim
end
section
open Go.RowKit

theorem hid {p : Prop} (h : p) : Hid p := h
/-- At p lies a block with the cells us, that may be written. -/
def Bx (W : World) (p : Nat) (us : List Value) : Prop := p < W.heap.size ∧ ∀ i v, us[i]? = some v → W.cell? ⟨p, i, none⟩ = some v ∧ W.frozen? ⟨p, i, none⟩ = false
theorem Bx.new {w : World} {p : Nat} (us : List Value) (t : TypeId) (hp : w.heap.size = p) : Bx (w.alloc (.cells us.toArray t)) p us := by
  subst hp
  refine ⟨by simp, fun i v h => ⟨?_, by simp [go_sem]⟩⟩
  rw [World.cell?_alloc_at (hn := rfl)]
  simpa using h
theorem Bx.c {W : World} {p : Nat} {us : List Value} (h : Bx W p us) (i : Nat) {v : Value} (e : us[i]? = some v) : W.cell? ⟨p, i, none⟩ = some v := (h.2 i v e).1
theorem Bx.f {W : World} {p : Nat} {us : List Value} (h : Bx W p us) (i : Nat) {v : Value} (e : us[i]? = some v) : W.frozen? ⟨p, i, none⟩ = false := (h.2 i v e).2
theorem Bx.keep {W W' : World} {p : Nat} {us : List Value} (h : Bx W p us) (hs : W.heap.size ≤ W'.heap.size) (hb : W'.heap[p]? = W.heap[p]?) : Bx W' p us :=
  ⟨Nat.lt_of_lt_of_le h.1 hs, fun i v e => ⟨(World.cell?_of_block (a := ⟨p, i, none⟩) hb).trans (h.2 i v e).1, (World.frozen?_of_block (a := ⟨p, i, none⟩) hb).trans (h.2 i v e).2⟩⟩
theorem Bx.later {W W' : World} {p : Nat} {us : List Value} (h : Bx W p us) (hb : Below W.heap.size W W') : Bx W' p us := h.keep hb.size (hb.block p h.1)
theorem Bx.below {n : Nat} {W W' : World} {p : Nat} {us : List Value} (h : Bx W p us) (hb : Below n W W') (hp : p < n) : Bx W' p us := h.keep hb.size (hb.block p hp)
theorem Bx.between {lo hi : Nat} {W W' : World} {p : Nat} {us : List Value} (h : Bx W p us) (hb : Between lo hi W W') (hp : p < lo ∨ hi ≤ p) : Bx W' p us := h.keep hb.size (hb.block p h.1 hp)
theorem Bx.only {ao : Option Addr} {W W' : World} {p : Nat} {us : List Value} (h : Bx W p us) (hb : OnlyAt ao W W') (hp : ∀ g, ao = some ⟨g, 0, none⟩ → p ≠ g) : Bx W' p us := h.keep (by rw [hb.size]; exact Nat.le_refl _) (hb.block p hp)
theorem Bx.alloc {W : World} {p : Nat} {us : List Value} (h : Bx W p us) (o : Obj) : Bx (W.alloc o) p us := h.later (below1 W o)
theorem Bx.drew {W : World} {p : Nat} {us : List Value} (h : Bx W p us) : Bx W.drew p us := h
theorem Bx.other {W : World} {p : Nat} {us : List Value} (h : Bx W p us) {a : Addr} (ha : a.block ≠ p) (u : Value) : Bx (W.setCell a u) p us :=
  h.keep (by simp [World.setCell]) (Below.heap_setCell W a u p (fun e => ha e.symm))
theorem Bx.set {W : World} {p : Nat} {us : List Value} (h : Bx W p us) (i : Nat) (u : Value) : Bx (W.setCell ⟨p, i, none⟩ u) p (us.set i u) := by
  refine ⟨by simpa using h.1, fun j v e => ?_⟩
  rw [List.getElem?_set] at e
  rw [World.frozen?_setCell]
  split at e
  · rename_i hij
    subst hij
    split at e
    · rename_i hlt
      cases e
      have hq : us[i]? = some us[i] := by simp [hlt]
      exact ⟨World.cell?_setCell_same' _ _ _ (by rw [h.c i hq]; rfl), h.f i hq⟩
    · cases e
  · rename_i hij
    exact ⟨by rw [World.cell?_setCell_other _ _ _ _ (by simp)]; exact h.c j e, h.f j e⟩
theorem Bx.size {W : World} {p : Nat} {us : List Value} (h : Bx W p us) : p < W.heap.size := h.1
end
section
open Go.RowKit
end
section
open Go.RowKit

set_option maxRecDepth 10000 in
set_option maxHeartbeats 4000000 in
theorem copyRoom_any (s1 s2 : Int) (ao : Option Addr) (cap : Nat) (ts : List (Int × Int)) (w : World) (hl : ts.length ≤ 1048576) (hz : kN.In w.heap.size w ao ts) :
    Calls Try.prog 28 #[.agg #[.int .i64 s1, .int .i64 s2, .slice ao ts.length cap]] w fun e w' => (∃ go1, e = .returned (.agg #[.int .i64 s1, .int .i64 s2, .slice go1 ts.length ts.length]) ∧ kN.Fresh w.heap.size w'.heap.size w' go1 ts.length ts) ∧ Below w.heap.size w w' := by
  obtain ⟨W2, hW2⟩ : ∃ W2, W2 = (w.alloc (.cells #[.int .i64 s1, .int .i64 s2, .slice ao ts.length cap] 34)).alloc (.cells #[.int .i64 0, .int .i64 0, .slice none 0 0] 34) := ⟨_, rfl⟩
  have hB2 : Below w.heap.size w W2 := by rw [hW2]; exact below2 _ _ _
  have A2 : Bx W2 w.heap.size [.int .i64 s1, .int .i64 s2, .slice ao ts.length cap] := by rw [hW2]; exact (Bx.new [.int .i64 s1, .int .i64 s2, .slice ao ts.length cap] _ rfl).alloc _
  have R2 : Bx W2 (w.heap.size + 1) [.int .i64 0, .int .i64 0, .slice none 0 0] := by rw [hW2]; exact Bx.new [.int .i64 0, .int .i64 0, .slice none 0 0] _ (by simp)
  have HW : Hid (W2 = (w.alloc (.cells #[.int .i64 s1, .int .i64 s2, .slice ao ts.length cap] 34)).alloc (.cells #[.int .i64 0, .int .i64 0, .slice none 0 0] 34)) := hW2
  have HS : Hid (W2.heap.size = w.heap.size + 1 + 1) := by rw [hW2]; simp [Hid]
  have hsl : w.heap.size < W2.heap.size := A2.size
  clear hW2
  have a0 := A2.c 0 rfl
  have a1 := A2.c 1 rfl
  have a2 := A2.c 2 rfl
  go_enter Try.func28, Try.ntmps28
  go_wp2
  rw [← HW.out]
  go_region_held3 (fun Y => Y.cell? ⟨w.heap.size, 0, none⟩ = some (.int .i64 s1) ∧ Y.cell? ⟨w.heap.size, 1, none⟩ = some (.int .i64 s2) ∧ Y.cell? ⟨w.heap.size, 2, none⟩ = some (.slice ao ts.length cap))
    (first | ((refine ⟨?_, ?_, ?_⟩ <;> (rw [World.cell?_setCell_other _ _ _ _ (by simp), World.cell?_setCell_other _ _ _ _ (by simp), World.cell?_setCell_other _ _ _ _ (by simp)])); exact P1.1; exact P1.2.1; exact P1.2.2) | exact ⟨a0, a1, a2⟩ | exact P1)
    (first
      | (go_at_call 52; refine (copyListN_any ao cap ts _ hl (by exact hz.later hB2.drew)).mono ?_; rintro e w1 ⟨⟨go1, rfl, hF1⟩, hb1⟩; have hB3 : Below w.heap.size w w1 := hB2.drew.trans (hb1.mono hB2.size); have A3 := A2.drew.later hb1; have R3 := R2.drew.later hb1; have P1 := (⟨A3.c 0 rfl, A3.c 1 rfl, A3.c 2 rfl⟩ : w1.cell? ⟨w.heap.size, 0, none⟩ = some (.int .i64 s1) ∧ w1.cell? ⟨w.heap.size, 1, none⟩ = some (.int .i64 s2) ∧ w1.cell? ⟨w.heap.size, 2, none⟩ = some (.slice ao ts.length cap)); have r0 := R3.c 0 rfl; have f0 := R3.f 0 rfl; have r1 := R3.c 1 rfl; have f1 := R3.f 1 rfl; have r2 := R3.c 2 rfl; have f2 := R3.f 2 rfl; have F3 : Hid (kN.Fresh W2.heap.size w1.heap.size w1 go1 ts.length ts) := hF1; clear hF1 hb1))
  all_goals
    go_wp2
    refine bodyPost_ret (v := .agg #[.int .i64 s1, .int .i64 s2, .slice go1 ts.length ts.length]) (by simp [results, Try.results28, go_sem, r0, r1, r2]) rfl ⟨⟨go1, rfl, ?_⟩, ?_⟩
    · have h0 := F3.out
      rw [HS.out] at h0
      exact (((h0.setBelow (a := ⟨w.heap.size + 1, 0, none⟩) (by simp) _).setBelow (a := ⟨w.heap.size + 1, 1, none⟩) (by simp) _).setBelow (a := ⟨w.heap.size + 1, 2, none⟩) (by simp) _).wide (by omega) (by simp)
    · exact (((hB3.setCell (p := ⟨w.heap.size + 1, 0, none⟩) (by simp) _).setCell (p := ⟨w.heap.size + 1, 1, none⟩) (by simp) _).setCell (p := ⟨w.heap.size + 1, 2, none⟩) (by simp) _)
end
section
open Go.RowKit

/-- Those in line are tasks, none of them twice. -/
def lineB (q : List Int) : Bool := decide (q.length ≤ 30) && (q.all taskB && decide q.Nodup)
theorem lineB_long {q : List Int} (h : 30 < q.length) : lineB q = false := by
  have : decide (q.length ≤ 30) = false := by simp; omega
  simp [lineB, this]
theorem lineB_task {q : List Int} (k : Nat) (hk : k < q.length) (h : taskB (el q k) = false) : lineB q = false := by
  have : q.all taskB = false := by
    rw [List.all_eq_false]; exact ⟨el q k, el_mem hk, by simp [h]⟩
  simp [lineB, this]
theorem nodup_take {q : List Int} {k : Nat} (hk : k < q.length) (h : q.Nodup) : el q k ∉ q.take k := by
  have h1 : (q.take (k + 1)).Nodup := h.sublist (List.take_sublist _ _)
  rw [take_succ_el hk] at h1
  intro hm
  exact (List.nodup_append.1 h1).2.2 _ hm _ (by simp) rfl
theorem lineB_twice {q : List Int} (k : Nat) (hk : k < q.length) (h : el q k ∈ q.take k) : lineB q = false := by
  have : decide q.Nodup = false := by simp; exact fun hn => nodup_take hk hn h
  simp [lineB, this]
theorem nodup_succ {q : List Int} {k : Nat} (hk : k < q.length) (h : (q.take k).Nodup) (hn : el q k ∉ q.take k) : (q.take (k + 1)).Nodup := by
  rw [take_succ_el hk]
  exact List.nodup_append.2 ⟨h, by simp, fun a ha b hb e => by simp at hb; subst hb; subst e; exact hn ha⟩
theorem lineB_end {q : List Int} (h : q.length ≤ 30) (hk : ∀ j, j < q.length → taskB (el q j) = true) (hn : (q.take q.length).Nodup) : lineB q = true := by
  have h1 : q.all taskB = true := by
    rw [List.all_eq_true]; intro x hx
    obtain ⟨j, hj, rfl⟩ := mem_el hx
    exact hk j hj
  rw [List.take_length] at hn
  simp [lineB, h, h1, hn]
theorem lineB_len {q : List Int} (h : lineB q = true) : q.length ≤ 30 := by
  simp [lineB] at h; exact h.1

theorem l1Has_of (n₀ : Nat) (ao : Option Addr) (len cap : Nat) (zs : List Int) (n : Int) (w : World) (b : Bool) (hlen : zs.length = len) (hl : zs.length ≤ 1048576) (hz : kI.In n₀ w ao zs) (hb : hasB zs n = b) :
    Calls Try.prog 60 #[.slice ao len cap, .int .i64 n] w fun e w' => e = .returned (.bool b) ∧ w' = w := by
  subst hlen; exact l1Has_is n₀ ao cap zs n w b hl hz hb

set_option maxHeartbeats 2000000 in
theorem l5Tasks_is (n₀ : Nat) (ao : Option Addr) (cap : Nat) (q : List Int) (w : World) (x : Bool) (hl : q.length ≤ 1048576) (hc : q.length ≤ cap) (hz : kI.In n₀ w ao q) (hx : lineB q = x) :
    Calls Try.prog 49 #[.slice ao q.length cap] w fun e w' => e = .returned (.bool x) ∧ w' = w := by
  by_cases h30 : 30 < q.length
  · have HX : Hid (x = false) := by rw [Hid, ← hx, lineB_long h30]
    clear hx
    go_enter Try.func49, Try.ntmps49
    go_wp2
    go_ret
    exact ⟨ret_bool HX.out.symm, rfl⟩
  have h30' : decide ((30 : Int) < (q.length : Int)) = false := by simp; omega
  have HX : Hid (lineB q = x) := hx
  clear hx
  go_enter Try.func49, Try.ntmps49
  go_wp2
  go_loop [10] (fun i => ∃ k : Nat, k ≤ q.length ∧ i = .int .i64 k ∧ Hid ((∀ j, j < k → taskB (el q j) = true) ∧ (q.take k).Nodup)) (fun i => q.length - (intOf i).toNat)
  case atStart => exact ⟨0, Nat.zero_le _, rfl, fun j hj => by omega, by simp⟩
  case round =>
    obtain ⟨k, hk, rfl, hno⟩ := hrel
    by_cases hlt : k < q.length
    · have HZ : Hid (kI.In n₀ w ao q) := hz
      obtain ⟨b, off, rfl, hb, hcs⟩ := ints_at hz hlt
      have hck := hcs k hlt
      clear hcs hz
      obtain ⟨y, ey⟩ : ∃ x, x = el q k := ⟨_, rfl⟩
      rw [← ey] at hck
      have HY : Hid (y = el q k) := ey
      clear ey
      cases hp : taskB y
      · have HP : Hid (taskB y = false) := hp
        have HF : Hid (x = false) := by rw [Hid, ← HX.out]; exact lineB_task k hlt (by rw [← HY.out]; exact HP.out)
        clear hp
        go_wp2_with fail
        refine (l3Task_is y _ false HP.out).mono ?_
        rintro e w1 ⟨rfl, rfl⟩
        go_wp2
        go_ret
        exact ⟨ret_bool HF.out.symm, rfl⟩
      · have HP : Hid (taskB y = true) := hp
        clear hp
        cases hm : hasB (q.take k) y
        · have HM : Hid (hasB (q.take k) y = false) := hm
          clear hm
          go_wp2_with fail
          refine (l3Task_is y _ true HP.out).mono ?_
          rintro e w1 ⟨rfl, rfl⟩
          go_wp2_with fail
          refine (l1Has_of n₀ _ k cap (q.take k) y _ false (by simp; omega) (by simp; omega) (HZ.out.take k) HM.out).mono ?_
          rintro e w1 ⟨rfl, rfl⟩
          go_wp2
          go_round
          case rel => exact ⟨k + 1, by omega, by go_num, fun j hj => by
            rcases Nat.lt_succ_iff_lt_or_eq.1 hj with h | rfl
            · exact hno.out.1 j h
            · rw [← HY.out]; exact HP.out, nodup_succ hlt hno.out.2 (by rw [← HY.out]; simpa [hasB] using HM.out)⟩
          case measure => simp [intOf]; omega
        · have HM : Hid (hasB (q.take k) y = true) := hm
          have HF : Hid (x = false) := by rw [Hid, ← HX.out]; exact lineB_twice k hlt (by rw [← HY.out]; simpa [hasB] using HM.out)
          clear hm
          go_wp2_with fail
          refine (l3Task_is y _ true HP.out).mono ?_
          rintro e w1 ⟨rfl, rfl⟩
          go_wp2_with fail
          refine (l1Has_of n₀ _ k cap (q.take k) y _ true (by simp; omega) (by simp; omega) (HZ.out.take k) HM.out).mono ?_
          rintro e w1 ⟨rfl, rfl⟩
          go_wp2
          go_ret
          exact ⟨ret_bool HF.out.symm, rfl⟩
    · obtain rfl : k = q.length := by omega
      have HT : Hid (x = true) := by rw [Hid, ← HX.out]; exact lineB_end (by omega) hno.out.1 hno.out.2
      go_wp2
      go_ret
      exact ⟨ret_bool HT.out.symm, rfl⟩

/-- The marks at p are those of l. -/
def Seen (W : World) (p : Nat) (l : List Int) : Prop := p < W.heap.size ∧ ∀ i : Nat, i < 30 → W.cell? ⟨p, i, none⟩ = some (.bool (decide ((i : Int) ∈ l))) ∧ W.frozen? ⟨p, i, none⟩ = false
theorem Seen.new (w : World) (t : TypeId) : Seen (w.alloc (.cells #[.bool false, .bool false, .bool false, .bool false, .bool false, .bool false, .bool false, .bool false, .bool false, .bool false, .bool false, .bool false, .bool false, .bool false, .bool false, .bool false, .bool false, .bool false, .bool false, .bool false, .bool false, .bool false, .bool false, .bool false, .bool false, .bool false, .bool false, .bool false, .bool false, .bool false] t)) w.heap.size [] := by
  refine ⟨by simp, fun i hi => ⟨?_, by simp [go_sem]⟩⟩
  rw [World.cell?_alloc_at (hn := rfl)]
  show (Array.replicate 30 (Value.bool false))[i]? = _
  simp [hi]
theorem Seen.mark {W : World} {p : Nat} {l : List Int} (h : Seen W p l) {i : Nat} (hi : i < 30) : Seen (W.setCell ⟨p, i, none⟩ (.bool true)) p (l ++ [(i : Int)]) := by
  refine ⟨by simpa using h.1, fun j hj => ⟨?_, by rw [World.frozen?_setCell]; exact (h.2 j hj).2⟩⟩
  by_cases e : j = i
  · subst e
    rw [World.cell?_setCell_same' _ _ _ (by rw [(h.2 j hj).1]; rfl)]
    simp
  · rw [World.cell?_setCell_other _ _ _ _ (by simp), (h.2 j hj).1]
    have : ((j : Int) ∈ l ++ [(i : Int)]) ↔ ((j : Int) ∈ l) := by
      rw [List.mem_append]
      constructor
      · rintro (h | h)
        · exact h
        · simp at h; omega
      · exact Or.inl
    simp only [this]

set_option maxRecDepth 10000 in
set_option maxHeartbeats 2000000 in
theorem goodLine_is (ao : Option Addr) (cap : Nat) (q : List Int) (w : World) (x : Bool) (hl : q.length ≤ 1048576) (hz : kI.In w.heap.size w ao q) (hx : lineB q = x) :
    Calls Try.prog 26 #[.slice ao q.length cap] w fun e w' => e = .returned (.bool x) ∧ Below w.heap.size w w' := by
  by_cases h30 : 30 < q.length
  · have HX : Hid (x = false) := by rw [Hid, ← hx, lineB_long h30]
    clear hx
    go_enter Try.func26, Try.ntmps26
    go_wp2
    go_ret
    exact ⟨ret_bool HX.out.symm, Below.refl _ _⟩
  have h30' : decide ((30 : Int) < (q.length : Int)) = false := by simp; omega
  have HX : Hid (lineB q = x) := hx
  clear hx
  go_enter Try.func26, Try.ntmps26
  go_wp2
  go_loopw [11] (fun i wr => ∃ k : Nat, k ≤ q.length ∧ i = .int .i64 k ∧ Hid ((∀ j, j < k → taskB (el q j) = true) ∧ (q.take k).Nodup) ∧ Hid (Seen wr w.heap.size (q.take k)) ∧ Below w.heap.size w wr) (fun i _ => q.length - (intOf i).toNat)
  case atStart => exact ⟨0, Nat.zero_le _, rfl, ⟨fun j hj => by omega, by simp⟩, Seen.new w 88, below1 _ _⟩
  case round =>
    obtain ⟨k, hk, rfl, hno, hS, hB⟩ := hrel
    by_cases hlt : k < q.length
    · obtain ⟨b, off, rfl, hb, hcs⟩ := ints_at hz hlt
      have hck := (hB.cell (p := ⟨b, off + k, none⟩) hb).trans (hcs k hlt)
      clear hcs hz
      obtain ⟨y, ey⟩ : ∃ x, x = el q k := ⟨_, rfl⟩
      rw [← ey] at hck
      have HY : Hid (y = el q k) := ey
      clear ey
      cases hp : taskB y
      · have HP : Hid (taskB y = false) := hp
        have HF : Hid (x = false) := by rw [Hid, ← HX.out]; exact lineB_task k hlt (by rw [← HY.out]; exact HP.out)
        clear hp
        go_wp2_with fail
        refine (isTask_is y _ false HP.out).mono ?_
        rintro e w1 ⟨rfl, rfl⟩
        go_wp2
        go_ret
        exact ⟨ret_bool HF.out.symm, hB⟩
      · have HP : Hid (taskB y = true) := hp
        have hp' := hp
        simp only [taskB, Bool.and_eq_true, decide_eq_true_eq] at hp'
        obtain ⟨i, rfl⟩ : ∃ i : Nat, y = i := ⟨y.toNat, by omega⟩
        have hi : i < 30 := by omega
        have hse := hS.out.2 i hi
        clear hp hp'
        by_cases hm : (i : Int) ∈ q.take k
        · have HF : Hid (x = false) := by rw [Hid, ← HX.out]; exact lineB_twice k hlt (by rw [← HY.out]; exact hm)
          have hc1 : wr.cell? ⟨w.heap.size, i, none⟩ = some (.bool true) := by rw [hse.1]; simp only [hm, decide_true]
          clear hm hse
          go_wp2_with fail
          refine (isTask_is _ _ true HP.out).mono ?_
          rintro e w1 ⟨rfl, rfl⟩
          go_wp2
          go_ret
          exact ⟨ret_bool HF.out.symm, hB⟩
        · have HM : Hid ((i : Int) ∉ q.take k) := hm
          have hc1 : wr.cell? ⟨w.heap.size, i, none⟩ = some (.bool false) := by rw [hse.1]; simp only [hm, decide_false]
          have hf1 := hse.2
          clear hm hse
          go_wp2_with fail
          refine (isTask_is _ _ true HP.out).mono ?_
          rintro e w1 ⟨rfl, rfl⟩
          go_wp2
          go_roundw
          case rel => exact ⟨k + 1, by omega, by go_num, ⟨fun j hj => by
            rcases Nat.lt_succ_iff_lt_or_eq.1 hj with h | rfl
            · exact hno.out.1 j h
            · rw [← HY.out]; exact HP.out, nodup_succ hlt hno.out.2 (by rw [← HY.out]; exact HM.out)⟩, by rw [Hid, take_succ_el hlt, ← HY.out]; exact hS.out.mark hi, hB.setCell (Nat.le_refl _) _⟩
          case measure => simp [intOf]; omega
    · obtain rfl : k = q.length := by omega
      have HT : Hid (x = true) := by rw [Hid, ← HX.out]; exact lineB_end (by omega) hno.out.1 hno.out.2
      go_wp2
      go_ret
      exact ⟨ret_bool HT.out.symm, hB⟩
end
section
open Go.RowKit

/-- The tasks of those that wait. -/
def tasksOf (l : List (Int × Int)) : List Int := l.map Prod.fst
theorem tasksOf_len (l : List (Int × Int)) : (tasksOf l).length = l.length := by simp [tasksOf]
theorem tasksOf_succ {l : List (Int × Int)} {k : Nat} (h : k < l.length) : tasksOf (l.take (k + 1)) = tasksOf (l.take k) ++ [(el l k).1] := by
  rw [take_succ_el h]; simp [tasksOf]
set_option maxHeartbeats 2000000 in
theorem tasksIn_any (ao : Option Addr) (cap : Nat) (l : List (Int × Int)) (w : World) (hl : l.length ≤ 1048576) (hz : kN.In w.heap.size w ao l) :
    Calls Try.prog 33 #[.slice ao l.length cap] w fun e w' => (∃ v, e = .returned v ∧ kI.Own w.heap.size w' v (tasksOf l)) ∧ Below w.heap.size w w' := by
  go_enter Try.func33, Try.ntmps33
  go_wp2
  go_loopw [3, 8] (fun u i wr => ∃ (k : Nat) (v : Value), v = u ∧ k ≤ l.length ∧ i = .int .i64 k ∧ Hid (kI.Own w.heap.size wr v (tasksOf (l.take k))) ∧ Below w.heap.size w wr) (fun _ i _ => l.length - (intOf i).toNat)
  case atStart => exact ⟨0, _, rfl, Nat.zero_le _, rfl, Kind.Own.nil _ _ _, Below.refl _ _⟩
  case round =>
    obtain ⟨k, v, rfl, hk, rfl, hO, hB⟩ := hrel
    have hsz := hB.size
    by_cases hlt : k < l.length
    · obtain ⟨b, off, rfl, hb, hc⟩ := kN_at hz hlt
      have d1 := (hB.cell (p := ⟨b, off + k * 2, none⟩) hb).trans (hc k hlt).1
      have d2 := (hB.cell (p := ⟨b, off + k * 2 + 1, none⟩) hb).trans (hc k hlt).2
      obtain ⟨⟨y1, y2⟩, ey⟩ : ∃ v, v = el l k := ⟨_, rfl⟩
      rw [← ey] at d1 d2
      have HY : Hid (el l k = (y1, y2)) := ey.symm
      clear ey hc
      dsimp only at d1 d2
      have HA : Hid (kI.Own w.heap.size ((wr.alloc (.cells #[.int .i64 y1, .int .i64 y2] 68)).alloc (.cells #[.int .i64 y1] 3)) v (tasksOf (l.take k))) := (hO.out.below (below1 _ _)).below (below1 _ _)
      have HN : Hid (kI.In (wr.heap.size + 1 + 1) ((wr.alloc (.cells #[.int .i64 y1, .int .i64 y2] 68)).alloc (.cells #[.int .i64 y1] 3)) (some ⟨wr.heap.size + 1, 0, none⟩) [y1]) := int_one (by omega) (by simp)
      have hll : (tasksOf (l.take k)).length + 1 ≤ 4194304 := by rw [tasksOf_len]; simp; omega
      have hBa : Below w.heap.size w ((wr.alloc (.cells #[.int .i64 y1, .int .i64 y2] 68)).alloc (.cells #[.int .i64 y1] 3)) := Below.allocS (Below.allocS hB _) _
      go_wp2_with (at_builtin; refine Kind.app kI_ok ((wr.alloc (.cells #[.int .i64 y1, .int .i64 y2] 68)).alloc (.cells #[.int .i64 y1] 3)) rfl (.tmp 12) (.tmp 15) rfl w.heap.size v (tasksOf (l.take k)) rfl HA.out hBa.size (some ⟨wr.heap.size + 1, 0, none⟩) [y1] 1 1 rfl rfl (by simp) _ HN.out hll ?_; intro v' w' hO' hB' hG' hn'; have hB2 : Below w.heap.size w w' := hBa.trans hB'; have HO' : Hid (kI.Own w.heap.size w' v' (tasksOf (l.take (k + 1)))) := (by rw [Hid, tasksOf_succ hlt, HY.out]; exact hO'); clear hO' hB' hG' hn')
      go_roundw
      case rel => exact ⟨k + 1, v', rfl, by omega, by go_num, HO', hB2⟩
      case measure => simp [intOf]; omega
    · obtain rfl : k = l.length := by omega
      go_wp2
      go_ret
      exact ⟨⟨_, rfl, by have := hO.out; rwa [List.take_length] at this⟩, hB⟩

set_option maxHeartbeats 400000 in
theorem freeIn_any (s1 s2 : Int) (ao : Option Addr) (n cap : Nat) (w : World) (h1 : 0 ≤ s1 ∧ s1 ≤ 1000) (h2 : -1000000 ≤ s2 ∧ s2 ≤ 1000000) :
    Calls Try.prog 55 #[.agg #[.int .i64 s1, .int .i64 s2, .slice ao n cap]] w fun e w' => e = .returned (.int .i64 (s1 - s2)) ∧ Below w.heap.size w w' := by
  go_enter Try.func55, Try.ntmps55
  go_wp2
  go_ret
  exact ⟨rfl, below1 _ _⟩
/-- The first one waiting has room. -/
def firstB (s1 s2 : Int) (l : List (Int × Int)) : Bool := decide (0 < l.length) && decide ((el l 0).2 ≤ s1 - s2)
set_option maxRecDepth 10000 in
set_option maxHeartbeats 2000000 in
theorem firstHas_is (s1 s2 : Int) (ao : Option Addr) (cap : Nat) (l : List (Int × Int)) (w : World) (x : Bool) (hl : l.length ≤ 1048576) (h1 : 0 ≤ s1 ∧ s1 ≤ 1000) (h2 : -1000000 ≤ s2 ∧ s2 ≤ 1000000) (hz : kN.In w.heap.size w ao l) (hx : firstB s1 s2 l = x) :
    Calls Try.prog 34 #[.agg #[.int .i64 s1, .int .i64 s2, .slice ao l.length cap]] w fun e w' => e = .returned (.bool x) ∧ Below w.heap.size w w' := by
  by_cases h0 : l.length = 0
  · obtain ⟨z1, z2, z3⟩ := len0 h0
    have HV : Hid (x = false) := by rw [Hid, ← hx]; simp [firstB, h0]
    subst z3
    clear hx h0 z1
    go_enter Try.func34, Try.ntmps34
    go_wp2
    go_quiet (fail)
    go_wp2
    go_ret
    exact ⟨ret_bool HV.out.symm, below_draws (below1 _ _) _⟩
  · obtain ⟨z1, z2⟩ := len1 h0
    have hpos : 0 < l.length := by omega
    obtain ⟨b, off, rfl, hb, hc⟩ := kN_at hz hpos
    have c1 := (hc 0 hpos).2
    rw [Nat.zero_mul, Nat.add_zero] at c1
    obtain ⟨m, em⟩ : ∃ m, m = (el l 0).2 := ⟨_, rfl⟩
    rw [← em] at c1
    have HX : Hid (decide (m ≤ s1 - s2) = x) := by rw [Hid, ← hx, em]; simp [firstB, hpos]
    clear hx em hc hz
    obtain ⟨W2, hW2⟩ : ∃ W2, W2 = w.alloc (.cells #[.int .i64 s1, .int .i64 s2, .slice (some ⟨b, off, none⟩) l.length cap] 34) := ⟨_, rfl⟩
    have hB2 : Below w.heap.size w W2 := by rw [hW2]; exact below1 _ _
    have A2 : Bx W2 w.heap.size [.int .i64 s1, .int .i64 s2, .slice (some ⟨b, off, none⟩) l.length cap] := by rw [hW2]; exact Bx.new _ _ rfl
    have HW : Hid (W2 = w.alloc (.cells #[.int .i64 s1, .int .i64 s2, .slice (some ⟨b, off, none⟩) l.length cap] 34)) := hW2
    have d1 : W2.cell? ⟨b, off + 1, none⟩ = some (.int .i64 m) := (hB2.cell (p := ⟨b, off + 1, none⟩) hb).trans c1
    clear hW2
    have a0 := A2.c 0 rfl
    have a1 := A2.c 1 rfl
    have a2 := A2.c 2 rfl
    go_enter Try.func34, Try.ntmps34
    go_wp2
    rw [← HW.out]
    go_region_held3 (fun Y => Y.cell? ⟨w.heap.size, 0, none⟩ = some (.int .i64 s1) ∧ Y.cell? ⟨w.heap.size, 1, none⟩ = some (.int .i64 s2) ∧ Y.cell? ⟨w.heap.size, 2, none⟩ = some (.slice (some ⟨b, off, none⟩) l.length cap) ∧ Y.cell? ⟨b, off + 1, none⟩ = some (.int .i64 m))
      (first | (with_reducible exact ⟨a0, a1, a2, d1⟩) | (with_reducible exact P1) | exact ⟨a0, a1, a2, d1⟩)
      (first
        | (go_at_call 55; refine (freeIn_any s1 s2 _ _ _ _ h1 h2).mono ?_; rintro e w1 ⟨rfl, hb1⟩; have hB3 : Below w.heap.size w w1 := hB2.drew.trans (hb1.mono hB2.size); have A3 := A2.drew.later hb1; have P1 := (⟨A3.c 0 rfl, A3.c 1 rfl, A3.c 2 rfl, (hB3.cell (p := ⟨b, off + 1, none⟩) hb).trans c1⟩ : w1.cell? ⟨w.heap.size, 0, none⟩ = some (.int .i64 s1) ∧ w1.cell? ⟨w.heap.size, 1, none⟩ = some (.int .i64 s2) ∧ w1.cell? ⟨w.heap.size, 2, none⟩ = some (.slice (some ⟨b, off, none⟩) l.length cap) ∧ w1.cell? ⟨b, off + 1, none⟩ = some (.int .i64 m)); clear hb1))
    all_goals
      go_wp2
      go_ret
      exact ⟨ret_bool HX.out, hB3⟩
end
end Go.Proofs.Ytdgnolpimmdgjaa
