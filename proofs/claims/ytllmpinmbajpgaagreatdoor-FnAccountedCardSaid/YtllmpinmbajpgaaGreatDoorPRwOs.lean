
/- The five tests over a graph; the numbers of its nodes. No conditions but those written. Queues without one place: what serves every kind. No conditions but those written. A queue of ints: its iterator, without one place. No conditions but those written. The order of a graph: the program. No conditions but those written. The order of a graph: the program's loop. No conditions but those written. -/
import Derived.Test.YtllmpinmbajpgaaGreatDoorPXrRu
import Derived.RangeFuncNested
import Derived.RangeFuncBound
import Derived.RangeFuncCalls
import Derived.RangeFuncLeaves
import Derived.RangeFuncBox
import Derived.Shelf.Abstract
import Derived.Shelf.RegionOpen
import Derived.OwnWalkIn
import Derived.TacticsInMore
import Derived.LoopNIn
import Derived.LoopIn
import Derived.Test.YtllmpinmbajpgaaGreatDoorPGenFq
namespace Go.Proofs.YtllmpinmbajpgaaGreatDoor
section
open Go.RowKit

/-- A graph that lies in memory: its nodes, and a box that holds it. -/
structure GrIn (W : World) (p : Nat) (ao : Option Addr) (cap : Nat) (ts : List LNode) : Prop where
 box : Bx W p [.slice ao ts.length cap]
 rows : DIn dNode W.heap.size W ao ts
theorem GrIn.later {W W' : World} {p : Nat} {ao : Option Addr} {cap : Nat} {ts : List LNode} (h : GrIn W p ao cap ts) (hb : Below W.heap.size W W') : GrIn W' p ao cap ts := ⟨h.box.later hb, h.rows.later dNode_ok hb⟩
/-- Rows whose room holds them. -/
def CapN (ts : List LNode) : Prop := ∀ a ∈ ts, a.2.2.2.2.2.2.2.length ≤ a.2.2.2.2.2.2.1
theorem el_val {ts : List LNode} {k : Nat} (hk : k < ts.length) : el (ts.map valNode) k = valNode (el ts k) := by simp [el, hk]
set_option maxRecDepth 10000 in
set_option maxHeartbeats 4000000 in
theorem rule1_is (p : Nat) (ao : Option Addr) (cap : Nat) (ts : List LNode) (k : Nat) (w : World) (hk : k < ts.length) (_hl : ts.length ≤ 1048576) (hF : FitN ts) (hG : GrIn w p ao cap ts) :
  Calls Tryz.prog 112 #[.int .i64 (k : Int), .pointer (some ⟨p, 0, none⟩)] w fun e w' => e = .returned (.bool (!nameB (el (ts.map valNode) k).1)) ∧ Below w.heap.size w w' := by
 have HG := hid hG;have hki : (k : Int) < (ts.length : Int) := by omega
 clear hG;obtain ⟨b, off, rfl, hb, hc⟩ := hNode_at HG.out.rows.1 hk;have d1 := (hc k hk).1;have d2 := (hc k hk).2.1;have d3 := (hc k hk).2.2.1;have d4 := (hc k hk).2.2.2.1;have d5 := (hc k hk).2.2.2.2.1;have d6 := (hc k hk).2.2.2.2.2;have hfk := hF _ (el_mem hk);have hev := el_val hk;have hin := HG.out.rows.2 k hk;obtain ⟨⟨nm, kd, sa, sb, cp, ⟨nxo, nxc, nx⟩⟩, ex⟩ : ∃ v, v = el ts k := ⟨_, rfl⟩;rw [← ex] at d1 d2 d3 d4 d5 d6 hfk hev hin;have HE : Hid (el (ts.map valNode) k = (nm, kd, sa, sb, cp, nx)) := hev;have c0 := HG.out.box.c 0 rfl;clear hc hev;dsimp only at d1 d2 d3 d4 d5 d6 hfk;have E1 : Hid ((!nameB (el (ts.map valNode) k).1) = !nameB nm) := by rw [Hid, HE.out]
 go_enter Tryz.func112, Tryz.ntmps112;go_wp2_with fail;refine (isName_is nm w (by omega)).mono ?_;rintro e w1 ⟨rfl, hb1⟩;go_wp2;go_ret;exact ⟨ret_bool E1.out.symm, hb1⟩
set_option maxRecDepth 10000 in
set_option maxHeartbeats 4000000 in
theorem rule3_is (p : Nat) (ao : Option Addr) (cap : Nat) (ts : List LNode) (k : Nat) (w : World) (hk : k < ts.length) (_hl : ts.length ≤ 1048576) (hF : FitN ts) (hG : GrIn w p ao cap ts) :
  Calls Tryz.prog 116 #[.int .i64 (k : Int), .pointer (some ⟨p, 0, none⟩)] w fun e w' => e = .returned (.bool (!goodSt (el (ts.map valNode) k).2.1 (el (ts.map valNode) k).2.2.1 (el (ts.map valNode) k).2.2.2.1)) ∧ Below w.heap.size w w' := by
 have HG := hid hG;have hki : (k : Int) < (ts.length : Int) := by omega
 clear hG;obtain ⟨b, off, rfl, hb, hc⟩ := hNode_at HG.out.rows.1 hk;have d1 := (hc k hk).1;have d2 := (hc k hk).2.1;have d3 := (hc k hk).2.2.1;have d4 := (hc k hk).2.2.2.1;have d5 := (hc k hk).2.2.2.2.1;have d6 := (hc k hk).2.2.2.2.2;have hfk := hF _ (el_mem hk);have hev := el_val hk;have hin := HG.out.rows.2 k hk;obtain ⟨⟨nm, kd, sa, sb, cp, ⟨nxo, nxc, nx⟩⟩, ex⟩ : ∃ v, v = el ts k := ⟨_, rfl⟩;rw [← ex] at d1 d2 d3 d4 d5 d6 hfk hev hin;have HE : Hid (el (ts.map valNode) k = (nm, kd, sa, sb, cp, nx)) := hev;have c0 := HG.out.box.c 0 rfl;clear hc hev;dsimp only at d1 d2 d3 d4 d5 d6 hfk;have E1 : Hid ((!goodSt (el (ts.map valNode) k).2.1 (el (ts.map valNode) k).2.2.1 (el (ts.map valNode) k).2.2.2.1) = !goodSt kd sa sb) := by rw [Hid, HE.out]
 go_enter Tryz.func116, Tryz.ntmps116;go_wp2_with fail;refine (implGood_is kd sa sb w (goodSt kd sa sb) rfl).mono ?_;rintro e w1 ⟨rfl, hb1⟩;go_wp2;go_ret;exact ⟨ret_bool E1.out.symm, hb1⟩
set_option maxRecDepth 10000 in
set_option maxHeartbeats 4000000 in
theorem rule4_is (p : Nat) (ao : Option Addr) (cap : Nat) (ts : List LNode) (k : Nat) (w : World) (hk : k < ts.length) (_hl : ts.length ≤ 1048576) (hF : FitN ts) (hG : GrIn w p ao cap ts) :
  Calls Tryz.prog 118 #[.int .i64 (k : Int), .pointer (some ⟨p, 0, none⟩)] w fun e w' => e = .returned (.bool (decide ((el (ts.map valNode) k).2.2.2.2.1 < 3) || decide (8 < (el (ts.map valNode) k).2.2.2.2.1))) ∧ Below w.heap.size w w' := by
 have HG := hid hG;have hki : (k : Int) < (ts.length : Int) := by omega
 clear hG;obtain ⟨b, off, rfl, hb, hc⟩ := hNode_at HG.out.rows.1 hk;have d1 := (hc k hk).1;have d2 := (hc k hk).2.1;have d3 := (hc k hk).2.2.1;have d4 := (hc k hk).2.2.2.1;have d5 := (hc k hk).2.2.2.2.1;have d6 := (hc k hk).2.2.2.2.2;have hfk := hF _ (el_mem hk);have hev := el_val hk;have hin := HG.out.rows.2 k hk;obtain ⟨⟨nm, kd, sa, sb, cp, ⟨nxo, nxc, nx⟩⟩, ex⟩ : ∃ v, v = el ts k := ⟨_, rfl⟩;rw [← ex] at d1 d2 d3 d4 d5 d6 hfk hev hin;have HE : Hid (el (ts.map valNode) k = (nm, kd, sa, sb, cp, nx)) := hev;have c0 := HG.out.box.c 0 rfl;clear hc hev;dsimp only at d1 d2 d3 d4 d5 d6 hfk;have E1 : Hid ((decide ((el (ts.map valNode) k).2.2.2.2.1 < 3) || decide (8 < (el (ts.map valNode) k).2.2.2.2.1)) = (decide (cp < 3) || decide (8 < cp))) := by rw [Hid, HE.out]
 by_cases h : cp < 3
 ·go_enter Tryz.func118, Tryz.ntmps118;go_wp2;go_ret;exact ⟨ret_bool (by rw [E1.out]; simp [h]), Below.refl _ _⟩
 ·go_enter Tryz.func118, Tryz.ntmps118;go_wp2;go_ret;exact ⟨ret_bool (by rw [E1.out, decide_eq_false (p := cp < 3) (by omega), Bool.false_or]), Below.refl _ _⟩
set_option maxRecDepth 10000 in
set_option maxHeartbeats 4000000 in
theorem rule2_is (p : Nat) (ao : Option Addr) (cap : Nat) (ts : List LNode) (k : Nat) (w : World) (hk : k < ts.length) (_hl : ts.length ≤ 1048576) (hF : FitN ts) (hG : GrIn w p ao cap ts) (hcap : ts.length ≤ cap) :
  Calls Tryz.prog 114 #[.int .i64 (k : Int), .pointer (some ⟨p, 0, none⟩)] w fun e w' => e = .returned (.bool (((ts.map valNode).take k).any fun y => sameT y.1 (el (ts.map valNode) k).1)) ∧ Below w.heap.size w w' := by
 have HG := hid hG;have hki : (k : Int) < (ts.length : Int) := by omega
 clear hG;obtain ⟨b, off, rfl, hb, hc⟩ := hNode_at HG.out.rows.1 hk;have d1 := (hc k hk).1;have d2 := (hc k hk).2.1;have d3 := (hc k hk).2.2.1;have d4 := (hc k hk).2.2.2.1;have d5 := (hc k hk).2.2.2.2.1;have d6 := (hc k hk).2.2.2.2.2;have hfk := hF _ (el_mem hk);have hev := el_val hk;have hin := HG.out.rows.2 k hk;obtain ⟨⟨nm, kd, sa, sb, cp, ⟨nxo, nxc, nx⟩⟩, ex⟩ : ∃ v, v = el ts k := ⟨_, rfl⟩;rw [← ex] at d1 d2 d3 d4 d5 d6 hfk hev hin;have HE : Hid (el (ts.map valNode) k = (nm, kd, sa, sb, cp, nx)) := hev;have c0 := HG.out.box.c 0 rfl;clear hc hev;dsimp only at d1 d2 d3 d4 d5 d6 hfk;have E1 : Hid (((ts.map valNode).take k).any (fun y => sameT y.1 (el (ts.map valNode) k).1) = (ts.take k).any (fun y => sameT y.1 nm)) := by
  rw [Hid, HE.out, ← List.map_take, List.any_map]; rfl
 have hkc : (k : Int) ≤ (cap : Int) := by omega
 have HN := hid (HG.out.rows.1.take k);have hlk : (ts.take k).length = k := by simp; omega
 have hcon := hasName_is (some ⟨b, off, none⟩) cap (ts.take k) nm;rw [hlk] at hcon;have mixed : Tryz.prog.follows .mixedOrders = true := by kernel_rfl
 have hNE := later_some w;have q1 := Later.cell d1 hb; have q0 := Later.cell c0 HG.out.box.size
 clear d1 c0;go_enter Tryz.func114, Tryz.ntmps114;go_wp2_with fail;refine wp_region_later w (by kernel_rfl) (by kernel_rfl) (Below.refl _ _) ?_
 repeat (go_big_quiet_step (first | (go_at_call 115; exact Calls.later (hcon _ (by omega) (by exact (HN.out.later (Later.h _)))))))
 refine wpQuiet_nil ?_;rintro w4 ⟨⟨w5, hb4⟩, hw5⟩;obtain rfl : w4 = w5 := hw5;clear q1 q0 hNE;go_wp2;go_ret;exact ⟨ret_bool E1.out.symm, hb4⟩
set_option maxRecDepth 10000 in
set_option maxHeartbeats 4000000 in
theorem rule5_is (p : Nat) (ao : Option Addr) (cap : Nat) (ts : List LNode) (k : Nat) (w : World) (hk : k < ts.length) (_hl : ts.length ≤ 1048576) (hF : FitN ts) (hG : GrIn w p ao cap ts) (hC : CapN ts) :
  Calls Tryz.prog 119 #[.int .i64 (k : Int), .pointer (some ⟨p, 0, none⟩)] w fun e w' => e = .returned (.bool (!goodNx (el (ts.map valNode) k).2.2.2.2.2 (ts.map valNode).length)) ∧ Below w.heap.size w w' := by
 have HG := hid hG;have hki : (k : Int) < (ts.length : Int) := by omega
 clear hG;obtain ⟨b, off, rfl, hb, hc⟩ := hNode_at HG.out.rows.1 hk;have d1 := (hc k hk).1;have d2 := (hc k hk).2.1;have d3 := (hc k hk).2.2.1;have d4 := (hc k hk).2.2.2.1;have d5 := (hc k hk).2.2.2.2.1;have d6 := (hc k hk).2.2.2.2.2;have hfk := hF _ (el_mem hk);have hev := el_val hk;have hin := HG.out.rows.2 k hk;obtain ⟨⟨nm, kd, sa, sb, cp, ⟨nxo, nxc, nx⟩⟩, ex⟩ : ∃ v, v = el ts k := ⟨_, rfl⟩;rw [← ex] at d1 d2 d3 d4 d5 d6 hfk hev hin;have HE : Hid (el (ts.map valNode) k = (nm, kd, sa, sb, cp, nx)) := hev;have c0 := HG.out.box.c 0 rfl;clear hc hev;dsimp only at d1 d2 d3 d4 d5 d6 hfk;have E1 : Hid ((!goodNx (el (ts.map valNode) k).2.2.2.2.2 (ts.map valNode).length) = !goodNx nx ts.length) := by rw [Hid, HE.out, List.length_map]
 have HI : Hid (kI.In w.heap.size w nxo nx) := hin;have hcx := hC _ (el_mem hk);rw [← ex] at hcx;dsimp only at hcx;have hNE := later_some w;have q6 := Later.cell d6 hb; have q0 := Later.cell c0 HG.out.box.size
 clear d6 c0 d1 d2 d3 d4 d5;go_enter Tryz.func119, Tryz.ntmps119;go_wp2_with fail;refine wp_region_later w (by kernel_rfl) (by kernel_rfl) (Below.refl _ _) ?_
 repeat (go_big_quiet_step (first | (go_at_call 120; exact Calls.later (goodNext_is nxo nxc nx (ts.length : Int) _ hfk.2 hcx (by exact (HI.out.later (Later.h _)))))))
 refine wpQuiet_nil ?_;rintro w4 ⟨⟨w5, hb4⟩, hw5⟩;obtain rfl : w4 = w5 := hw5;clear q6 q0 hNE;go_wp2;go_ret;exact ⟨ret_bool E1.out.symm, hb4⟩
end
section
open Go.RowKit Go.Shelf

/-- The block b lies as it lay. -/
def SameB (b : Nat) (W W' : World) : Prop := W'.heap[b]? = W.heap[b]?
theorem SameB.cell {b : Nat} {W W' : World} (h : SameB b W W') (o : Nat) : W'.cell? ⟨b, o, none⟩ = W.cell? ⟨b, o, none⟩ := World.cell?_of_block (w := W) (a := ⟨b, o, none⟩) h
theorem SameB.trans {b : Nat} {A B C : World} (h : SameB b A B) (k : SameB b B C) : SameB b A C := Eq.trans k h
theorem sameB_put {b : Nat} {w : World} (hb : b < w.heap.size) (W : World) (l : Nat) (o o' : Obj) (hl : w.heap.size ≤ l) (_ : W.heap[l]? = some o) (_ : o.isCells = false) (_ : o.isWalk = false) : SameB b W (W.putObj l o') :=
 World.putObj_heap_other (by omega)
theorem sameB_set {g : Nat} {W : World} {a : Addr} {u : Value} (h : g ≠ a.block) : SameB g W (W.setCell a u) := Below.heap_setCell W a u g h
section
variable {α : Type} [Inhabited α]
/-- Of what came the elements whose place is not pl. -/
def keepE (ts : List α) (pl : Int) (pre : List Nat) : List α := (pre.filter (fun k : Nat => (k : Int) != pl)).map (el ts)
theorem keepE_snoc (ts : List α) (pl : Int) (pre : List Nat) (x : Nat) : keepE ts pl (pre ++ [x]) = if (x : Int) = pl then keepE ts pl pre else keepE ts pl pre ++ [el ts x] := by
 rw [keepE, List.filter_append]
 by_cases e : (x : Int) = pl <;> simp [keepE, e]
theorem keepE_len (ts : List α) (pl : Int) (pre : List Nat) : (keepE ts pl pre).length ≤ pre.length := by
 rw [keepE, List.length_map]; exact List.length_filter_le _ _
theorem keepE_range (ts : List α) (k : Nat) (hk : k < ts.length) : keepE ts (k : Int) (List.range ts.length) = ts.take k ++ ts.drop (k + 1) := by
 obtain ⟨m, hm⟩ : ∃ m, ts.length = k + (1 + m) := ⟨ts.length - k - 1, by omega⟩;have e1 : (List.range k).filter (fun j : Nat => (j : Int) != (k : Int)) = List.range k := by
  rw [List.filter_eq_self]; intro j hj; have := List.mem_range.1 hj; simp; omega
 have e2 : ((List.range m).map (fun i => k + (1 + i))).filter (fun j : Nat => (j : Int) != (k : Int)) = (List.range m).map (fun i => k + (1 + i)) := by
  rw [List.filter_eq_self]; intro j hj
  obtain ⟨i, _, rfl⟩ := List.mem_map.1 hj
  simp; omega
 rw [hm, List.range_add, List.range_add, keepE];simp only [List.map_append, List.map_map, List.filter_append, Function.comp_def];rw [e1, e2];have e3 : (List.map (fun x => k + x) (List.range 1)).filter (fun j : Nat => (j : Int) != (k : Int)) = [] := by simp [List.range_succ]
 rw [e3, List.map_nil, List.nil_append]
 congr 1
 ·apply List.ext_getElem?
  intro i
  by_cases hi : i < k
  ·have : i < ts.length := by omega
   simp [hi, this, el]
  ·rw [List.getElem?_eq_none (by simp; omega), List.getElem?_eq_none (by simp; omega)]
 ·apply List.ext_getElem?
  intro i
  by_cases hi : i < m
  ·have h1 : k + (1 + i) < ts.length := by omega
   have h2 : k + 1 + i < ts.length := by omega
   simp only [List.map_map, List.getElem?_map, List.getElem?_drop, List.getElem?_range hi, Option.map_some, Function.comp_def, el];rw [show k + 1 + i = k + (1 + i) from by omega]
   simp [h1]
  ·rw [List.getElem?_eq_none (by simp; omega), List.getElem?_eq_none (by simp; omega)]
end
theorem owns_kept {w w' : World} {base : Nat} {e : TypeId} {size : Nat} {v : Value} {n : Nat} {xs : List Value} {row : Option Nat} (h : w.ownsRow base e size v n xs) (hg : w.grownBy w' row) (hr : ∀ r, row = some r → ∃ o : Obj, w.heap[r]? = some o ∧ o.isCells = false) : w'.ownsRow base e size v n xs := by
 obtain ⟨h1, h2⟩ := h;refine ⟨h1, ?_⟩
 rcases h2 with h2 | ⟨g, cap, cur, hv, hb, hh, r⟩
 ·exact Or.inl h2
 ·refine Or.inr ⟨g, cap, cur, hv, hb, ?_, r⟩;rw [hg.block g (Array.getElem?_eq_some_iff.1 hh).1 (fun e => ?_)]
  ·exact hh
  ·obtain ⟨o, ho, hc⟩ := hr g e.symm;rw [hh] at ho; cases ho; cases hc
theorem Kind.Fresh.kept {α : Type} {K : Kind α} {lo hi : Nat} {W W' : World} {to : Option Addr} {tc : Nat} {ts : List α} {row : Option Nat} (h : K.Fresh lo hi W to tc ts) (hg : W.grownBy W' row) (hr : ∀ r, row = some r → ∃ o : Obj, W.heap[r]? = some o ∧ o.isCells = false) : K.Fresh lo hi W' to tc ts := by
 rcases h with h | ⟨g, e, hl, ho⟩
 ·exact .inl h
 ·exact .inr ⟨g, e, hl, owns_kept ho hg hr⟩
theorem own_cells {lo ty sz : Nat} {W : World} {v : Value} {n : Nat} {xs : List Value} (h : W.ownsRow lo ty sz v n xs) : ∀ (j : Nat) (o : Obj), v.ownBlock = some j → W.heap[j]? = some o → o.isCells = true := by
 rcases h.2 with ⟨e, _⟩ | ⟨g, cap, cur, e, hb, hh, _⟩
 ·subst e;exact fun j o h => by simp [Value.ownBlock] at h
 ·subst e;refine fun j o h ho => ?_
  simp [Value.ownBlock] at h
  subst h;rw [hh] at ho; cases ho; rfl
end
section
open Go.RowKit Go.Shelf

attribute [local go_sem] Oper.semAt_some

/-- An element's value. -/
def tvI (t : Int) : Value := .int .i64 t
set_option maxRecDepth 100000 in
set_option maxHeartbeats 2000000 in
theorem all1I_in (F : Fence) (n : Nat) (hAll : F.fn 174) (hro : F.round = none) (hn : 1 ≤ n) (l Bs b off len cap : Nat) (ts : List (Int)) (hreach : len ≤ 1048576) (J Jx : List Nat → World → Prop) (W : World) (_ : AbidesFrom W.heap.size J)
  (hY : ∀ (pre : List Nat) (x : Nat) (W : World), J pre W → pre.length < len → YieldAt F (n - 1) Tryz.prog l #[.int .i64 (x : Int), tvI (el ts x)] W fun e W' =>
   (e = .returned (.bool true) ∧ J (pre ++ [x]) W' ∧ SameB b W W') ∨ (e = .returned (.bool false) ∧ Jx (pre ++ [x]) W'))
  (hBs : W.cell? ⟨Bs, 0, none⟩ = some (.slice (some ⟨b, off, none⟩) len cap)) (hc : ∀ j, j < len → W.cell? ⟨b, off + j, none⟩ = some (.int .i64 (el ts j))) (h0 : J [] W) :
  CallsIn F n Tryz.prog 174 #[.func (.yield l) #[] #[], .pointer (some ⟨Bs, 0, none⟩)] W fun e W' => (∃ v, e = .returned v) ∧
   ((∃ ys, ys = List.range len ∧ J ys W') ∨ (∃ pre, (∃ k, k ≤ len ∧ pre = List.range k) ∧ Jx pre W')) := by
 refine callsIn_of_wp Tryz.func174 rfl hAll ?_ hro;simp only [Tryz.ntmps174, List.size_toArray, List.length_cons, List.length_nil, Nat.reduceAdd, Nat.reduceSub, Array.replicate_succ, Array.replicate_zero, List.push_toArray, List.append_toArray, List.nil_append, List.cons_append]
 gi_wp2
 gi_loopw [8] (fun i wr => ∃ k : Nat, k ≤ len ∧ i = .int .i64 k ∧ J (List.range k) wr ∧ Hid (SameB b W wr))
  (fun i _ => len - (intOf i).toNat)
 case atStart => exact ⟨0, Nat.zero_le _, rfl, h0, rfl⟩
 case round =>
  obtain ⟨k, hk, rfl, hJs, hnx⟩ := hrel
  by_cases hlt : k < len
  ·have c1 := hc k hlt;have d1 := (hnx.out.cell (off + k)).trans c1;obtain ⟨x1, e1⟩ : ∃ x, x = (el ts k) := ⟨_, rfl⟩;have hJa := hJs;obtain ⟨fn, tmps, assign, body, hy, hR⟩ := hY _ k _ hJa (by rw [List.length_range]; exact hlt);simp only [tvI, ← e1] at hy;rw [← e1] at d1;clear c1 hc e1
   gi_wp2
   refine hR.mono ?_;rintro e W3 (⟨rfl, hJ3, hk3⟩ | ⟨rfl, hJx3⟩)
   ·have hk4 : SameB b wr W3 := hk3
    gi_wp2
    go_roundw
    case rel => exact ⟨k + 1, by omega, by simp, by rw [List.range_succ]; exact hJ3, hnx.out.trans hk4⟩
    case measure => simp [intOf]; omega
   ·gi_wp2
    refine bodyPost_ret (results_none rfl _ _ _) rfl ?_;exact ⟨⟨_, rfl⟩, .inr ⟨_, ⟨k + 1, by omega, List.range_succ.symm⟩, hJx3⟩⟩
  ·obtain rfl : k = len := by omega
   gi_wp2
   go_end0
   exact ⟨⟨_, rfl⟩, .inl ⟨_, rfl, hJs⟩⟩
set_option maxRecDepth 100000 in
set_option maxHeartbeats 1000000 in
theorem all1I_nil_in (F : Fence) (n : Nat) (hAll : F.fn 174) (hro : F.round = none) (l Bs : Nat) (ao : Option Addr) (cap : Nat) (J : List Nat → World → Prop) (W : World) (hBs : W.cell? ⟨Bs, 0, none⟩ = some (.slice ao 0 cap)) (h0 : J [] W) :
  CallsIn F n Tryz.prog 174 #[.func (.yield l) #[] #[], .pointer (some ⟨Bs, 0, none⟩)] W fun e W' => (∃ v, e = .returned v) ∧ J [] W' := by
 refine callsIn_of_wp Tryz.func174 rfl hAll ?_ hro;simp only [Tryz.ntmps174, List.size_toArray, List.length_cons, List.length_nil, Nat.reduceAdd, Nat.reduceSub, Array.replicate_succ, Array.replicate_zero, List.push_toArray, List.append_toArray, List.nil_append, List.cons_append]
 gi_wp2
 gi_loopw [8] (fun i wr => i = .int .i64 0 ∧ J [] wr) (fun _ _ => 0)
 case atStart => exact ⟨rfl, h0⟩
 case round =>
  obtain ⟨rfl, hJs⟩ := hrel
  gi_wp2
  go_end0
  exact ⟨⟨_, rfl⟩, hJs⟩
/-- The queue's iterator hands out (0, ts[0]), (1, ts[1]), ..: all, or the first k of them. -/
theorem allI_stops (F : Fence) (n : Nat) (hAll : F.fn 174) (hro : F.round = none) (hn : 1 ≤ n) (Bs b : Nat) (ao : Option Addr) (cap : Nat) (ts : List (Int)) (hreach : ts.length ≤ 1048576) (w : World) (hBs : Bs < w.heap.size)
  (hc : w.cell? ⟨Bs, 0, none⟩ = some (.slice ao ts.length cap)) (hI : ts = [] ∨ ∃ off, ao = some ⟨b, off, none⟩ ∧ b < w.heap.size ∧ ∀ j, j < ts.length → w.cell? ⟨b, off + j, none⟩ = some (.int .i64 (el ts j))) :
  SeqStopsK F n Tryz.prog 174 #[.pointer (some ⟨Bs, 0, none⟩)] (fun x : Nat => #[Value.int .i64 (x : Int), tvI (el ts x)]) (SameB b) (fun ys => ys = List.range ts.length)
   (fun pre => ∃ k, k ≤ ts.length ∧ pre = List.range k) ts.length w := fun l J Jx W hW hJ _ hY h0 => by
 have hc' := (hW.cell (p := ⟨Bs, 0, none⟩) hBs).trans hc
 rcases hI with rfl | ⟨off, rfl, hb, hcs⟩
 ·exact (all1I_nil_in F n hAll hro l Bs ao cap J W hc' h0).mono fun e W' ⟨he, hj⟩ => ⟨he, .inl ⟨_, rfl, hj⟩⟩
 ·exact all1I_in F n hAll hro hn l Bs b off ts.length cap ts hreach J Jx W hJ hY hc' (fun j hj => (hW.cell (p := ⟨b, off + j, none⟩) hb).trans (hcs j hj)) h0
set_option maxHeartbeats 1000000 in
theorem allI_any (v : Value) (hv : ∃ a n c, v = .slice a n c) (w : World) :
  Calls Tryz.prog 154 #[.agg #[v]] w fun e w' => e = .returned (.func (.func 174) #[] #[.pointer (some ⟨w.heap.size, 0, none⟩)]) ∧ w' = w.alloc (.cells #[v] 165) := by
 obtain ⟨a, n, c, rfl⟩ := hv;go_enter Tryz.func154, Tryz.ntmps154;go_wp2;go_ret;exact ⟨rfl, rfl⟩
/-- Between two rounds: the box holds a row of its own with what is kept. -/
def DInvI (B : Nat) (ts : List (Int)) (pl : Int) (g : Nat) (pre : List Nat) (W : World) : Prop :=
 W.cell? ⟨B + 1, 0, none⟩ = some (.int .i64 pl) ∧ (W.cell? ⟨B + 1 + 1, 0, none⟩ = some (.slice none 0 0) ∧ W.frozen? ⟨B + 1 + 1, 0, none⟩ = false) ∧ (∃ v, W.cell? ⟨B + 1 + 1 + 1, 0, none⟩ = some v ∧ kI.Own (B + 1 + 1 + 1 + 1) W v (keepE ts pl pre)) ∧ W.frozen? ⟨B + 1 + 1 + 1, 0, none⟩ = false ∧ g < W.heap.size
theorem DInvI.kept {B : Nat} {ts : List (Int)} {pl : Int} {g : Nat} {pre : List Nat} {W W' : World} {row : Option Nat} (h : DInvI B ts pl g pre W) (hg : W.grownBy W' row) (hr : ∀ r, row = some r → ∃ o : Obj, W.heap[r]? = some o ∧ o.isCells = false) : DInvI B ts pl g pre W' := by
 obtain ⟨h2, ⟨h3, h4⟩, ⟨v, h5, h6⟩, h7, h8⟩ := h;exact ⟨cell_kept h2 hg hr, ⟨cell_kept h3 hg hr, (frozen_kept h3 hg hr).trans h4⟩, ⟨v, cell_kept h5 hg hr, owns_kept h6 hg hr⟩, (frozen_kept h5 hg hr).trans h7, Nat.lt_of_lt_of_le h8 hg.size⟩
set_option maxRecDepth 100000 in
set_option maxHeartbeats 4000000 in
theorem withoutI_any (ao : Option Addr) (cap : Nat) (ts : List (Int)) (pl : Int) (w : World) (hm : ts.length ≤ 1048576) (hq : kI.In w.heap.size w ao ts) (R : List (Int)) (hR : R = keepE ts pl (List.range ts.length)) :
  Calls Tryz.prog 125 #[.agg #[.slice ao ts.length cap], .int .i64 pl] w fun e w' => (∃ go qc, e = .returned (.agg #[.slice go R.length qc]) ∧ kI.Fresh w.heap.size w'.heap.size w' go qc R) ∧ Below w.heap.size w w' := by
 have HR : Hid (R = keepE ts pl (List.range ts.length)) := hR;clear hR;refine (callsIn_wide (n := 4)).1 ?_;have hro : Fence.wide.round = none := rfl;refine callsIn_of_wp_marks Tryz.func125 rfl trivial ?_ hro;simp only [Tryz.ntmps125, List.size_toArray, List.length_cons, List.length_nil, Nat.reduceAdd, Nat.reduceSub, Array.replicate_succ, Array.replicate_zero, List.push_toArray, List.append_toArray, List.nil_append, List.cons_append]
 gi_wp2_with fail
 refine ⟨trivial, ?_⟩;refine (callsIn_wide.2 (allI_any _ ⟨_, _, _, rfl⟩ _)).mono ?_;rintro e w2 ⟨rfl, rfl⟩
 gi_wp2_with fail
 obtain ⟨g, hgs, hg⟩ : ∃ g, g ≤ w.heap.size ∧ (ts = [] ∨ ∃ off, ao = some ⟨g, off, none⟩ ∧ g < w.heap.size ∧ ∀ j, j < ts.length → w.cell? ⟨g, off + j, none⟩ = some (.int .i64 (el ts j))) := by
  rcases Nat.eq_zero_or_pos ts.length with h | h
  ·exact ⟨0, Nat.zero_le _, .inl (List.length_eq_zero_iff.1 h)⟩
  ·obtain ⟨b, off, e, hb, hc⟩ := ints_at hq h;exact ⟨b, Nat.le_of_lt hb, .inr ⟨off, e, hb, hc⟩⟩
 obtain ⟨W0, hW0⟩ : ∃ W0, W0 = ((((w.alloc (Obj.cells #[Value.slice ao ts.length cap] 165)).alloc (Obj.cells #[Value.int IntKind.i64 pl] 3)).alloc (Obj.cells #[Value.slice none 0 0] 165)).alloc (Obj.cells #[Value.slice none 0 0] 30)).alloc (Obj.cells #[Value.slice ao ts.length cap] 165) := ⟨_, rfl⟩;rw [← hW0];have hBW : Below w.heap.size w W0 := by rw [hW0]; exact (((below3 w _ _ _).alloc (by simp; omega) _).alloc (by simp; omega) _)
 have hsW : W0.heap.size = w.heap.size + 1 + 1 + 1 + 1 + 1 := by rw [hW0]; simp
 have cW : W0.cell? ⟨w.heap.size + 1 + 1 + 1 + 1, 0, none⟩ = some (.slice ao ts.length cap) := by rw [hW0]; simp [go_sem]
 have b0 : W0.cell? ⟨w.heap.size + 1, 0, none⟩ = some (.int .i64 pl) := by rw [hW0]; simp [go_sem]
 have r0 : W0.cell? ⟨w.heap.size + 1 + 1, 0, none⟩ = some (.slice none 0 0) := by rw [hW0]; simp [go_sem]
 have r1 : W0.frozen? ⟨w.heap.size + 1 + 1, 0, none⟩ = false := by rw [hW0]; simp [go_sem]
 have r2 : W0.cell? ⟨w.heap.size + 1 + 1 + 1, 0, none⟩ = some (.slice none 0 0) := by rw [hW0]; simp [go_sem]
 have r3 : W0.frozen? ⟨w.heap.size + 1 + 1 + 1, 0, none⟩ = false := by rw [hW0]; simp [go_sem]
 clear hW0;have hq0 : ts = [] ∨ ∃ off, ao = some ⟨g, off, none⟩ ∧ g < W0.heap.size ∧ ∀ j, j < ts.length → W0.cell? ⟨g, off + j, none⟩ = some (.int .i64 (el ts j)) := by
  rcases hg with h | ⟨off, h1, h3, h4⟩
  ·exact .inl h
  ·exact .inr ⟨off, h1, by omega, fun j hj => (hBW.cell (p := ⟨g, off + j, none⟩) h3).trans (h4 j hj)⟩
 have hgW : g < W0.heap.size := by omega
 have hinv0 : DInvI w.heap.size ts pl g [] W0 := ⟨b0, ⟨r0, r1⟩, ⟨.slice none 0 0, r2, Kind.Own.nil _ _ _⟩, r3, hgW⟩;clear b0 r0 r1 r2 r3 hg;obtain ⟨i0, hi, hz0, hz1, hz2⟩ := info_parts Tryz.info3;refine wpIn_rangeFunc_ownG hro (by omega) (gf := 174) (lb := #[.pointer (some ⟨w.heap.size + 1 + 1 + 1 + 1, 0, none⟩)]) rfl trivial (enters_of Tryz.func174 (by kernel_rfl) rfl)
  (allI_stops Fence.wide (4 - 1) trivial hro (by omega) (w.heap.size + 1 + 1 + 1 + 1) g ao cap ts (by omega) W0 (by omega) cW hq0) SameB.trans (sameB_put hgW) (Below.refl _ _) (fun _ => rfl)
  (fun pre W => (pre.length ≤ ts.length ∧ DInvI w.heap.size ts pl g pre W) ∧ Below w.heap.size w W)
  (fun _ _ _ => False)
  (OwnFrom.and (Own.from (fun s A B row hs hg hr => ⟨hs.1, hs.2.kept hg hr⟩) _) (ownFrom_below (Nat.le_refl _) (by omega)))
  (fun _ _ _ _ _ hs _ _ => hs)
  ⟨⟨by simp, hinv0⟩, hBW⟩
  (fun x => { tmps := #[Value.agg #[Value.slice ao ts.length cap], Value.int .i64 pl, Value.pointer (some ⟨w.heap.size, 0, none⟩), Value.pointer (some ⟨w.heap.size + 1, 0, none⟩), Value.pointer (some ⟨w.heap.size + 1 + 1, 0, none⟩), Value.pointer (some ⟨w.heap.size + 1 + 1 + 1, 0, none⟩), Value.int .i64 (x : Int), Value.int .i64 (el ts x), Value.agg #[Value.slice ao ts.length cap], Value.func (Fn.func 174) #[] #[Value.pointer (some ⟨w.heap.size + 1 + 1 + 1 + 1, 0, none⟩)], Value.int .i64 (x : Int), Value.int .i64 (el ts x), undef, undef, undef, undef, undef, undef, undef, undef, undef], defers := [] }) ?assign ?body ?done ?stop
 case assign =>
  intro l x W K hK;simp only [tvI]
  gi_wp2
  exact hK
 case body =>
  rintro l pre x W ⟨⟨hpl, hI⟩, hB⟩ hlen;have HL : Hid ((pre ++ [x]).length ≤ ts.length) := by simp [Hid]; omega
  have hkl := keepE_len ts pl pre;have hK1 := keepE_snoc ts pl pre x;obtain ⟨hb0, ⟨hr0, hr1⟩, ⟨v, hv, hown⟩, hr3, hgW'⟩ := hI;obtain ⟨go, qc, rfl, _⟩ := hown.fresh;have hBs := hB.size;have hsB : w.heap.size + 1 + 1 + 1 < W.heap.size := World.block_lt_of_cell? _ _ hv;obtain ⟨x1, ex⟩ : ∃ v, v = el ts x := ⟨_, rfl⟩;rw [← ex] at hK1 ⊢;clear ex;have HO : Hid (kI.Own (w.heap.size + 1 + 1 + 1 + 1) W (.slice go (keepE ts pl pre).length qc) (keepE ts pl pre)) := hown;have HK1 : Hid (keepE ts pl (pre ++ [x]) = if (x : Int) = pl then keepE ts pl pre else keepE ts pl pre ++ [x1]) := hK1;clear hown hK1
  generalize hF : keepE ts pl pre = F at *
  by_cases hx : (x : Int) = pl
  ·have hx' : ((x : Int) != pl) = false := by simpa using hx
   have HE : Hid (keepE ts pl (pre ++ [x]) = F) := by rw [Hid, HK1.out, if_pos hx]
   clear hx hF
   gi_wp2
   exact ⟨KeepsFrom.refl _ _, rfl, ⟨HL.out, hb0, ⟨hr0, hr1⟩, ⟨_, hv, by rw [HE.out]; exact HO.out⟩, hr3, hgW'⟩, hB⟩
  ·have hx' : ((x : Int) != pl) = true := by simpa using hx
   have HE : Hid (keepE ts pl (pre ++ [x]) = F ++ [x1]) := by rw [Hid, HK1.out, if_neg hx]
   have HX : Hid (w.heap.size + 1 + 1 + 1 + 1 ≤ (W.alloc (.cells #[.int .i64 x1] 3)).heap.size ∧ (∀ j u, ([.int .i64 x1] : List Value)[j]? = some u → (W.alloc (.cells #[.int .i64 x1] 3)).cell? ((⟨W.heap.size, 0, none⟩ : Addr).add j) = some u) ∧ ∀ u ∈ ([.int .i64 x1] : List Value), u.oneCell' = true) := by
    refine ⟨by simp; omega, fun j u h => ?_, fun u hu => by simp at hu; rcases hu with rfl <;> rfl⟩
    match j, h with
    | 0, h => simp at h; subst h; simp [Addr.add]
   clear hx hF
   gi_wp2_with (gi_at_builtin; refine wpListIn_append_own (W.alloc (.cells #[.int .i64 x1] 3)) rfl (.tmp 15) (.tmp 17) 30 rfl (w.heap.size + 1 + 1 + 1 + 1) 3 i0 (.int .i64 0) 1 8 Tryz.underlying30 hi hz0 hz1 hz2 rfl (by decide) (.slice go F.length qc) F.length (kI.flat F) rfl (HO.out.below (below1 _ _)) ⟨W.heap.size, 0, none⟩ 1 1 [.int .i64 x1] rfl rfl HX.out.2.1 HX.out.2.2 (by unfold maxLen; omega) (by omega) HX.out.1 ?_; intro v' w1 hown' hgrow _; have hob1 := Kind.Own.low (xs := F) (HO.out.below (below1 W (.cells #[.int .i64 x1] 3))); have hob2 := own_cells (HO.out.below (below1 W (.cells #[.int .i64 x1] 3))); have hlow : ∀ k, k < w.heap.size + 1 + 1 + 1 + 1 → w1.heap[k]? = W.heap[k]? := (fun k hk => (hgrow.block k (by simp; omega) (fun e => by have := hob1 k e.symm; omega)).trans (Below.heap_alloc _ _ k (by omega))); have l0 : w1.cell? ⟨w.heap.size + 1 + 1 + 1, 0, none⟩ = some (.slice go F.length qc) := (World.cell?_of_block (a := ⟨w.heap.size + 1 + 1 + 1, 0, none⟩) (hlow _ (by simp))).trans hv; have l1 : w1.frozen? ⟨w.heap.size + 1 + 1 + 1, 0, none⟩ = false := (World.frozen?_of_block (a := ⟨w.heap.size + 1 + 1 + 1, 0, none⟩) (hlow _ (by simp))).trans hr3; have HH : Hid (kI.Own (w.heap.size + 1 + 1 + 1 + 1) w1 v' (F ++ [x1]) ∧ KeepsOthers W w1 ∧ (∀ k, k < w.heap.size + 1 + 1 + 1 + 1 → w1.heap[k]? = W.heap[k]?) ∧ W.heap.size ≤ w1.heap.size ∧ w1.os = W.os ∧ w1.tape = W.tape ∧ w1.output = W.output) := ⟨(by unfold Kind.Own; rw [Kind.flat_app, List.length_append]; exact hown'), (KeepsOthers.alloc _ _).trans (KeepsOthers.of_grownBy hgrow hob2), hlow, (by have := hgrow.size; simp at this; omega), hgrow.os, hgrow.tape, hgrow.output⟩; obtain ⟨go', qc', rfl, _⟩ := HH.out.1.fresh; clear hown' hgrow hob1 hob2 hlow)
   obtain ⟨ho, hk, hlow, hsz, c1, c2, c3⟩ := HH.out;have hB1 : Below w.heap.size w w1 := hB.trans ⟨c1, c2, c3, hsz, fun k hk => hlow k (by omega)⟩;refine ⟨(hk.trans (KeepsOthers.setCell _ _ _)).from _, SameB.trans (hlow g (by omega)) (sameB_set (by simp; omega)), ⟨HL.out, ?_, ⟨?_, ?_⟩, ⟨_, World.cell?_setCell_same' _ _ _ (by rw [l0]; rfl), ?_⟩, by rw [World.frozen?_setCell]; exact l1, by simp; omega⟩, hB1.setCell (p := ⟨w.heap.size + 1 + 1 + 1, 0, none⟩) (by simp; omega) _⟩
   ·rw [World.cell?_setCell_other _ _ _ _ (by simp)]; exact (World.cell?_of_block (a := ⟨w.heap.size + 1, 0, none⟩) (hlow (w.heap.size + 1) (by omega))).trans hb0
   ·rw [World.cell?_setCell_other _ _ _ _ (by simp)]; exact (World.cell?_of_block (a := ⟨w.heap.size + 1 + 1, 0, none⟩) (hlow (w.heap.size + 1 + 1) (by omega))).trans hr0
   ·rw [World.frozen?_setCell]; exact (World.frozen?_of_block (a := ⟨w.heap.size + 1 + 1, 0, none⟩) (hlow (w.heap.size + 1 + 1) (by omega))).trans hr1
   ·rw [HE.out];have h := ho.setBelow (a := ⟨w.heap.size + 1 + 1 + 1, 0, none⟩) (by simp) (.slice go' (F ++ [x1]).length qc')
    simpa using h
 case done =>
  rintro D ys W hD rfl ⟨⟨hpl, hI⟩, hB⟩ hK;obtain ⟨hb0, ⟨hr0, hr1⟩, ⟨v, hv, hown⟩, hr3, hgW'⟩ := hI;rw [← HR.out] at hown;obtain ⟨go, qc, rfl, _, hF⟩ := hown.fresh;have HF : Hid (kI.Fresh (w.heap.size + 1 + 1 + 1 + 1) W.heap.size W go qc R) := hF;clear hF hown hpl
  gi_wp2
  have hk1 : KeepsOthers W (W.setCell ⟨w.heap.size + 1 + 1, 0, none⟩ (.slice go R.length qc)) := KeepsOthers.setCell _ _ _;have hK' := hk1.same D _ hK rfl;have hX0 : (W.setCell ⟨w.heap.size + 1 + 1, 0, none⟩ (.slice go R.length qc)).cell? ⟨w.heap.size + 1 + 1, 0, none⟩ = some (.slice go R.length qc) := World.cell?_setCell_same' _ _ _ (by rw [hr0]; rfl);refine ⟨by simp, .inl ⟨_, _, rfl, run_takeDeferred hK', ?_⟩⟩;have hc5 := cell_kept hX0 (grownBy_putObj' _ D (.deferred none)) (fun r e => by cases e; exact ⟨_, hK', rfl⟩);have hF2 := HF.out.setBelow (a := ⟨w.heap.size + 1 + 1, 0, none⟩) (by simp) (.slice go R.length qc);refine ⟨.agg #[.slice go R.length qc], ?_, ⟨go, qc, rfl, ?_⟩, (hB.setCell (p := ⟨w.heap.size + 1 + 1, 0, none⟩) (by simp; omega) _).trans (belowK_b (w := W0) (by omega) _ D _ _ hD hK' rfl rfl)⟩
  ·simp [results, Tryz.f125, go_sem, hc5]
  ·exact (hF2.kept (grownBy_putObj' _ D (.deferred none)) (fun r e => by cases e; exact ⟨_, hK', rfl⟩)).wide (by omega) (by simp)
 case stop =>
  rintro D c pre W _ _ h _;exact h.elim
end
section
open Go.RowKit

/-- A row of ints in its own memory, as an ending. -/
def AnsI (w : World) (q : List Int) (e : Ending) (w' : World) : Prop := (∃ go qc, e = .returned (.slice go q.length qc) ∧ kI.Fresh w.heap.size w'.heap.size w' go qc q) ∧ Below w.heap.size w w'
/-- The numbers from 0 on. -/
def numsI (n : Nat) : List Int := (List.range n).map fun k : Nat => (k : Int)
theorem numsI_len (n : Nat) : (numsI n).length = n := by simp [numsI]
theorem numsI_succ (n : Nat) : numsI (n + 1) = numsI n ++ [(n : Int)] := by simp [numsI, List.range_succ]
theorem numsI_mem {n : Nat} {x : Int} (h : x ∈ numsI n) : ∃ k : Nat, k < n ∧ x = (k : Int) := by
 simp only [numsI, List.mem_map, List.mem_range] at h;obtain ⟨k, hk, rfl⟩ := h;exact ⟨k, hk, rfl⟩
set_option maxHeartbeats 4000000 in
theorem numbersOf_any (ao : Option Addr) (cap n : Nat) (w : World) (hl : n ≤ 1048576) :
  Calls Tryz.prog 85 #[.slice ao n cap] w fun e w' => AnsI w (numsI n) e w' := by
 go_enter Tryz.func85, Tryz.ntmps85;go_wp2
 go_loopw [3, 7] (fun u i wr => ∃ (k : Nat) (v : Value), v = u ∧ k ≤ n ∧ i = .int .i64 k ∧ Hid (kI.Own w.heap.size wr v (numsI k)) ∧ Below w.heap.size w wr) (fun _ i _ => n - (intOf i).toNat)
 case atStart => exact ⟨0, _, rfl, Nat.zero_le _, rfl, Kind.Own.nil _ _ _, Below.refl _ _⟩
 case round =>
  obtain ⟨k, v, rfl, hk, rfl, hO, hB⟩ := hrel
  by_cases hlt : k < n
  ·have hs := hB.size;have HA : Hid (kI.Own w.heap.size (wr.alloc (.cells #[.int .i64 (k : Int)] 3)) v (numsI k)) := hO.out.below (below1 _ _);have HN : Hid (kI.In (wr.heap.size + 1) (wr.alloc (.cells #[.int .i64 (k : Int)] 3)) (some ⟨wr.heap.size, 0, none⟩) [(k : Int)]) := int_one (by omega) (by simp);have hll : (numsI k).length + 1 ≤ 4194304 := by rw [numsI_len]; omega
   have hBa : Below w.heap.size w (wr.alloc (.cells #[.int .i64 (k : Int)] 3)) := Below.allocS hB _;go_wp2_with (at_builtin; refine Kind.app kI_ok (wr.alloc (.cells #[.int .i64 (k : Int)] 3)) rfl (.tmp 10) (.tmp 12) rfl w.heap.size v (numsI k) rfl HA.out (by simp; omega) (some ⟨wr.heap.size, 0, none⟩) [(k : Int)] 1 1 rfl rfl (by simp) _ HN.out hll ?_; intro v' w' hO' hB' hG' hn'; have hB2 : Below w.heap.size w w' := hBa.trans (hB'.mono (by omega)); have HO' : Hid (kI.Own w.heap.size w' v' (numsI (k + 1))) := (by rw [Hid, numsI_succ]; exact hO'); clear hO' hB' hG' hn');go_roundw
   case rel => exact ⟨k + 1, v', rfl, by omega, by go_num, HO', hB2⟩
   case measure => simp [intOf]; omega
  ·obtain rfl : k = n := by omega
   obtain ⟨qo, qc, rfl, _, hF⟩ := hO.out.fresh;have HF := hid hF;clear hF hO;rw [numsI_len];go_wp2;go_ret;exact ⟨⟨_, _, by rw [numsI_len]; rfl, HF.out⟩, hB⟩
/-- One node leads to another. -/
def leadsP (gs : List PNode) (a b : Int) : Bool := hasB (el gs a.toNat).2.2.2.2.2 b
/-- One of these leads to it. -/
def ledP (gs : List PNode) (l : List Int) (b : Int) : Bool := l.any fun a => leadsP gs a b
/-- Each time the first to which none leads. -/
def behindP (gs : List PNode) : Nat → List Int → List Int → List Int × List Int
 | 0, o, l => (o, l)
 | n + 1, o, l => match l.findIdx? (fun b => !ledP gs l b) with
  | none => (o, l)
  | some k => behindP gs n (o ++ [el l k]) (l.take k ++ l.drop (k + 1))
set_option maxHeartbeats 2000000 in
theorem leads_is (pg : Nat) (ao : Option Addr) (cap : Nat) (ts : List LNode) (k : Nat) (b : Int) (w : World) (hk : k < ts.length) (hF : FitN ts) (hG : GrIn w pg ao cap ts) :
  Calls Tryz.prog 88 #[.int .i64 (k : Int), .int .i64 b, .pointer (some ⟨pg, 0, none⟩)] w fun e w' => e = .returned (.bool (leadsP (ts.map valNode) k b)) ∧ Below w.heap.size w w' := by
 have HG := hid hG;have hki : (k : Int) < (ts.length : Int) := by omega
 clear hG;obtain ⟨bb, off, rfl, hb, hc⟩ := hNode_at HG.out.rows.1 hk;have d6 := (hc k hk).2.2.2.2.2;have hfk := hF _ (el_mem hk);have hev := el_val hk;have hin := HG.out.rows.2 k hk;obtain ⟨⟨nm, kd, sa, sb, cp, ⟨nxo, nxc, nx⟩⟩, ex⟩ : ∃ v, v = el ts k := ⟨_, rfl⟩;rw [← ex] at d6 hfk hev hin;have E1 : Hid (leadsP (ts.map valNode) k b = hasB nx b) := by rw [Hid, leadsP, Int.toNat_natCast, hev]; rfl
 have HI : Hid (kI.In w.heap.size w nxo nx) := hin;have c0 := HG.out.box.c 0 rfl;clear hc hev hin;dsimp only at d6 hfk;go_enter Tryz.func88, Tryz.ntmps88;go_wp2_with fail;refine (contains_is w.heap.size nxo nxc nx b w (hasB nx b) hfk.2 HI.out rfl).mono ?_;rintro e w1 ⟨rfl, rfl⟩;go_wp2;go_ret;exact ⟨ret_bool E1.out.symm, Below.refl _ _⟩
theorem Tryz.entersB1 : ∀ args w, (callFunc 121 args).run Tryz.prog w = .ok (.enter 121 args) w := enters_of Tryz.func121 (by kernel_rfl) rfl
theorem Tryz.entersB2 : ∀ args w, (callFunc 123 args).run Tryz.prog w = .ok (.enter 123 args) w := enters_of Tryz.func123 (by kernel_rfl) rfl
set_option maxHeartbeats 2000000 in
theorem behind2_is (pg pl pt : Nat) (ao : Option Addr) (cap : Nat) (ts : List LNode) (k : Nat) (b : Int) (w : World) (hk : k < ts.length) (hF : FitN ts) (hG : GrIn w pg ao cap ts) (hL : w.cell? ⟨pl, 0, none⟩ = some (.func (.func 88) #[] #[.pointer (some ⟨pg, 0, none⟩)])) (hT : w.cell? ⟨pt, 0, none⟩ = some (.int .i64 b)) :
  Calls Tryz.prog 123 #[.int .i64 (k : Int), .pointer (some ⟨pl, 0, none⟩), .pointer (some ⟨pt, 0, none⟩)] w fun e w' => e = .returned (.bool (leadsP (ts.map valNode) k b)) ∧ Below w.heap.size w w' := by
 have hcon := leads_is pg ao cap ts k b w hk hF hG;clear hG;go_enter Tryz.func123, Tryz.ntmps123;go_wp2_with fail;refine hcon.mono ?_;rintro e w1 ⟨rfl, hb1⟩;go_wp2;go_ret;exact ⟨rfl, hb1⟩
set_option maxHeartbeats 2000000 in
theorem behind1_is (pg pl pq : Nat) (ao : Option Addr) (cap : Nat) (ts : List LNode) (lo : Option Addr) (lc : Nat) (l : List Int) (b : Int) (w : World) (hl : l.length ≤ 1048576) (hv : ∀ x ∈ l, ∃ k : Nat, k < ts.length ∧ x = (k : Int)) (hF : FitN ts) (hG : GrIn w pg ao cap ts) (hL : Bx w pl [.func (.func 88) #[] #[.pointer (some ⟨pg, 0, none⟩)]]) (hQ : Bx w pq [.slice lo l.length lc]) (hz : kI.In w.heap.size w lo l) :
  Calls Tryz.prog 121 #[.int .i64 b, .pointer (some ⟨pq, 0, none⟩), .pointer (some ⟨pl, 0, none⟩)] w fun e w' => e = .returned (.bool (!ledP (ts.map valNode) l b)) ∧ Below w.heap.size w w' := by
 obtain ⟨V, hV⟩ : ∃ V, V = w.alloc (.cells #[.int .i64 b] 3) := ⟨_, rfl⟩;have hb : Below w.heap.size w V := by rw [hV]; exact below1 _ _
 have hX : Bx V w.heap.size [.int .i64 b] := by rw [hV]; exact Bx.new [.int .i64 b] _ rfl
 have hcon := containsFuncI_any 123 #[.pointer (some ⟨pl, 0, none⟩), .pointer (some ⟨w.heap.size, 0, none⟩)] Tryz.entersB2 lo lc l (fun a => leadsP (ts.map valNode) a b) V hl (hz.later hb) (fun x W hx hW => by
  obtain ⟨k, hk, rfl⟩ := hv x hx;exact behind2_is pg pl w.heap.size ao cap ts k b W hk hF ((hG.later hb).later hW) (((hL.later hb).later hW).c 0 rfl) ((hX.later hW).c 0 rfl))
 have hq := (hQ.later hb).c 0 rfl;have q0 := hQ.c 0 rfl;have hqs := hQ.size;have HV := hid hV;have HB := hid hb;clear hV hX hz hb hQ hL hG hv;go_enter Tryz.func121, Tryz.ntmps121;go_wp2_with fail;rw [← HV.out];refine hcon.mono ?_;rintro e w1 ⟨rfl, hb1⟩;have hB1 : Below w.heap.size w w1 := HB.out.trans (hb1.mono HB.out.size);clear hb1;go_wp2;go_ret;exact ⟨rfl, hB1⟩
end
section
open Go.RowKit

def lenOf : Value → Nat | .slice _ n _ => n | _ => 0
theorem in_grown {W W' : World} {ro : Option Nat} {lo : Option Addr} {l : List Int} (hG : W.grownBy W' ro) (hz : kI.In W.heap.size W lo l) (hs : 0 < l.length → ∀ b off, lo = some ⟨b, off, none⟩ → ro ≠ some b) : kI.In W'.heap.size W' lo l := by
 rcases Nat.eq_zero_or_pos l.length with h0 | h0
 ·exact .inl (List.length_eq_zero_iff.1 h0)
 rcases hz with h | ⟨b, off, e, hb, hc⟩
 ·exact .inl h
 ·exact .inr ⟨b, off, e, Nat.lt_of_lt_of_le hb hG.size, fun j hj i hi => (World.cell?_of_block (a := ⟨b, off + j * kI.sz + i, none⟩) (hG.block b hb (Ne.symm (hs h0 b off e)))).trans (hc j hj i hi)⟩
theorem behindP_len (gs : List PNode) : ∀ (n : Nat) (o l : List Int), (behindP gs n o l).1.length ≤ o.length + n
 | 0, o, l => Nat.le_refl _
 | n + 1, o, l => by
  rw [behindP]
  cases l.findIdx? (fun b => !ledP gs l b) with
  | none => simp
  | some k =>
   have := behindP_len gs n (o ++ [el l k]) (l.take k ++ l.drop (k + 1));simp only [List.length_append, List.length_singleton] at this ⊢
   omega
theorem own_lt {lo : Nat} {W : World} {v : Value} {xs : List Int} (h : kI.Own lo W v xs) {g : Nat} (hg : v.ownBlock = some g) : g < W.heap.size := by
 rcases h.2 with ⟨e, _⟩ | ⟨g', cap', cur, e, hb, hh, r⟩
 ·rw [e] at hg; simp [Value.ownBlock] at hg
 ·rw [e] at hg
  simp [Value.ownBlock] at hg
  subst hg;exact (Array.getElem?_eq_some_iff.1 hh).1
theorem own_slice {lo : Nat} {W : World} {v : Value} {xs : List Int} (h : kI.Own lo W v xs) : ∃ go qc, v = .slice go xs.length qc := by
 obtain ⟨go, qc, e, _⟩ := h.fresh;exact ⟨go, qc, e⟩
set_option maxRecDepth 10000 in
set_option maxHeartbeats 8000000 in
theorem eachBehind_any (pg : Nat) (ao : Option Addr) (cap : Nat) (ts : List LNode) (zo : Option Addr) (zc : Nat) (zs : List Int) (w : World) (hl : zs.length ≤ 1048576) (hv : ∀ x ∈ zs, ∃ k : Nat, k < ts.length ∧ x = (k : Int)) (hF : FitN ts) (hG : GrIn w pg ao cap ts) (hz : kI.In w.heap.size w zo zs) (R : List Int) (hR : (behindP (ts.map valNode) zs.length [] zs).1 = R) :
  Calls Tryz.prog 87 #[.slice zo zs.length zc, .func (.func 88) #[] #[.pointer (some ⟨pg, 0, none⟩)]] w fun e w' => AnsI w R e w' := by
 obtain ⟨V, hV⟩ : ∃ V, V = (w.alloc (.cells #[.func (.func 88) #[] #[.pointer (some ⟨pg, 0, none⟩)]] 143)).alloc (.cells #[.slice zo zs.length zc] 30) := ⟨_, rfl⟩;have hb : Below w.heap.size w V := by rw [hV]; exact below2 _ _ _
 have hX : Bx V w.heap.size [.func (.func 88) #[] #[.pointer (some ⟨pg, 0, none⟩)]] := by rw [hV]; exact (Bx.new [.func (.func 88) #[] #[.pointer (some ⟨pg, 0, none⟩)]] _ rfl).alloc _
 have hY : Bx V (w.heap.size + 1) [.slice zo zs.length zc] := by rw [hV]; exact Bx.new [.slice zo zs.length zc] _ (by simp)
 have hs : V.heap.size = w.heap.size + 1 + 1 := by rw [hV]; simp
 have HV := hid hV;have HX := hid hX;have HY := hid hY;have HG := hid hG;have HZ := hid (hz.later hb);have HVV := hid hv;have HR := hid hR;have HS := hid hs;have HB := hid hb;have HZ0 := hid hz;clear hV hX hY hG hz hv hR hs hb;go_enter Tryz.func87, Tryz.ntmps87;go_wp2;rw [← HV.out]
 go_loopw [5] (fun u wr => ∃ (v : Value) (o l : List Int) (qo : Option Addr) (qc : Nat), v = u ∧ o.length + l.length = zs.length ∧ Hid (kI.Own (w.heap.size + 1 + 1) wr v o) ∧ Hid (Bx wr w.heap.size [.func (.func 88) #[] #[.pointer (some ⟨pg, 0, none⟩)]]) ∧ Hid (Bx wr (w.heap.size + 1) [.slice qo l.length qc]) ∧ Hid (kI.In wr.heap.size wr qo l) ∧ Hid (∀ x ∈ l, ∃ k : Nat, k < ts.length ∧ x = (k : Int)) ∧ Hid ((behindP (ts.map valNode) l.length o l).1 = R) ∧ Hid (0 < l.length → ∀ b off, qo = some ⟨b, off, none⟩ → v.ownBlock ≠ some b) ∧ Below w.heap.size w wr ∧ w.heap.size + 1 + 1 ≤ wr.heap.size) (fun u _ => zs.length - lenOf u)
 case atStart => exact ⟨.slice none 0 0, [], zs, zo, zc, rfl, by simp, Kind.Own.nil _ _ _, HX, HY, HZ, HVV, HR, fun _ b off _ h => by simp [Value.ownBlock] at h, HB.out, by have := HS.out; omega⟩
 case round =>
  obtain ⟨v, o, l, qo, qc, rfl, hol, hO, hX, hY, hZ, hV', hR', hSp, hB, hsz⟩ := hrel;clear HX HY HZ HVV HR HS HB HV;obtain ⟨go, gc, rfl⟩ := own_slice hO.out;have hG := hid (HG.out.later hB);have hcon := indexFuncI_any 121 #[.pointer (some ⟨w.heap.size + 1, 0, none⟩), .pointer (some ⟨w.heap.size, 0, none⟩)] Tryz.entersB1 qo qc l (fun b => !ledP (ts.map valNode) l b) wr (by omega) hZ.out (fun x W _ hW => behind1_is pg w.heap.size (w.heap.size + 1) ao cap ts qo qc l x W (by omega) hV'.out hF (hG.out.later hW) (hX.out.later hW) (hY.out.later hW) (hZ.out.later hW));have y0 := hY.out.c 0 rfl
  cases hp : l.findIdx? (fun b => !ledP (ts.map valNode) l b) with
  | none =>
   have hf : fidx (fun b => !ledP (ts.map valNode) l b) l = -1 := by rw [fidx, hp]
   rw [hf] at hcon;have HE : Hid (o = R) := by
    rw [Hid, ← hR'.out]
    cases l with
    | nil => rfl
    | cons x r => rw [List.length_cons, behindP, hp]
   clear hp hf;go_wp2_with (go_at_call 84; refine hcon.mono ?_; rintro e w1 ⟨rfl, hb1⟩; have hB1 : Below w.heap.size w w1 := hB.trans (hb1.mono hB.size); have O1 := hid (hO.out.below hb1); clear hb1);go_ret;obtain ⟨go', gc', e1, _, hFF⟩ := O1.out.fresh;obtain ⟨rfl, rfl⟩ : go = go' ∧ gc = gc' := by simp at e1; exact e1
   rw [← HE.out];exact ⟨⟨go, gc, rfl, hFF.wide (by omega) (Nat.le_refl _)⟩, hB1⟩
  | some k =>
   have hkl : k < l.length := by
    rw [List.findIdx?_eq_some_iff_getElem] at hp;exact hp.1
   have hf : fidx (fun b => !ledP (ts.map valNode) l b) l = (k : Int) := by rw [fidx, hp]
   rw [hf] at hcon;have HE : Hid ((behindP (ts.map valNode) (l.take k ++ l.drop (k + 1)).length (o ++ [el l k]) (l.take k ++ l.drop (k + 1))).1 = R) := by
    rw [Hid, ← hR'.out];have e1 : (l.take k ++ l.drop (k + 1)).length = l.length - 1 := by simp; omega
    obtain ⟨m, hm⟩ : ∃ m, l.length = m + 1 := ⟨l.length - 1, by omega⟩;rw [e1, hm, Nat.add_sub_cancel, behindP, hp]
   clear hp hf;obtain ⟨bq, oq, rfl, hbq, hcq⟩ := ints_at hZ.out hkl;have cq := hcq k hkl;obtain ⟨x, hx⟩ : ∃ x, x = el l k := ⟨_, rfl⟩;rw [← hx] at cq;have HX2 := hid hx;clear hx hcq;have hkl' : (k : Int) < (l.length : Int) := by omega
   obtain ⟨l2, hl2⟩ : ∃ l2, l2 = l.take k ++ l.drop (k + 1) := ⟨_, rfl⟩;obtain ⟨o2, ho2⟩ : ∃ o2, o2 = o ++ [x] := ⟨_, rfl⟩;have hlen2 : o2.length + l2.length = zs.length := by rw [hl2, ho2]; simp; omega
   have hleno : o2.length = o.length + 1 := by rw [ho2]; simp
   have HLO := hid (And.intro hlen2 hleno);rw [← hl2, ← HX2.out, ← ho2] at HE;have HL2 := hid hl2;have HO2 := hid ho2;clear hl2 ho2 hlen2 hleno;go_wp2_with (first
    | (go_at_call 84; refine hcon.mono ?_; rintro e w1 ⟨rfl, hb1⟩; have hB1 : Below w.heap.size w w1 := hB.trans (hb1.mono hB.size); have hs1 : wr.heap.size ≤ w1.heap.size := hb1.size; have O1 : Hid (kI.Own (w.heap.size + 1 + 1) (w1.alloc (.cells #[.int .i64 x] 3)) (.slice go o.length gc) o) := ((hO.out.below hb1).below (below1 _ _)); have X1 := hid ((hX.out.later hb1).later (below1 w1 (.cells #[.int .i64 x] 3))); have Y1 := hid ((hY.out.later hb1).later (below1 w1 (.cells #[.int .i64 x] 3))); have Z1 := hid ((hZ.out.later hb1).later (below1 w1 (.cells #[.int .i64 x] 3))); have HN : Hid (kI.In (w1.heap.size + 1) (w1.alloc (.cells #[.int .i64 x] 3)) (some ⟨w1.heap.size, 0, none⟩) [x]) := int_one (by omega) (by simp); have y1 := (hY.out.later hb1).c 0 rfl; have c1 := (hb1.cell (p := ⟨bq, oq + k, none⟩) hbq).trans cq; clear hb1 y0 cq)
    | (at_builtin; refine Kind.appN kI_ok (w1.alloc (.cells #[.int .i64 x] 3)) rfl (.tmp 15) (.tmp 20) rfl (w.heap.size + 1 + 1) (.slice go o.length gc) o rfl O1.out (by simp; omega) (some ⟨w1.heap.size, 0, none⟩) [x] 1 1 rfl rfl (by simp) _ HN.out (by simp; omega) ?_; intro v2 w2 hO2 hB2 hG2 hw2; rw [← HO2.out] at hO2; obtain ⟨g2, c2, rfl⟩ := own_slice hO2; have hBa : Below w.heap.size w w2 := (Below.allocS hB1 _).trans (hB2.mono (by omega)); have O2 := hid hO2; have X2 := hid (X1.out.below hB2 (by omega)); have Y2 := hid (Y1.out.below hB2 (by omega)); have Z2 := hid (in_grown hG2 Z1.out hSp.out); have y2 := Y2.out.c 0 rfl; have hs2 : w1.heap.size + 1 ≤ w2.heap.size := (by have := hB2.size; simpa using this); clear hO2 hB2 hG2 hw2))
   refine (queueOfI_any (some ⟨bq, oq, none⟩) qc l w2 (by omega) Z2.out).mono ?_;rintro e w3 ⟨⟨t3, rfl, hF3⟩, hb3⟩;have hB3 := hBa.trans (hb3.mono hBa.size);have O3 := hid (O2.out.below hb3);have X3 := hid (X2.out.later hb3);have Y3 := hid (Y2.out.later hb3);have hs3 := hb3.size;have F3 := hid hF3;clear hb3 hF3 y2;go_wp2_with fail;refine (withoutI_any t3 l.length l (k : Int) w3 (by omega) F3.out.in l2 (by rw [HL2.out]; exact (keepE_range l k hkl).symm)).mono ?_;rintro e w4 ⟨⟨g4, c4, rfl, hF4⟩, hb4⟩;have hB4 := hB3.trans (hb4.mono hB3.size);have O4 := hid (O3.out.below hb4);have X4 := hid (X3.out.later hb4);have Y4 := hid (Y3.out.later hb4);have hs4 := hb4.size;have F4 := hid hF4;obtain ⟨y4, yf4, _⟩ := Y4.out.x1;have hol2 := own_lt (g := bq) O2.out;clear hb4 hF4;have O5 := hid (O4.out.setBelow (a := ⟨w.heap.size + 1, 0, none⟩) (by simp) (.slice g4 l2.length c4));have X5 := hid (X4.out.other (a := ⟨w.heap.size + 1, 0, none⟩) (by simp) (.slice g4 l2.length c4));have Y5 := hid (Y4.out.set 0 (.slice g4 l2.length c4));have Z5 := hid ((F4.out.setBelow (a := ⟨w.heap.size + 1, 0, none⟩) (by simp only; omega) (.slice g4 l2.length c4)).in);have V5 : Hid (∀ x ∈ l2, ∃ k : Nat, k < ts.length ∧ x = (k : Int)) := fun y hy => hV'.out y (by
    rw [HL2.out] at hy
    rcases List.mem_append.1 hy with h | h
    ·exact List.mem_of_mem_take h
    ·exact List.mem_of_mem_drop h)
   have S5 : Hid (0 < l2.length → ∀ b off, g4 = some ⟨b, off, none⟩ → Value.ownBlock (.slice g2 o2.length c2) ≠ some b) := fun h0 b off e h => by
    have h1 := own_lt O3.out h
    rcases F4.out with h2 | ⟨g5, e5, _, ho5⟩
    ·rw [h2] at h0; simp at h0
    ·rw [e] at e5
     simp at e5
     have h3 := (owns_lt ho5).1
     omega
   have B5 : Below w.heap.size w (w4.setCell ⟨w.heap.size + 1, 0, none⟩ (.slice g4 l2.length c4)) := hB4.setCell (p := ⟨w.heap.size + 1, 0, none⟩) (by simp) _;clear HZ0;go_wp2;rename_i _ _ hKK;refine hKK _ _ ?_;go_wp2;go_roundw
   case rel => exact ⟨_, o2, l2, g4, c4, rfl, HLO.out.1, O5, X5, Y5, Z5, V5, HE, S5, B5, by simp [World.setCell]; omega⟩
   case measure => have := HLO.out; simp [lenOf]; omega
/-- The order of a graph, as far as it goes. -/
def orderP (gs : List PNode) : List Int := (behindP gs gs.length [] (numsI gs.length)).1
set_option maxHeartbeats 2000000 in
theorem orderIn_any (ao : Option Addr) (cap : Nat) (ts : List LNode) (w : World) (hl : ts.length ≤ 1048576) (hF : FitN ts) (hz : DIn dNode w.heap.size w ao ts) :
  Calls Tryz.prog 56 #[.slice ao ts.length cap] w fun e w' => AnsI w (orderP (ts.map valNode)) e w' := by
 obtain ⟨V, hV⟩ : ∃ V, V = w.alloc (.cells #[.slice ao ts.length cap] 23) := ⟨_, rfl⟩;have hb : Below w.heap.size w V := by rw [hV]; exact below1 _ _
 have hX : Bx V w.heap.size [.slice ao ts.length cap] := by rw [hV]; exact Bx.new [.slice ao ts.length cap] _ rfl
 have HG : Hid (GrIn V w.heap.size ao cap ts) := ⟨hX, hz.later dNode_ok hb⟩;have HV := hid hV;have HB := hid hb;clear hV hX hz hb;go_enter Tryz.func56, Tryz.ntmps56;go_wp2_with fail;rw [← HV.out];refine (numbersOf_any ao cap ts.length V hl).mono ?_;rintro e w1 ⟨⟨go, qc, rfl, hF1⟩, hb1⟩;have hB1 : Below w.heap.size w w1 := HB.out.trans (hb1.mono HB.out.size);have G1 := hid (HG.out.later hb1);have F1 := hid hF1;clear hb1 hF1;go_wp2_with fail;refine (eachBehind_any w.heap.size ao cap ts go qc (numsI ts.length) w1 (by rw [numsI_len]; exact hl) (fun x hx => numsI_mem hx) hF G1.out F1.out.in (orderP (ts.map valNode)) (by rw [orderP, numsI_len, List.length_map])).mono ?_;rintro e w2 ⟨⟨g2, c2, rfl, hF2⟩, hb2⟩;have hB2 := hB1.trans (hb2.mono hB1.size);have F2 := hid (hF2.wide (lo' := w.heap.size) (hi' := w2.heap.size) hB1.size (Nat.le_refl _));clear hb2 hF2;go_wp2;go_ret;exact ⟨⟨_, _, rfl, F2.out⟩, hB2⟩
end
end Go.Proofs.YtllmpinmbajpgaaGreatDoor
