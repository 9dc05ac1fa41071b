
/- What each node of a graph must keep to: the program's tests. No conditions but those written. The five tests over a graph; the numbers of its nodes. No conditions but those written. Queues without one place: what serves every kind. No conditions but those written. A queue of ints: its iterator, without one place. No conditions but those written. The order of a graph: the program. No conditions but those written. -/
import Derived.Test.YtdacedbfnlkghaaGreatDoorPXrQt
import Derived.Test.YtdacedbfnlkghaaGreatDoorPSiSk
import Derived.RangeFuncNested
import Derived.RangeFuncBound
import Derived.RangeFuncCalls
import Derived.RangeFuncLeaves
import Derived.RangeFuncBox
import Derived.Shelf.Abstract
import Derived.Shelf.RegionOpen
import Derived.OwnWalkIn
import Derived.TacticsInMore
import Derived.LoopNIn
import Derived.LoopIn
import Derived.Test.YtdacedbfnlkghaaGreatDoorPAoSh
namespace Go.Proofs.YtdacedbfnlkghaaGreatDoor
section
open Go.RowKit

/-- Two texts are one. -/
def sameT (a b : ByteArray) : Bool := a.toList == b.toList
/-- Texts that are not too long for any machine. -/
def FitN (ts : List LNode) : Prop := ∀ a ∈ ts, a.1.size ≤ 1048576 ∧ a.2.2.2.2.2.2.2.length ≤ 1048576
theorem Tryz.enters84 : ∀ args w, (callFunc 254 args).run Tryz.prog w = .ok (.enter 254 args) w := enters_of Tryz.func254 (by kernel_rfl) rfl
theorem Tryz.enters85 : ∀ args w, (callFunc 255 args).run Tryz.prog w = .ok (.enter 255 args) w := enters_of Tryz.func255 (by kernel_rfl) rfl
set_option maxHeartbeats 1000000 in
theorem hasName1_is (x : LNode) (p : Nat) (nm : ByteArray) (w : World) (hp : p < w.heap.size) (hc : w.cell? ⟨p, 0, none⟩ = some (.string nm)) :
  Calls Tryz.prog 254 #[nodeV x, .pointer (some ⟨p, 0, none⟩)] w fun e w' => e = .returned (.bool (sameT x.1 nm)) ∧ Below w.heap.size w w' := by
 obtain ⟨n2, kd, sa, sb, cp, ⟨nxo, nxc, nx⟩⟩ := x
 unfold nodeV
 dsimp only;go_enter Tryz.func254, Tryz.ntmps254;go_wp2;go_ret;exact ⟨rfl, below1 _ _⟩
set_option maxHeartbeats 1000000 in
theorem hasName_is (ao : Option Addr) (cap : Nat) (ts : List LNode) (nm : ByteArray) (w : World) (hl : ts.length ≤ 1048576) (hz : hNode.In w.heap.size w ao ts) :
  Calls Tryz.prog 227 #[.slice ao ts.length cap, .string nm] w fun e w' => e = .returned (.bool (ts.any fun x => sameT x.1 nm)) ∧ Below w.heap.size w w' := by
 obtain ⟨V, hV⟩ : ∃ V, V = w.alloc (.cells #[.string nm] 9) := ⟨_, rfl⟩;have hb : Below w.heap.size w V := by rw [hV]; exact below1 _ _
 have hX : Bx V w.heap.size [.string nm] := by rw [hV]; exact Bx.new [.string nm] _ rfl
 have hcon := containsFuncN_any 254 #[.pointer (some ⟨w.heap.size, 0, none⟩)] Tryz.enters84 ao cap ts (fun x => sameT x.1 nm) V hl (hz.later hb) (fun x W _ hW => hasName1_is x w.heap.size nm W (by have := hW.size; have := hX.size; omega) ((hX.later hW).c 0 rfl));have HV := hid hV;have HB := hid hb;clear hV hX hz hb;go_enter Tryz.func227, Tryz.ntmps227;go_wp2_with fail;rw [← HV.out];refine hcon.mono ?_;rintro e w1 ⟨rfl, hb1⟩;have hB1 : Below w.heap.size w w1 := HB.out.trans (hb1.mono HB.out.size);clear hb1;go_wp2;go_ret;exact ⟨rfl, hB1⟩
/-- What a node leads to is as it must be. -/
def noneI (m x : Int) : Bool := decide (x < 0) || decide (m ≤ x)
def goodNx (nx : List Int) (m : Int) : Bool := decide ((nx.length : Int) ≤ m) && (!nx.any (noneI m) && onceB nx)
set_option maxHeartbeats 1000000 in
theorem goodNext1_is (x m : Int) (p : Nat) (w : World) (hc : w.cell? ⟨p, 0, none⟩ = some (.int .i64 m)) :
  Calls Tryz.prog 255 #[.int .i64 x, .pointer (some ⟨p, 0, none⟩)] w fun e w' => e = .returned (.bool (noneI m x)) ∧ Below w.heap.size w w' := by
 by_cases h : x < 0
 ·have e : noneI m x = true := by simp [noneI, h]
  rw [e];go_enter Tryz.func255, Tryz.ntmps255;go_wp2;go_ret;exact ⟨rfl, Below.refl _ _⟩
 ·have e : noneI m x = decide (m ≤ x) := by simp [noneI, h]
  rw [e];go_enter Tryz.func255, Tryz.ntmps255;go_wp2;go_ret;exact ⟨rfl, Below.refl _ _⟩
set_option maxHeartbeats 2000000 in
theorem goodNext_is (ao : Option Addr) (cap : Nat) (nx : List Int) (m : Int) (w : World) (hl : nx.length ≤ 1048576) (hcap : nx.length ≤ cap) (hz : kI.In w.heap.size w ao nx) :
  Calls Tryz.prog 231 #[.slice ao nx.length cap, .int .i64 m] w fun e w' => e = .returned (.bool (goodNx nx m)) ∧ Below w.heap.size w w' := by
 obtain ⟨V, hV⟩ : ∃ V, V = w.alloc (.cells #[.int .i64 m] 3) := ⟨_, rfl⟩;have hb : Below w.heap.size w V := by rw [hV]; exact below1 _ _
 have hX : Bx V w.heap.size [.int .i64 m] := by rw [hV]; exact Bx.new [.int .i64 m] _ rfl
 have hcon := containsFuncI_any 255 #[.pointer (some ⟨w.heap.size, 0, none⟩)] Tryz.enters85 ao cap nx (noneI m) V hl (hz.later hb) (fun x W _ hW => goodNext1_is x m w.heap.size W ((hX.later hW).c 0 rfl));have c0 := hX.c 0 rfl;have hs := hX.size;have HV := hid hV;have HB := hid hb;have HZ := hid hz;clear hV hX hz hb
 by_cases h1 : (nx.length : Int) ≤ m
 ·cases h2 : nx.any (noneI m)
  ·rw [h2] at hcon;have e : goodNx nx m = onceB nx := by simp [goodNx, h1, h2]
   rw [e];clear e h2;go_enter Tryz.func231, Tryz.ntmps231;go_wp2_with fail;rw [← HV.out];refine hcon.mono ?_;rintro e w1 ⟨rfl, hb1⟩;have hB1 : Below w.heap.size w w1 := HB.out.trans (hb1.mono HB.out.size);clear hb1;go_wp2_with fail;refine (noneTwice_is w1.heap.size ao cap nx w1 (onceB nx) hl hcap (HZ.out.later hB1) rfl).mono ?_;rintro e w2 ⟨rfl, rfl⟩;go_wp2;go_ret;exact ⟨rfl, hB1⟩
  ·rw [h2] at hcon;have e : goodNx nx m = false := by simp [goodNx, h2]
   rw [e];clear e h2;go_enter Tryz.func231, Tryz.ntmps231;go_wp2_with fail;rw [← HV.out];refine hcon.mono ?_;rintro e w1 ⟨rfl, hb1⟩;have hB1 : Below w.heap.size w w1 := HB.out.trans (hb1.mono HB.out.size);clear hb1;go_wp2;go_ret;exact ⟨rfl, hB1⟩
 ·have e : goodNx nx m = false := by simp [goodNx, h1]
  rw [e];clear hcon e;go_enter Tryz.func231, Tryz.ntmps231;go_wp2;go_ret;exact ⟨rfl, by rw [← HV.out]; exact HB.out⟩
end
section
open Go.RowKit

/-- A graph that lies in memory: its nodes, and a box that holds it. -/
structure GrIn (W : World) (p : Nat) (ao : Option Addr) (cap : Nat) (ts : List LNode) : Prop where
 box : Bx W p [.slice ao ts.length cap]
 rows : DIn dNode W.heap.size W ao ts
theorem GrIn.later {W W' : World} {p : Nat} {ao : Option Addr} {cap : Nat} {ts : List LNode} (h : GrIn W p ao cap ts) (hb : Below W.heap.size W W') : GrIn W' p ao cap ts := ⟨h.box.later hb, h.rows.later dNode_ok hb⟩
/-- Rows whose room holds them. -/
def CapN (ts : List LNode) : Prop := ∀ a ∈ ts, a.2.2.2.2.2.2.2.length ≤ a.2.2.2.2.2.2.1
theorem el_val {ts : List LNode} {k : Nat} (hk : k < ts.length) : el (ts.map valNode) k = valNode (el ts k) := by simp [el, hk]
set_option maxRecDepth 10000 in
set_option maxHeartbeats 4000000 in
theorem rule1_is (p : Nat) (ao : Option Addr) (cap : Nat) (ts : List LNode) (k : Nat) (w : World) (hk : k < ts.length) (_hl : ts.length ≤ 1048576) (hF : FitN ts) (hG : GrIn w p ao cap ts) :
  Calls Tryz.prog 225 #[.int .i64 (k : Int), .pointer (some ⟨p, 0, none⟩)] w fun e w' => e = .returned (.bool (!nameB (el (ts.map valNode) k).1)) ∧ Below w.heap.size w w' := by
 have HG := hid hG;have hki : (k : Int) < (ts.length : Int) := by omega
 clear hG;obtain ⟨b, off, rfl, hb, hc⟩ := hNode_at HG.out.rows.1 hk;have d1 := (hc k hk).1;have d2 := (hc k hk).2.1;have d3 := (hc k hk).2.2.1;have d4 := (hc k hk).2.2.2.1;have d5 := (hc k hk).2.2.2.2.1;have d6 := (hc k hk).2.2.2.2.2;have hfk := hF _ (el_mem hk);have hev := el_val hk;have hin := HG.out.rows.2 k hk;obtain ⟨⟨nm, kd, sa, sb, cp, ⟨nxo, nxc, nx⟩⟩, ex⟩ : ∃ v, v = el ts k := ⟨_, rfl⟩;rw [← ex] at d1 d2 d3 d4 d5 d6 hfk hev hin;have HE : Hid (el (ts.map valNode) k = (nm, kd, sa, sb, cp, nx)) := hev;have c0 := HG.out.box.c 0 rfl;clear hc hev;dsimp only at d1 d2 d3 d4 d5 d6 hfk;have E1 : Hid ((!nameB (el (ts.map valNode) k).1) = !nameB nm) := by rw [Hid, HE.out]
 go_enter Tryz.func225, Tryz.ntmps225;go_wp2_with fail;refine (isName_is nm w (by omega)).mono ?_;rintro e w1 ⟨rfl, hb1⟩;go_wp2;go_ret;exact ⟨ret_bool E1.out.symm, hb1⟩
set_option maxRecDepth 10000 in
set_option maxHeartbeats 4000000 in
theorem rule3_is (p : Nat) (ao : Option Addr) (cap : Nat) (ts : List LNode) (k : Nat) (w : World) (hk : k < ts.length) (_hl : ts.length ≤ 1048576) (hF : FitN ts) (hG : GrIn w p ao cap ts) :
  Calls Tryz.prog 228 #[.int .i64 (k : Int), .pointer (some ⟨p, 0, none⟩)] w fun e w' => e = .returned (.bool (!goodSt (el (ts.map valNode) k).2.1 (el (ts.map valNode) k).2.2.1 (el (ts.map valNode) k).2.2.2.1)) ∧ Below w.heap.size w w' := by
 have HG := hid hG;have hki : (k : Int) < (ts.length : Int) := by omega
 clear hG;obtain ⟨b, off, rfl, hb, hc⟩ := hNode_at HG.out.rows.1 hk;have d1 := (hc k hk).1;have d2 := (hc k hk).2.1;have d3 := (hc k hk).2.2.1;have d4 := (hc k hk).2.2.2.1;have d5 := (hc k hk).2.2.2.2.1;have d6 := (hc k hk).2.2.2.2.2;have hfk := hF _ (el_mem hk);have hev := el_val hk;have hin := HG.out.rows.2 k hk;obtain ⟨⟨nm, kd, sa, sb, cp, ⟨nxo, nxc, nx⟩⟩, ex⟩ : ∃ v, v = el ts k := ⟨_, rfl⟩;rw [← ex] at d1 d2 d3 d4 d5 d6 hfk hev hin;have HE : Hid (el (ts.map valNode) k = (nm, kd, sa, sb, cp, nx)) := hev;have c0 := HG.out.box.c 0 rfl;clear hc hev;dsimp only at d1 d2 d3 d4 d5 d6 hfk;have E1 : Hid ((!goodSt (el (ts.map valNode) k).2.1 (el (ts.map valNode) k).2.2.1 (el (ts.map valNode) k).2.2.2.1) = !goodSt kd sa sb) := by rw [Hid, HE.out]
 go_enter Tryz.func228, Tryz.ntmps228;go_wp2_with fail;refine (implGood_is kd sa sb w (goodSt kd sa sb) rfl).mono ?_;rintro e w1 ⟨rfl, hb1⟩;go_wp2;go_ret;exact ⟨ret_bool E1.out.symm, hb1⟩
set_option maxRecDepth 10000 in
set_option maxHeartbeats 4000000 in
theorem rule4_is (p : Nat) (ao : Option Addr) (cap : Nat) (ts : List LNode) (k : Nat) (w : World) (hk : k < ts.length) (_hl : ts.length ≤ 1048576) (hF : FitN ts) (hG : GrIn w p ao cap ts) :
  Calls Tryz.prog 229 #[.int .i64 (k : Int), .pointer (some ⟨p, 0, none⟩)] w fun e w' => e = .returned (.bool (decide ((el (ts.map valNode) k).2.2.2.2.1 < 3) || decide (8 < (el (ts.map valNode) k).2.2.2.2.1))) ∧ Below w.heap.size w w' := by
 have HG := hid hG;have hki : (k : Int) < (ts.length : Int) := by omega
 clear hG;obtain ⟨b, off, rfl, hb, hc⟩ := hNode_at HG.out.rows.1 hk;have d1 := (hc k hk).1;have d2 := (hc k hk).2.1;have d3 := (hc k hk).2.2.1;have d4 := (hc k hk).2.2.2.1;have d5 := (hc k hk).2.2.2.2.1;have d6 := (hc k hk).2.2.2.2.2;have hfk := hF _ (el_mem hk);have hev := el_val hk;have hin := HG.out.rows.2 k hk;obtain ⟨⟨nm, kd, sa, sb, cp, ⟨nxo, nxc, nx⟩⟩, ex⟩ : ∃ v, v = el ts k := ⟨_, rfl⟩;rw [← ex] at d1 d2 d3 d4 d5 d6 hfk hev hin;have HE : Hid (el (ts.map valNode) k = (nm, kd, sa, sb, cp, nx)) := hev;have c0 := HG.out.box.c 0 rfl;clear hc hev;dsimp only at d1 d2 d3 d4 d5 d6 hfk;have E1 : Hid ((decide ((el (ts.map valNode) k).2.2.2.2.1 < 3) || decide (8 < (el (ts.map valNode) k).2.2.2.2.1)) = (decide (cp < 3) || decide (8 < cp))) := by rw [Hid, HE.out]
 by_cases h : cp < 3
 ·go_enter Tryz.func229, Tryz.ntmps229;go_wp2;go_ret;exact ⟨ret_bool (by rw [E1.out]; simp [h]), Below.refl _ _⟩
 ·go_enter Tryz.func229, Tryz.ntmps229;go_wp2;go_ret;exact ⟨ret_bool (by rw [E1.out, decide_eq_false (p := cp < 3) (by omega), Bool.false_or]), Below.refl _ _⟩
set_option maxRecDepth 10000 in
set_option maxHeartbeats 4000000 in
theorem rule2_is (p : Nat) (ao : Option Addr) (cap : Nat) (ts : List LNode) (k : Nat) (w : World) (hk : k < ts.length) (_hl : ts.length ≤ 1048576) (hF : FitN ts) (hG : GrIn w p ao cap ts) (hcap : ts.length ≤ cap) :
  Calls Tryz.prog 226 #[.int .i64 (k : Int), .pointer (some ⟨p, 0, none⟩)] w fun e w' => e = .returned (.bool (((ts.map valNode).take k).any fun y => sameT y.1 (el (ts.map valNode) k).1)) ∧ Below w.heap.size w w' := by
 have HG := hid hG;have hki : (k : Int) < (ts.length : Int) := by omega
 clear hG;obtain ⟨b, off, rfl, hb, hc⟩ := hNode_at HG.out.rows.1 hk;have d1 := (hc k hk).1;have d2 := (hc k hk).2.1;have d3 := (hc k hk).2.2.1;have d4 := (hc k hk).2.2.2.1;have d5 := (hc k hk).2.2.2.2.1;have d6 := (hc k hk).2.2.2.2.2;have hfk := hF _ (el_mem hk);have hev := el_val hk;have hin := HG.out.rows.2 k hk;obtain ⟨⟨nm, kd, sa, sb, cp, ⟨nxo, nxc, nx⟩⟩, ex⟩ : ∃ v, v = el ts k := ⟨_, rfl⟩;rw [← ex] at d1 d2 d3 d4 d5 d6 hfk hev hin;have HE : Hid (el (ts.map valNode) k = (nm, kd, sa, sb, cp, nx)) := hev;have c0 := HG.out.box.c 0 rfl;clear hc hev;dsimp only at d1 d2 d3 d4 d5 d6 hfk;have E1 : Hid (((ts.map valNode).take k).any (fun y => sameT y.1 (el (ts.map valNode) k).1) = (ts.take k).any (fun y => sameT y.1 nm)) := by
  rw [Hid, HE.out, ← List.map_take, List.any_map]; rfl
 have hkc : (k : Int) ≤ (cap : Int) := by omega
 have HN := hid (HG.out.rows.1.take k);have hlk : (ts.take k).length = k := by simp; omega
 have hcon := hasName_is (some ⟨b, off, none⟩) cap (ts.take k) nm;rw [hlk] at hcon;have mixed : Tryz.prog.follows .mixedOrders = true := by kernel_rfl
 have hNE := later_some w;have q1 := Later.cell d1 hb; have q0 := Later.cell c0 HG.out.box.size
 clear d1 c0;go_enter Tryz.func226, Tryz.ntmps226;go_wp2_with fail;refine wp_region_later w (by kernel_rfl) (by kernel_rfl) (Below.refl _ _) ?_
 repeat (go_big_quiet_step (first | (go_at_call 227; exact Calls.later (hcon _ (by omega) (by exact (HN.out.later (Later.h _)))))))
 refine wpQuiet_nil ?_;rintro w4 ⟨⟨w5, hb4⟩, hw5⟩;obtain rfl : w4 = w5 := hw5;clear q1 q0 hNE;go_wp2;go_ret;exact ⟨ret_bool E1.out.symm, hb4⟩
set_option maxRecDepth 10000 in
set_option maxHeartbeats 4000000 in
theorem rule5_is (p : Nat) (ao : Option Addr) (cap : Nat) (ts : List LNode) (k : Nat) (w : World) (hk : k < ts.length) (_hl : ts.length ≤ 1048576) (hF : FitN ts) (hG : GrIn w p ao cap ts) (hC : CapN ts) :
  Calls Tryz.prog 230 #[.int .i64 (k : Int), .pointer (some ⟨p, 0, none⟩)] w fun e w' => e = .returned (.bool (!goodNx (el (ts.map valNode) k).2.2.2.2.2 (ts.map valNode).length)) ∧ Below w.heap.size w w' := by
 have HG := hid hG;have hki : (k : Int) < (ts.length : Int) := by omega
 clear hG;obtain ⟨b, off, rfl, hb, hc⟩ := hNode_at HG.out.rows.1 hk;have d1 := (hc k hk).1;have d2 := (hc k hk).2.1;have d3 := (hc k hk).2.2.1;have d4 := (hc k hk).2.2.2.1;have d5 := (hc k hk).2.2.2.2.1;have d6 := (hc k hk).2.2.2.2.2;have hfk := hF _ (el_mem hk);have hev := el_val hk;have hin := HG.out.rows.2 k hk;obtain ⟨⟨nm, kd, sa, sb, cp, ⟨nxo, nxc, nx⟩⟩, ex⟩ : ∃ v, v = el ts k := ⟨_, rfl⟩;rw [← ex] at d1 d2 d3 d4 d5 d6 hfk hev hin;have HE : Hid (el (ts.map valNode) k = (nm, kd, sa, sb, cp, nx)) := hev;have c0 := HG.out.box.c 0 rfl;clear hc hev;dsimp only at d1 d2 d3 d4 d5 d6 hfk;have E1 : Hid ((!goodNx (el (ts.map valNode) k).2.2.2.2.2 (ts.map valNode).length) = !goodNx nx ts.length) := by rw [Hid, HE.out, List.length_map]
 have HI : Hid (kI.In w.heap.size w nxo nx) := hin;have hcx := hC _ (el_mem hk);rw [← ex] at hcx;dsimp only at hcx;have hNE := later_some w;have q6 := Later.cell d6 hb; have q0 := Later.cell c0 HG.out.box.size
 clear d6 c0 d1 d2 d3 d4 d5;go_enter Tryz.func230, Tryz.ntmps230;go_wp2_with fail;refine wp_region_later w (by kernel_rfl) (by kernel_rfl) (Below.refl _ _) ?_
 repeat (go_big_quiet_step (first | (go_at_call 231; exact Calls.later (goodNext_is nxo nxc nx (ts.length : Int) _ hfk.2 hcx (by exact (HI.out.later (Later.h _)))))))
 refine wpQuiet_nil ?_;rintro w4 ⟨⟨w5, hb4⟩, hw5⟩;obtain rfl : w4 = w5 := hw5;clear q6 q0 hNE;go_wp2;go_ret;exact ⟨ret_bool E1.out.symm, hb4⟩
end
section
open Go.RowKit Go.Shelf

/-- The block b lies as it lay. -/
def SameB (b : Nat) (W W' : World) : Prop := W'.heap[b]? = W.heap[b]?
theorem SameB.cell {b : Nat} {W W' : World} (h : SameB b W W') (o : Nat) : W'.cell? ⟨b, o, none⟩ = W.cell? ⟨b, o, none⟩ := World.cell?_of_block (w := W) (a := ⟨b, o, none⟩) h
theorem SameB.trans {b : Nat} {A B C : World} (h : SameB b A B) (k : SameB b B C) : SameB b A C := Eq.trans k h
theorem sameB_put {b : Nat} {w : World} (hb : b < w.heap.size) (W : World) (l : Nat) (o o' : Obj) (hl : w.heap.size ≤ l) (_ : W.heap[l]? = some o) (_ : o.isCells = false) (_ : o.isWalk = false) : SameB b W (W.putObj l o') :=
 World.putObj_heap_other (by omega)
theorem sameB_set {g : Nat} {W : World} {a : Addr} {u : Value} (h : g ≠ a.block) : SameB g W (W.setCell a u) := Below.heap_setCell W a u g h
section
variable {α : Type} [Inhabited α]
/-- Of what came the elements whose place is not pl. -/
def keepE (ts : List α) (pl : Int) (pre : List Nat) : List α := (pre.filter (fun k : Nat => (k : Int) != pl)).map (el ts)
theorem keepE_snoc (ts : List α) (pl : Int) (pre : List Nat) (x : Nat) : keepE ts pl (pre ++ [x]) = if (x : Int) = pl then keepE ts pl pre else keepE ts pl pre ++ [el ts x] := by
 rw [keepE, List.filter_append]
 by_cases e : (x : Int) = pl <;> simp [keepE, e]
theorem keepE_len (ts : List α) (pl : Int) (pre : List Nat) : (keepE ts pl pre).length ≤ pre.length := by
 rw [keepE, List.length_map]; exact List.length_filter_le _ _
theorem keepE_range (ts : List α) (k : Nat) (hk : k < ts.length) : keepE ts (k : Int) (List.range ts.length) = ts.take k ++ ts.drop (k + 1) := by
 obtain ⟨m, hm⟩ : ∃ m, ts.length = k + (1 + m) := ⟨ts.length - k - 1, by omega⟩;have e1 : (List.range k).filter (fun j : Nat => (j : Int) != (k : Int)) = List.range k := by
  rw [List.filter_eq_self]; intro j hj; have := List.mem_range.1 hj; simp; omega
 have e2 : ((List.range m).map (fun i => k + (1 + i))).filter (fun j : Nat => (j : Int) != (k : Int)) = (List.range m).map (fun i => k + (1 + i)) := by
  rw [List.filter_eq_self]; intro j hj
  obtain ⟨i, _, rfl⟩ := List.mem_map.1 hj
  simp; omega
 rw [hm, List.range_add, List.range_add, keepE];simp only [List.map_append, List.map_map, List.filter_append, Function.comp_def];rw [e1, e2];have e3 : (List.map (fun x => k + x) (List.range 1)).filter (fun j : Nat => (j : Int) != (k : Int)) = [] := by simp [List.range_succ]
 rw [e3, List.map_nil, List.nil_append]
 congr 1
 ·apply List.ext_getElem?
  intro i
  by_cases hi : i < k
  ·have : i < ts.length := by omega
   simp [hi, this, el]
  ·rw [List.getElem?_eq_none (by simp; omega), List.getElem?_eq_none (by simp; omega)]
 ·apply List.ext_getElem?
  intro i
  by_cases hi : i < m
  ·have h1 : k + (1 + i) < ts.length := by omega
   have h2 : k + 1 + i < ts.length := by omega
   simp only [List.map_map, List.getElem?_map, List.getElem?_drop, List.getElem?_range hi, Option.map_some, Function.comp_def, el];rw [show k + 1 + i = k + (1 + i) from by omega]
   simp [h1]
  ·rw [List.getElem?_eq_none (by simp; omega), List.getElem?_eq_none (by simp; omega)]
end
theorem owns_kept {w w' : World} {base : Nat} {e : TypeId} {size : Nat} {v : Value} {n : Nat} {xs : List Value} {row : Option Nat} (h : w.ownsRow base e size v n xs) (hg : w.grownBy w' row) (hr : ∀ r, row = some r → ∃ o : Obj, w.heap[r]? = some o ∧ o.isCells = false) : w'.ownsRow base e size v n xs := by
 obtain ⟨h1, h2⟩ := h;refine ⟨h1, ?_⟩
 rcases h2 with h2 | ⟨g, cap, cur, hv, hb, hh, r⟩
 ·exact Or.inl h2
 ·refine Or.inr ⟨g, cap, cur, hv, hb, ?_, r⟩;rw [hg.block g (Array.getElem?_eq_some_iff.1 hh).1 (fun e => ?_)]
  ·exact hh
  ·obtain ⟨o, ho, hc⟩ := hr g e.symm;rw [hh] at ho; cases ho; cases hc
theorem Kind.Fresh.kept {α : Type} {K : Kind α} {lo hi : Nat} {W W' : World} {to : Option Addr} {tc : Nat} {ts : List α} {row : Option Nat} (h : K.Fresh lo hi W to tc ts) (hg : W.grownBy W' row) (hr : ∀ r, row = some r → ∃ o : Obj, W.heap[r]? = some o ∧ o.isCells = false) : K.Fresh lo hi W' to tc ts := by
 rcases h with h | ⟨g, e, hl, ho⟩
 ·exact .inl h
 ·exact .inr ⟨g, e, hl, owns_kept ho hg hr⟩
theorem own_cells {lo ty sz : Nat} {W : World} {v : Value} {n : Nat} {xs : List Value} (h : W.ownsRow lo ty sz v n xs) : ∀ (j : Nat) (o : Obj), v.ownBlock = some j → W.heap[j]? = some o → o.isCells = true := by
 rcases h.2 with ⟨e, _⟩ | ⟨g, cap, cur, e, hb, hh, _⟩
 ·subst e;exact fun j o h => by simp [Value.ownBlock] at h
 ·subst e;refine fun j o h ho => ?_
  simp [Value.ownBlock] at h
  subst h;rw [hh] at ho; cases ho; rfl
end
section
open Go.RowKit Go.Shelf

attribute [local go_sem] Oper.semAt_some

/-- An element's value. -/
def tvI (t : Int) : Value := .int .i64 t
set_option maxRecDepth 100000 in
set_option maxHeartbeats 2000000 in
theorem all1I_in (F : Fence) (n : Nat) (hAll : F.fn 272) (hro : F.round = none) (hn : 1 ≤ n) (l Bs b off len cap : Nat) (ts : List (Int)) (hreach : len ≤ 1048576) (J Jx : List Nat → World → Prop) (W : World) (_ : AbidesFrom W.heap.size J)
  (hY : ∀ (pre : List Nat) (x : Nat) (W : World), J pre W → pre.length < len → YieldAt F (n - 1) Tryz.prog l #[.int .i64 (x : Int), tvI (el ts x)] W fun e W' =>
   (e = .returned (.bool true) ∧ J (pre ++ [x]) W' ∧ SameB b W W') ∨ (e = .returned (.bool false) ∧ Jx (pre ++ [x]) W'))
  (hBs : W.cell? ⟨Bs, 0, none⟩ = some (.slice (some ⟨b, off, none⟩) len cap)) (hc : ∀ j, j < len → W.cell? ⟨b, off + j, none⟩ = some (.int .i64 (el ts j))) (h0 : J [] W) :
  CallsIn F n Tryz.prog 272 #[.func (.yield l) #[] #[], .pointer (some ⟨Bs, 0, none⟩)] W fun e W' => (∃ v, e = .returned v) ∧
   ((∃ ys, ys = List.range len ∧ J ys W') ∨ (∃ pre, (∃ k, k ≤ len ∧ pre = List.range k) ∧ Jx pre W')) := by
 refine callsIn_of_wp Tryz.func272 rfl hAll ?_ hro;simp only [Tryz.ntmps272, List.size_toArray, List.length_cons, List.length_nil, Nat.reduceAdd, Nat.reduceSub, Array.replicate_succ, Array.replicate_zero, List.push_toArray, List.append_toArray, List.nil_append, List.cons_append]
 gi_wp2
 gi_loopw [8] (fun i wr => ∃ k : Nat, k ≤ len ∧ i = .int .i64 k ∧ J (List.range k) wr ∧ Hid (SameB b W wr))
  (fun i _ => len - (intOf i).toNat)
 case atStart => exact ⟨0, Nat.zero_le _, rfl, h0, rfl⟩
 case round =>
  obtain ⟨k, hk, rfl, hJs, hnx⟩ := hrel
  by_cases hlt : k < len
  ·have c1 := hc k hlt;have d1 := (hnx.out.cell (off + k)).trans c1;obtain ⟨x1, e1⟩ : ∃ x, x = (el ts k) := ⟨_, rfl⟩;have hJa := hJs;obtain ⟨fn, tmps, assign, body, hy, hR⟩ := hY _ k _ hJa (by rw [List.length_range]; exact hlt);simp only [tvI, ← e1] at hy;rw [← e1] at d1;clear c1 hc e1
   gi_wp2
   refine hR.mono ?_;rintro e W3 (⟨rfl, hJ3, hk3⟩ | ⟨rfl, hJx3⟩)
   ·have hk4 : SameB b wr W3 := hk3
    gi_wp2
    go_roundw
    case rel => exact ⟨k + 1, by omega, by simp, by rw [List.range_succ]; exact hJ3, hnx.out.trans hk4⟩
    case measure => simp [intOf]; omega
   ·gi_wp2
    refine bodyPost_ret (results_none rfl _ _ _) rfl ?_;exact ⟨⟨_, rfl⟩, .inr ⟨_, ⟨k + 1, by omega, List.range_succ.symm⟩, hJx3⟩⟩
  ·obtain rfl : k = len := by omega
   gi_wp2
   go_end0
   exact ⟨⟨_, rfl⟩, .inl ⟨_, rfl, hJs⟩⟩
set_option maxRecDepth 100000 in
set_option maxHeartbeats 1000000 in
theorem all1I_nil_in (F : Fence) (n : Nat) (hAll : F.fn 272) (hro : F.round = none) (l Bs : Nat) (ao : Option Addr) (cap : Nat) (J : List Nat → World → Prop) (W : World) (hBs : W.cell? ⟨Bs, 0, none⟩ = some (.slice ao 0 cap)) (h0 : J [] W) :
  CallsIn F n Tryz.prog 272 #[.func (.yield l) #[] #[], .pointer (some ⟨Bs, 0, none⟩)] W fun e W' => (∃ v, e = .returned v) ∧ J [] W' := by
 refine callsIn_of_wp Tryz.func272 rfl hAll ?_ hro;simp only [Tryz.ntmps272, List.size_toArray, List.length_cons, List.length_nil, Nat.reduceAdd, Nat.reduceSub, Array.replicate_succ, Array.replicate_zero, List.push_toArray, List.append_toArray, List.nil_append, List.cons_append]
 gi_wp2
 gi_loopw [8] (fun i wr => i = .int .i64 0 ∧ J [] wr) (fun _ _ => 0)
 case atStart => exact ⟨rfl, h0⟩
 case round =>
  obtain ⟨rfl, hJs⟩ := hrel
  gi_wp2
  go_end0
  exact ⟨⟨_, rfl⟩, hJs⟩
/-- The queue's iterator hands out (0, ts[0]), (1, ts[1]), ..: all, or the first k of them. -/
theorem allI_stops (F : Fence) (n : Nat) (hAll : F.fn 272) (hro : F.round = none) (hn : 1 ≤ n) (Bs b : Nat) (ao : Option Addr) (cap : Nat) (ts : List (Int)) (hreach : ts.length ≤ 1048576) (w : World) (hBs : Bs < w.heap.size)
  (hc : w.cell? ⟨Bs, 0, none⟩ = some (.slice ao ts.length cap)) (hI : ts = [] ∨ ∃ off, ao = some ⟨b, off, none⟩ ∧ b < w.heap.size ∧ ∀ j, j < ts.length → w.cell? ⟨b, off + j, none⟩ = some (.int .i64 (el ts j))) :
  SeqStopsK F n Tryz.prog 272 #[.pointer (some ⟨Bs, 0, none⟩)] (fun x : Nat => #[Value.int .i64 (x : Int), tvI (el ts x)]) (SameB b) (fun ys => ys = List.range ts.length)
   (fun pre => ∃ k, k ≤ ts.length ∧ pre = List.range k) ts.length w := fun l J Jx W hW hJ _ hY h0 => by
 have hc' := (hW.cell (p := ⟨Bs, 0, none⟩) hBs).trans hc
 rcases hI with rfl | ⟨off, rfl, hb, hcs⟩
 ·exact (all1I_nil_in F n hAll hro l Bs ao cap J W hc' h0).mono fun e W' ⟨he, hj⟩ => ⟨he, .inl ⟨_, rfl, hj⟩⟩
 ·exact all1I_in F n hAll hro hn l Bs b off ts.length cap ts hreach J Jx W hJ hY hc' (fun j hj => (hW.cell (p := ⟨b, off + j, none⟩) hb).trans (hcs j hj)) h0
set_option maxHeartbeats 1000000 in
theorem allI_any (v : Value) (hv : ∃ a n c, v = .slice a n c) (w : World) :
  Calls Tryz.prog 258 #[.agg #[v]] w fun e w' => e = .returned (.func (.func 272) #[] #[.pointer (some ⟨w.heap.size, 0, none⟩)]) ∧ w' = w.alloc (.cells #[v] 268) := by
 obtain ⟨a, n, c, rfl⟩ := hv;go_enter Tryz.func258, Tryz.ntmps258;go_wp2;go_ret;exact ⟨rfl, rfl⟩
/-- Between two rounds: the box holds a row of its own with what is kept. -/
def DInvI (B : Nat) (ts : List (Int)) (pl : Int) (g : Nat) (pre : List Nat) (W : World) : Prop :=
 W.cell? ⟨B + 1, 0, none⟩ = some (.int .i64 pl) ∧ (W.cell? ⟨B + 1 + 1, 0, none⟩ = some (.slice none 0 0) ∧ W.frozen? ⟨B + 1 + 1, 0, none⟩ = false) ∧ (∃ v, W.cell? ⟨B + 1 + 1 + 1, 0, none⟩ = some v ∧ kI.Own (B + 1 + 1 + 1 + 1) W v (keepE ts pl pre)) ∧ W.frozen? ⟨B + 1 + 1 + 1, 0, none⟩ = false ∧ g < W.heap.size
theorem DInvI.kept {B : Nat} {ts : List (Int)} {pl : Int} {g : Nat} {pre : List Nat} {W W' : World} {row : Option Nat} (h : DInvI B ts pl g pre W) (hg : W.grownBy W' row) (hr : ∀ r, row = some r → ∃ o : Obj, W.heap[r]? = some o ∧ o.isCells = false) : DInvI B ts pl g pre W' := by
 obtain ⟨h2, ⟨h3, h4⟩, ⟨v, h5, h6⟩, h7, h8⟩ := h;exact ⟨cell_kept h2 hg hr, ⟨cell_kept h3 hg hr, (frozen_kept h3 hg hr).trans h4⟩, ⟨v, cell_kept h5 hg hr, owns_kept h6 hg hr⟩, (frozen_kept h5 hg hr).trans h7, Nat.lt_of_lt_of_le h8 hg.size⟩
set_option maxRecDepth 100000 in
set_option maxHeartbeats 4000000 in
theorem withoutI_any (ao : Option Addr) (cap : Nat) (ts : List (Int)) (pl : Int) (w : World) (hm : ts.length ≤ 1048576) (hq : kI.In w.heap.size w ao ts) (R : List (Int)) (hR : R = keepE ts pl (List.range ts.length)) :
  Calls Tryz.prog 235 #[.agg #[.slice ao ts.length cap], .int .i64 pl] w fun e w' => (∃ go qc, e = .returned (.agg #[.slice go R.length qc]) ∧ kI.Fresh w.heap.size w'.heap.size w' go qc R) ∧ Below w.heap.size w w' := by
 have HR : Hid (R = keepE ts pl (List.range ts.length)) := hR;clear hR;refine (callsIn_wide (n := 4)).1 ?_;have hro : Fence.wide.round = none := rfl;refine callsIn_of_wp_marks Tryz.func235 rfl trivial ?_ hro;simp only [Tryz.ntmps235, List.size_toArray, List.length_cons, List.length_nil, Nat.reduceAdd, Nat.reduceSub, Array.replicate_succ, Array.replicate_zero, List.push_toArray, List.append_toArray, List.nil_append, List.cons_append]
 gi_wp2_with fail
 refine ⟨trivial, ?_⟩;refine (callsIn_wide.2 (allI_any _ ⟨_, _, _, rfl⟩ _)).mono ?_;rintro e w2 ⟨rfl, rfl⟩
 gi_wp2_with fail
 obtain ⟨g, hgs, hg⟩ : ∃ g, g ≤ w.heap.size ∧ (ts = [] ∨ ∃ off, ao = some ⟨g, off, none⟩ ∧ g < w.heap.size ∧ ∀ j, j < ts.length → w.cell? ⟨g, off + j, none⟩ = some (.int .i64 (el ts j))) := by
  rcases Nat.eq_zero_or_pos ts.length with h | h
  ·exact ⟨0, Nat.zero_le _, .inl (List.length_eq_zero_iff.1 h)⟩
  ·obtain ⟨b, off, e, hb, hc⟩ := ints_at hq h;exact ⟨b, Nat.le_of_lt hb, .inr ⟨off, e, hb, hc⟩⟩
 obtain ⟨W0, hW0⟩ : ∃ W0, W0 = ((((w.alloc (Obj.cells #[Value.slice ao ts.length cap] 268)).alloc (Obj.cells #[Value.int IntKind.i64 pl] 3)).alloc (Obj.cells #[Value.slice none 0 0] 268)).alloc (Obj.cells #[Value.slice none 0 0] 25)).alloc (Obj.cells #[Value.slice ao ts.length cap] 268) := ⟨_, rfl⟩;rw [← hW0];have hBW : Below w.heap.size w W0 := by rw [hW0]; exact (((below3 w _ _ _).alloc (by simp; omega) _).alloc (by simp; omega) _)
 have hsW : W0.heap.size = w.heap.size + 1 + 1 + 1 + 1 + 1 := by rw [hW0]; simp
 have cW : W0.cell? ⟨w.heap.size + 1 + 1 + 1 + 1, 0, none⟩ = some (.slice ao ts.length cap) := by rw [hW0]; simp [go_sem]
 have b0 : W0.cell? ⟨w.heap.size + 1, 0, none⟩ = some (.int .i64 pl) := by rw [hW0]; simp [go_sem]
 have r0 : W0.cell? ⟨w.heap.size + 1 + 1, 0, none⟩ = some (.slice none 0 0) := by rw [hW0]; simp [go_sem]
 have r1 : W0.frozen? ⟨w.heap.size + 1 + 1, 0, none⟩ = false := by rw [hW0]; simp [go_sem]
 have r2 : W0.cell? ⟨w.heap.size + 1 + 1 + 1, 0, none⟩ = some (.slice none 0 0) := by rw [hW0]; simp [go_sem]
 have r3 : W0.frozen? ⟨w.heap.size + 1 + 1 + 1, 0, none⟩ = false := by rw [hW0]; simp [go_sem]
 clear hW0;have hq0 : ts = [] ∨ ∃ off, ao = some ⟨g, off, none⟩ ∧ g < W0.heap.size ∧ ∀ j, j < ts.length → W0.cell? ⟨g, off + j, none⟩ = some (.int .i64 (el ts j)) := by
  rcases hg with h | ⟨off, h1, h3, h4⟩
  ·exact .inl h
  ·exact .inr ⟨off, h1, by omega, fun j hj => (hBW.cell (p := ⟨g, off + j, none⟩) h3).trans (h4 j hj)⟩
 have hgW : g < W0.heap.size := by omega
 have hinv0 : DInvI w.heap.size ts pl g [] W0 := ⟨b0, ⟨r0, r1⟩, ⟨.slice none 0 0, r2, Kind.Own.nil _ _ _⟩, r3, hgW⟩;clear b0 r0 r1 r2 r3 hg;obtain ⟨i0, hi, hz0, hz1, hz2⟩ := info_parts Tryz.info3;refine wpIn_rangeFunc_ownG hro (by omega) (gf := 272) (lb := #[.pointer (some ⟨w.heap.size + 1 + 1 + 1 + 1, 0, none⟩)]) rfl trivial (enters_of Tryz.func272 (by kernel_rfl) rfl)
  (allI_stops Fence.wide (4 - 1) trivial hro (by omega) (w.heap.size + 1 + 1 + 1 + 1) g ao cap ts (by omega) W0 (by omega) cW hq0) SameB.trans (sameB_put hgW) (Below.refl _ _) (fun _ => rfl)
  (fun pre W => (pre.length ≤ ts.length ∧ DInvI w.heap.size ts pl g pre W) ∧ Below w.heap.size w W)
  (fun _ _ _ => False)
  (OwnFrom.and (Own.from (fun s A B row hs hg hr => ⟨hs.1, hs.2.kept hg hr⟩) _) (ownFrom_below (Nat.le_refl _) (by omega)))
  (fun _ _ _ _ _ hs _ _ => hs)
  ⟨⟨by simp, hinv0⟩, hBW⟩
  (fun x => { tmps := #[Value.agg #[Value.slice ao ts.length cap], Value.int .i64 pl, Value.pointer (some ⟨w.heap.size, 0, none⟩), Value.pointer (some ⟨w.heap.size + 1, 0, none⟩), Value.pointer (some ⟨w.heap.size + 1 + 1, 0, none⟩), Value.pointer (some ⟨w.heap.size + 1 + 1 + 1, 0, none⟩), Value.int .i64 (x : Int), Value.int .i64 (el ts x), Value.agg #[Value.slice ao ts.length cap], Value.func (Fn.func 272) #[] #[Value.pointer (some ⟨w.heap.size + 1 + 1 + 1 + 1, 0, none⟩)], Value.int .i64 (x : Int), Value.int .i64 (el ts x), undef, undef, undef, undef, undef, undef, undef, undef, undef], defers := [] }) ?assign ?body ?done ?stop
 case assign =>
  intro l x W K hK;simp only [tvI]
  gi_wp2
  exact hK
 case body =>
  rintro l pre x W ⟨⟨hpl, hI⟩, hB⟩ hlen;have HL : Hid ((pre ++ [x]).length ≤ ts.length) := by simp [Hid]; omega
  have hkl := keepE_len ts pl pre;have hK1 := keepE_snoc ts pl pre x;obtain ⟨hb0, ⟨hr0, hr1⟩, ⟨v, hv, hown⟩, hr3, hgW'⟩ := hI;obtain ⟨go, qc, rfl, _⟩ := hown.fresh;have hBs := hB.size;have hsB : w.heap.size + 1 + 1 + 1 < W.heap.size := World.block_lt_of_cell? _ _ hv;obtain ⟨x1, ex⟩ : ∃ v, v = el ts x := ⟨_, rfl⟩;rw [← ex] at hK1 ⊢;clear ex;have HO : Hid (kI.Own (w.heap.size + 1 + 1 + 1 + 1) W (.slice go (keepE ts pl pre).length qc) (keepE ts pl pre)) := hown;have HK1 : Hid (keepE ts pl (pre ++ [x]) = if (x : Int) = pl then keepE ts pl pre else keepE ts pl pre ++ [x1]) := hK1;clear hown hK1
  generalize hF : keepE ts pl pre = F at *
  by_cases hx : (x : Int) = pl
  ·have hx' : ((x : Int) != pl) = false := by simpa using hx
   have HE : Hid (keepE ts pl (pre ++ [x]) = F) := by rw [Hid, HK1.out, if_pos hx]
   clear hx hF
   gi_wp2
   exact ⟨KeepsFrom.refl _ _, rfl, ⟨HL.out, hb0, ⟨hr0, hr1⟩, ⟨_, hv, by rw [HE.out]; exact HO.out⟩, hr3, hgW'⟩, hB⟩
  ·have hx' : ((x : Int) != pl) = true := by simpa using hx
   have HE : Hid (keepE ts pl (pre ++ [x]) = F ++ [x1]) := by rw [Hid, HK1.out, if_neg hx]
   have HX : Hid (w.heap.size + 1 + 1 + 1 + 1 ≤ (W.alloc (.cells #[.int .i64 x1] 3)).heap.size ∧ (∀ j u, ([.int .i64 x1] : List Value)[j]? = some u → (W.alloc (.cells #[.int .i64 x1] 3)).cell? ((⟨W.heap.size, 0, none⟩ : Addr).add j) = some u) ∧ ∀ u ∈ ([.int .i64 x1] : List Value), u.oneCell' = true) := by
    refine ⟨by simp; omega, fun j u h => ?_, fun u hu => by simp at hu; rcases hu with rfl <;> rfl⟩
    match j, h with
    | 0, h => simp at h; subst h; simp [Addr.add]
   clear hx hF
   gi_wp2_with (gi_at_builtin; refine wpListIn_append_own (W.alloc (.cells #[.int .i64 x1] 3)) rfl (.tmp 15) (.tmp 17) 25 rfl (w.heap.size + 1 + 1 + 1 + 1) 3 i0 (.int .i64 0) 1 8 Tryz.underlying25 hi hz0 hz1 hz2 rfl (by decide) (.slice go F.length qc) F.length (kI.flat F) rfl (HO.out.below (below1 _ _)) ⟨W.heap.size, 0, none⟩ 1 1 [.int .i64 x1] rfl rfl HX.out.2.1 HX.out.2.2 (by unfold maxLen; omega) (by omega) HX.out.1 ?_; intro v' w1 hown' hgrow _; have hob1 := Kind.Own.low (xs := F) (HO.out.below (below1 W (.cells #[.int .i64 x1] 3))); have hob2 := own_cells (HO.out.below (below1 W (.cells #[.int .i64 x1] 3))); have hlow : ∀ k, k < w.heap.size + 1 + 1 + 1 + 1 → w1.heap[k]? = W.heap[k]? := (fun k hk => (hgrow.block k (by simp; omega) (fun e => by have := hob1 k e.symm; omega)).trans (Below.heap_alloc _ _ k (by omega))); have l0 : w1.cell? ⟨w.heap.size + 1 + 1 + 1, 0, none⟩ = some (.slice go F.length qc) := (World.cell?_of_block (a := ⟨w.heap.size + 1 + 1 + 1, 0, none⟩) (hlow _ (by simp))).trans hv; have l1 : w1.frozen? ⟨w.heap.size + 1 + 1 + 1, 0, none⟩ = false := (World.frozen?_of_block (a := ⟨w.heap.size + 1 + 1 + 1, 0, none⟩) (hlow _ (by simp))).trans hr3; have HH : Hid (kI.Own (w.heap.size + 1 + 1 + 1 + 1) w1 v' (F ++ [x1]) ∧ KeepsOthers W w1 ∧ (∀ k, k < w.heap.size + 1 + 1 + 1 + 1 → w1.heap[k]? = W.heap[k]?) ∧ W.heap.size ≤ w1.heap.size ∧ w1.os = W.os ∧ w1.tape = W.tape ∧ w1.output = W.output) := ⟨(by unfold Kind.Own; rw [Kind.flat_app, List.length_append]; exact hown'), (KeepsOthers.alloc _ _).trans (KeepsOthers.of_grownBy hgrow hob2), hlow, (by have := hgrow.size; simp at this; omega), hgrow.os, hgrow.tape, hgrow.output⟩; obtain ⟨go', qc', rfl, _⟩ := HH.out.1.fresh; clear hown' hgrow hob1 hob2 hlow)
   obtain ⟨ho, hk, hlow, hsz, c1, c2, c3⟩ := HH.out;have hB1 : Below w.heap.size w w1 := hB.trans ⟨c1, c2, c3, hsz, fun k hk => hlow k (by omega)⟩;refine ⟨(hk.trans (KeepsOthers.setCell _ _ _)).from _, SameB.trans (hlow g (by omega)) (sameB_set (by simp; omega)), ⟨HL.out, ?_, ⟨?_, ?_⟩, ⟨_, World.cell?_setCell_same' _ _ _ (by rw [l0]; rfl), ?_⟩, by rw [World.frozen?_setCell]; exact l1, by simp; omega⟩, hB1.setCell (p := ⟨w.heap.size + 1 + 1 + 1, 0, none⟩) (by simp; omega) _⟩
   ·rw [World.cell?_setCell_other _ _ _ _ (by simp)]; exact (World.cell?_of_block (a := ⟨w.heap.size + 1, 0, none⟩) (hlow (w.heap.size + 1) (by omega))).trans hb0
   ·rw [World.cell?_setCell_other _ _ _ _ (by simp)]; exact (World.cell?_of_block (a := ⟨w.heap.size + 1 + 1, 0, none⟩) (hlow (w.heap.size + 1 + 1) (by omega))).trans hr0
   ·rw [World.frozen?_setCell]; exact (World.frozen?_of_block (a := ⟨w.heap.size + 1 + 1, 0, none⟩) (hlow (w.heap.size + 1 + 1) (by omega))).trans hr1
   ·rw [HE.out];have h := ho.setBelow (a := ⟨w.heap.size + 1 + 1 + 1, 0, none⟩) (by simp) (.slice go' (F ++ [x1]).length qc')
    simpa using h
 case done =>
  rintro D ys W hD rfl ⟨⟨hpl, hI⟩, hB⟩ hK;obtain ⟨hb0, ⟨hr0, hr1⟩, ⟨v, hv, hown⟩, hr3, hgW'⟩ := hI;rw [← HR.out] at hown;obtain ⟨go, qc, rfl, _, hF⟩ := hown.fresh;have HF : Hid (kI.Fresh (w.heap.size + 1 + 1 + 1 + 1) W.heap.size W go qc R) := hF;clear hF hown hpl
  gi_wp2
  have hk1 : KeepsOthers W (W.setCell ⟨w.heap.size + 1 + 1, 0, none⟩ (.slice go R.length qc)) := KeepsOthers.setCell _ _ _;have hK' := hk1.same D _ hK rfl;have hX0 : (W.setCell ⟨w.heap.size + 1 + 1, 0, none⟩ (.slice go R.length qc)).cell? ⟨w.heap.size + 1 + 1, 0, none⟩ = some (.slice go R.length qc) := World.cell?_setCell_same' _ _ _ (by rw [hr0]; rfl);refine ⟨by simp, .inl ⟨_, _, rfl, run_takeDeferred hK', ?_⟩⟩;have hc5 := cell_kept hX0 (grownBy_putObj' _ D (.deferred none)) (fun r e => by cases e; exact ⟨_, hK', rfl⟩);have hF2 := HF.out.setBelow (a := ⟨w.heap.size + 1 + 1, 0, none⟩) (by simp) (.slice go R.length qc);refine ⟨.agg #[.slice go R.length qc], ?_, ⟨go, qc, rfl, ?_⟩, (hB.setCell (p := ⟨w.heap.size + 1 + 1, 0, none⟩) (by simp; omega) _).trans (belowK_b (w := W0) (by omega) _ D _ _ hD hK' rfl rfl)⟩
  ·simp [results, Tryz.f235, go_sem, hc5]
  ·exact (hF2.kept (grownBy_putObj' _ D (.deferred none)) (fun r e => by cases e; exact ⟨_, hK', rfl⟩)).wide (by omega) (by simp)
 case stop =>
  rintro D c pre W _ _ h _;exact h.elim
end
section
open Go.RowKit

/-- A row of ints in its own memory, as an ending. -/
def AnsI (w : World) (q : List Int) (e : Ending) (w' : World) : Prop := (∃ go qc, e = .returned (.slice go q.length qc) ∧ kI.Fresh w.heap.size w'.heap.size w' go qc q) ∧ Below w.heap.size w w'
/-- The numbers from 0 on. -/
def numsI (n : Nat) : List Int := (List.range n).map fun k : Nat => (k : Int)
theorem numsI_len (n : Nat) : (numsI n).length = n := by simp [numsI]
theorem numsI_succ (n : Nat) : numsI (n + 1) = numsI n ++ [(n : Int)] := by simp [numsI, List.range_succ]
theorem numsI_mem {n : Nat} {x : Int} (h : x ∈ numsI n) : ∃ k : Nat, k < n ∧ x = (k : Int) := by
 simp only [numsI, List.mem_map, List.mem_range] at h;obtain ⟨k, hk, rfl⟩ := h;exact ⟨k, hk, rfl⟩
set_option maxHeartbeats 4000000 in
theorem numbersOf_any (ao : Option Addr) (cap n : Nat) (w : World) (hl : n ≤ 1048576) :
  Calls Tryz.prog 202 #[.slice ao n cap] w fun e w' => AnsI w (numsI n) e w' := by
 go_enter Tryz.func202, Tryz.ntmps202;go_wp2
 go_loopw [3, 7] (fun u i wr => ∃ (k : Nat) (v : Value), v = u ∧ k ≤ n ∧ i = .int .i64 k ∧ Hid (kI.Own w.heap.size wr v (numsI k)) ∧ Below w.heap.size w wr) (fun _ i _ => n - (intOf i).toNat)
 case atStart => exact ⟨0, _, rfl, Nat.zero_le _, rfl, Kind.Own.nil _ _ _, Below.refl _ _⟩
 case round =>
  obtain ⟨k, v, rfl, hk, rfl, hO, hB⟩ := hrel
  by_cases hlt : k < n
  ·have hs := hB.size;have HA : Hid (kI.Own w.heap.size (wr.alloc (.cells #[.int .i64 (k : Int)] 3)) v (numsI k)) := hO.out.below (below1 _ _);have HN : Hid (kI.In (wr.heap.size + 1) (wr.alloc (.cells #[.int .i64 (k : Int)] 3)) (some ⟨wr.heap.size, 0, none⟩) [(k : Int)]) := int_one (by omega) (by simp);have hll : (numsI k).length + 1 ≤ 4194304 := by rw [numsI_len]; omega
   have hBa : Below w.heap.size w (wr.alloc (.cells #[.int .i64 (k : Int)] 3)) := Below.allocS hB _;go_wp2_with (at_builtin; refine Kind.app kI_ok (wr.alloc (.cells #[.int .i64 (k : Int)] 3)) rfl (.tmp 10) (.tmp 12) rfl w.heap.size v (numsI k) rfl HA.out (by simp; omega) (some ⟨wr.heap.size, 0, none⟩) [(k : Int)] 1 1 rfl rfl (by simp) _ HN.out hll ?_; intro v' w' hO' hB' hG' hn'; have hB2 : Below w.heap.size w w' := hBa.trans (hB'.mono (by omega)); have HO' : Hid (kI.Own w.heap.size w' v' (numsI (k + 1))) := (by rw [Hid, numsI_succ]; exact hO'); clear hO' hB' hG' hn');go_roundw
   case rel => exact ⟨k + 1, v', rfl, by omega, by go_num, HO', hB2⟩
   case measure => simp [intOf]; omega
  ·obtain rfl : k = n := by omega
   obtain ⟨qo, qc, rfl, _, hF⟩ := hO.out.fresh;have HF := hid hF;clear hF hO;rw [numsI_len];go_wp2;go_ret;exact ⟨⟨_, _, by rw [numsI_len]; rfl, HF.out⟩, hB⟩
/-- One node leads to another. -/
def leadsP (gs : List PNode) (a b : Int) : Bool := hasB (el gs a.toNat).2.2.2.2.2 b
/-- One of these leads to it. -/
def ledP (gs : List PNode) (l : List Int) (b : Int) : Bool := l.any fun a => leadsP gs a b
/-- Each time the first to which none leads. -/
def behindP (gs : List PNode) : Nat → List Int → List Int → List Int × List Int
 | 0, o, l => (o, l)
 | n + 1, o, l => match l.findIdx? (fun b => !ledP gs l b) with
  | none => (o, l)
  | some k => behindP gs n (o ++ [el l k]) (l.take k ++ l.drop (k + 1))
set_option maxHeartbeats 2000000 in
theorem leads_is (pg : Nat) (ao : Option Addr) (cap : Nat) (ts : List LNode) (k : Nat) (b : Int) (w : World) (hk : k < ts.length) (hF : FitN ts) (hG : GrIn w pg ao cap ts) :
  Calls Tryz.prog 206 #[.int .i64 (k : Int), .int .i64 b, .pointer (some ⟨pg, 0, none⟩)] w fun e w' => e = .returned (.bool (leadsP (ts.map valNode) k b)) ∧ Below w.heap.size w w' := by
 have HG := hid hG;have hki : (k : Int) < (ts.length : Int) := by omega
 clear hG;obtain ⟨bb, off, rfl, hb, hc⟩ := hNode_at HG.out.rows.1 hk;have d6 := (hc k hk).2.2.2.2.2;have hfk := hF _ (el_mem hk);have hev := el_val hk;have hin := HG.out.rows.2 k hk;obtain ⟨⟨nm, kd, sa, sb, cp, ⟨nxo, nxc, nx⟩⟩, ex⟩ : ∃ v, v = el ts k := ⟨_, rfl⟩;rw [← ex] at d6 hfk hev hin;have E1 : Hid (leadsP (ts.map valNode) k b = hasB nx b) := by rw [Hid, leadsP, Int.toNat_natCast, hev]; rfl
 have HI : Hid (kI.In w.heap.size w nxo nx) := hin;have c0 := HG.out.box.c 0 rfl;clear hc hev hin;dsimp only at d6 hfk;go_enter Tryz.func206, Tryz.ntmps206;go_wp2_with fail;refine (contains_is w.heap.size nxo nxc nx b w (hasB nx b) hfk.2 HI.out rfl).mono ?_;rintro e w1 ⟨rfl, rfl⟩;go_wp2;go_ret;exact ⟨ret_bool E1.out.symm, Below.refl _ _⟩
theorem Tryz.entersB1 : ∀ args w, (callFunc 232 args).run Tryz.prog w = .ok (.enter 232 args) w := enters_of Tryz.func232 (by kernel_rfl) rfl
theorem Tryz.entersB2 : ∀ args w, (callFunc 233 args).run Tryz.prog w = .ok (.enter 233 args) w := enters_of Tryz.func233 (by kernel_rfl) rfl
set_option maxHeartbeats 2000000 in
theorem behind2_is (pg pl pt : Nat) (ao : Option Addr) (cap : Nat) (ts : List LNode) (k : Nat) (b : Int) (w : World) (hk : k < ts.length) (hF : FitN ts) (hG : GrIn w pg ao cap ts) (hL : w.cell? ⟨pl, 0, none⟩ = some (.func (.func 206) #[] #[.pointer (some ⟨pg, 0, none⟩)])) (hT : w.cell? ⟨pt, 0, none⟩ = some (.int .i64 b)) :
  Calls Tryz.prog 233 #[.int .i64 (k : Int), .pointer (some ⟨pl, 0, none⟩), .pointer (some ⟨pt, 0, none⟩)] w fun e w' => e = .returned (.bool (leadsP (ts.map valNode) k b)) ∧ Below w.heap.size w w' := by
 have hcon := leads_is pg ao cap ts k b w hk hF hG;clear hG;go_enter Tryz.func233, Tryz.ntmps233;go_wp2_with fail;refine hcon.mono ?_;rintro e w1 ⟨rfl, hb1⟩;go_wp2;go_ret;exact ⟨rfl, hb1⟩
set_option maxHeartbeats 2000000 in
theorem behind1_is (pg pl pq : Nat) (ao : Option Addr) (cap : Nat) (ts : List LNode) (lo : Option Addr) (lc : Nat) (l : List Int) (b : Int) (w : World) (hl : l.length ≤ 1048576) (hv : ∀ x ∈ l, ∃ k : Nat, k < ts.length ∧ x = (k : Int)) (hF : FitN ts) (hG : GrIn w pg ao cap ts) (hL : Bx w pl [.func (.func 206) #[] #[.pointer (some ⟨pg, 0, none⟩)]]) (hQ : Bx w pq [.slice lo l.length lc]) (hz : kI.In w.heap.size w lo l) :
  Calls Tryz.prog 232 #[.int .i64 b, .pointer (some ⟨pq, 0, none⟩), .pointer (some ⟨pl, 0, none⟩)] w fun e w' => e = .returned (.bool (!ledP (ts.map valNode) l b)) ∧ Below w.heap.size w w' := by
 obtain ⟨V, hV⟩ : ∃ V, V = w.alloc (.cells #[.int .i64 b] 3) := ⟨_, rfl⟩;have hb : Below w.heap.size w V := by rw [hV]; exact below1 _ _
 have hX : Bx V w.heap.size [.int .i64 b] := by rw [hV]; exact Bx.new [.int .i64 b] _ rfl
 have hcon := containsFuncI_any 233 #[.pointer (some ⟨pl, 0, none⟩), .pointer (some ⟨w.heap.size, 0, none⟩)] Tryz.entersB2 lo lc l (fun a => leadsP (ts.map valNode) a b) V hl (hz.later hb) (fun x W hx hW => by
  obtain ⟨k, hk, rfl⟩ := hv x hx;exact behind2_is pg pl w.heap.size ao cap ts k b W hk hF ((hG.later hb).later hW) (((hL.later hb).later hW).c 0 rfl) ((hX.later hW).c 0 rfl))
 have hq := (hQ.later hb).c 0 rfl;have q0 := hQ.c 0 rfl;have hqs := hQ.size;have HV := hid hV;have HB := hid hb;clear hV hX hz hb hQ hL hG hv;go_enter Tryz.func232, Tryz.ntmps232;go_wp2_with fail;rw [← HV.out];refine hcon.mono ?_;rintro e w1 ⟨rfl, hb1⟩;have hB1 : Below w.heap.size w w1 := HB.out.trans (hb1.mono HB.out.size);clear hb1;go_wp2;go_ret;exact ⟨rfl, hB1⟩
end
end Go.Proofs.YtdacedbfnlkghaaGreatDoor
