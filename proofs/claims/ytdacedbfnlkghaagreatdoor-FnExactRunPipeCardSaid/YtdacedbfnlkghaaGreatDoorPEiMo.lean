
/- The program's closure that compares two emits. No conditions but those written. The specification's sort of emits. No conditions but those written. Emits sorted by the program. No conditions but those written. SortEmits, the program's and the specification's. No conditions but those written. What a value means: both sides. No conditions but those written. -/
import Derived.Test.YtdacedbfnlkghaaGreatDoorPMlEo
import Derived.Shelf.SlSortCmp.QuietGrown
import Derived.Shelf.SlSortCmp.NoneTotal
import Derived.Shelf.Lay
import Derived.Ground.SlsfProg
import Derived.Test.YtdacedbfnlkghaaGreatDoorPWyYs
import Derived.Test.YtdacedbfnlkghaaGreatDoorPCkLd
import Derived.Test.YtdacedbfnlkghaaGreatDoorPFpRc
namespace Go.Proofs.YtdacedbfnlkghaaGreatDoor
section
open Go.RowKit Go.Sort

theorem grownE_refl (W : World) : ∃ q os, W = grow (W.drewN q) os := ⟨0, #[], by rw [grow_empty]; rfl⟩
theorem grownE_trans {W V U : World} (h : ∃ q os, V = grow (W.drewN q) os) (k : ∃ q os, U = grow (V.drewN q) os) : ∃ q os, U = grow (W.drewN q) os := by
 obtain ⟨q, os, rfl⟩ := h;obtain ⟨q', os', rfl⟩ := k;exact ⟨q + q', os ++ os', by show grow (grow ((W.drewN q).drewN q') os) os' = _; rw [grow_grow, World.drewN_drewN]⟩
theorem grownE_alloc (W : World) (o : Obj) : ∃ q os, W.alloc o = grow (W.drewN q) os := ⟨0, #[o], by rw [alloc_eq_grow]; rfl⟩
theorem grownE_cell {W V : World} (h : ∃ q os, V = grow (W.drewN q) os) {a : Addr} {v : Value} (hb : a.block < W.heap.size) (hc : W.cell? a = some v) : V.cell? a = some v := by
 obtain ⟨q, os, rfl⟩ := h;exact cell_grown hb hc q os
theorem grownE_size {W V : World} (h : ∃ q os, V = grow (W.drewN q) os) : W.heap.size ≤ V.heap.size := by
 obtain ⟨q, os, rfl⟩ := h;rw [size_grow]; exact Nat.le_add_right _ _
theorem isNaN_is (x : Int) (w : World) : Calls Tryz.prog 276 #[.int .i64 x] w fun e w' => e = .returned (.bool false) ∧ w' = w := by
 have h : (x != x) = false := by simp
 go_enter Tryz.func276, Tryz.ntmps276;go_wp2;go_ret;exact ⟨rfl, rfl⟩
/-- Below 0, 0 or above 0. -/
def cmpI (x y : Int) : Int := if x < y then -1 else if y < x then 1 else 0
set_option maxHeartbeats 1000000 in
theorem compare_is (x y : Int) (w : World) : Calls Tryz.prog 270 #[.int .i64 x, .int .i64 y] w fun e w' => e = .returned (.int .i64 (cmpI x y)) ∧ w' = w := by
 rcases (show (x < y) ∨ (y < x) ∨ (x = y) from by omega) with h | h | h
 ·have e : cmpI x y = -1 := by simp [cmpI, h]
  rw [e];have g1 : decide (x < y) = true := by simpa using h
  clear e h;go_enter Tryz.func270, Tryz.ntmps270;go_wp2_with (go_at_call 276; refine (isNaN_is _ _).mono ?_; rintro e w1 ⟨rfl, rfl⟩);go_ret;exact ⟨rfl, rfl⟩
 ·have e : cmpI x y = 1 := by rw [cmpI, if_neg (by omega), if_pos h]
  rw [e];have g1 : decide (x < y) = false := by simp; omega
  have g2 : decide (y < x) = true := by simpa using h
  clear e h;go_enter Tryz.func270, Tryz.ntmps270;go_wp2_with (go_at_call 276; refine (isNaN_is _ _).mono ?_; rintro e w1 ⟨rfl, rfl⟩);go_ret;exact ⟨rfl, rfl⟩
 ·have e : cmpI x y = 0 := by rw [cmpI, if_neg (by omega), if_neg (by omega)]
  rw [e];have g1 : decide (x < y) = false := by simp; omega
  have g2 : decide (y < x) = false := by simp; omega
  clear e h;go_enter Tryz.func270, Tryz.ntmps270;go_wp2_with (go_at_call 276; refine (isNaN_is _ _).mono ?_; rintro e w1 ⟨rfl, rfl⟩);go_ret;exact ⟨rfl, rfl⟩
theorem byNode_is (x1 x2 : Int) (W : World) : Calls Tryz.prog 242 #[.agg #[.int .i64 x1, .int .i64 x2]] W fun e w' => e = .returned (.int .i64 x1) ∧ ∃ q os, w' = grow (W.drewN q) os := by
 go_enter Tryz.func242, Tryz.ntmps242;go_wp2;go_ret;exact ⟨rfl, grownE_alloc _ _⟩
theorem byValue_is (x1 x2 : Int) (W : World) : Calls Tryz.prog 243 #[.agg #[.int .i64 x1, .int .i64 x2]] W fun e w' => e = .returned (.int .i64 x2) ∧ ∃ q os, w' = grow (W.drewN q) os := by
 go_enter Tryz.func243, Tryz.ntmps243;go_wp2;go_ret;exact ⟨rfl, grownE_alloc _ _⟩
/-- By node, then by value. -/
def cmpE (x y : Int × Int) : Int := if cmpI x.1 y.1 = 0 then cmpI x.2 y.2 else cmpI x.1 y.1
theorem Calls.same_grown {f : FuncId} {args : Array Value} {W : World} {v : Value} (h : Calls Tryz.prog f args W fun e w' => e = .returned v ∧ w' = W) : Calls Tryz.prog f args W fun e w' => e = .returned v ∧ ∃ q os, w' = grow (W.drewN q) os :=
 h.mono fun _ _ ⟨he, hw⟩ => ⟨he, by rw [hw]; exact grownE_refl W⟩
set_option maxHeartbeats 4000000 in
theorem cmpCl_any (x1 x2 y1 y2 : Int) (kb kr : Nat) (W : World) (hb : kb < W.heap.size) (hr : kr < W.heap.size) (hk : W.cell? ⟨kb, 0, none⟩ = some (.slice (some ⟨kr, 0, none⟩) 2 2)) (h0 : W.cell? ⟨kr, 0, none⟩ = some (.func (.func 242) #[] #[])) (h1 : W.cell? ⟨kr, 1, none⟩ = some (.func (.func 243) #[] #[])) :
  Calls Tryz.prog 269 #[.agg #[.int .i64 x1, .int .i64 x2], .agg #[.int .i64 y1, .int .i64 y2], .pointer (some ⟨kb, 0, none⟩)] W fun e w' => e = .returned (.int .i64 (cmpE (x1, x2) (y1, y2))) ∧ ∃ q os, w' = grow (W.drewN q) os := by
 obtain ⟨V, hV⟩ : ∃ V, V = (W.alloc (.cells #[.int .i64 x1, .int .i64 x2] 199)).alloc (.cells #[.int .i64 y1, .int .i64 y2] 199) := ⟨_, rfl⟩;have hG : ∃ q os, V = grow (W.drewN q) os := by rw [hV]; exact grownE_trans (grownE_alloc _ _) (grownE_alloc _ _)
 have XA : Hid (Bx V W.heap.size [.int .i64 x1, .int .i64 x2]) := by rw [hV]; exact (Bx.new [.int .i64 x1, .int .i64 x2] _ rfl).alloc _
 have XB : Hid (Bx V (W.heap.size + 1) [.int .i64 y1, .int .i64 y2]) := by rw [hV]; exact Bx.new [.int .i64 y1, .int .i64 y2] _ (by simp)
 have hsz : V.heap.size = W.heap.size + 1 + 1 := by rw [hV]; simp
 have k0 := grownE_cell hG (a := ⟨kr, 0, none⟩) hr h0;have k1 := grownE_cell hG (a := ⟨kr, 1, none⟩) hr h1;have kk := grownE_cell hG (a := ⟨kb, 0, none⟩) hb hk;have a0 := XA.out.c 0 rfl;have a1 := XA.out.c 1 rfl;have b0 := XB.out.c 0 rfl;have b1 := XB.out.c 1 rfl;have HV := hid hV;have HG := hid hG;have HSZ := hid hsz;clear hV hG h0 h1 XA XB;go_enter Tryz.func269, Tryz.ntmps269;go_wp2;rw [← HV.out];clear hk
 go_loopw [11] (fun i wr => ∃ k : Nat, i = .int .i64 (k : Int) ∧ k ≤ 2 ∧ Hid (1 ≤ k → cmpI x1 y1 = 0) ∧ Hid (2 ≤ k → cmpI x2 y2 = 0) ∧ Hid (∃ q os, wr = grow (V.drewN q) os)) (fun i _ => 2 - (intOf i).toNat)
 case atStart => exact ⟨0, rfl, by omega, fun h => by omega, fun h => by omega, grownE_refl V⟩
 case round =>
  obtain ⟨k, rfl, hk, hc1, hc2, hw⟩ := hrel;have r0 := grownE_cell hw.out (a := ⟨kr, 0, none⟩) (by simp only [hsz]; omega) k0;have r1 := grownE_cell hw.out (a := ⟨kr, 1, none⟩) (by simp only [hsz]; omega) k1;have rk := grownE_cell hw.out (a := ⟨kb, 0, none⟩) (by simp only [hsz]; omega) kk;have ra0 := cell_grown (a := ⟨W.heap.size, 0, none⟩) (by have := grownE_size hw.out; simp only; omega) (grownE_cell hw.out (a := ⟨W.heap.size, 0, none⟩) (by simp only [hsz]; omega) a0);have ra1 := cell_grown (a := ⟨W.heap.size, 1, none⟩) (by have := grownE_size hw.out; simp only; omega) (grownE_cell hw.out (a := ⟨W.heap.size, 1, none⟩) (by simp only [hsz]; omega) a1);have rb0 := cell_grown (a := ⟨W.heap.size + 1, 0, none⟩) (by have := grownE_size hw.out; simp only; omega) (grownE_cell hw.out (a := ⟨W.heap.size + 1, 0, none⟩) (by simp only [hsz]; omega) b0);have rb1 := cell_grown (a := ⟨W.heap.size + 1, 1, none⟩) (by have := grownE_size hw.out; simp only; omega) (grownE_cell hw.out (a := ⟨W.heap.size + 1, 1, none⟩) (by simp only [hsz]; omega) b1);have e1 := fun W' => Calls.same_grown (compare_is x1 y1 W')
  have e2 := fun W' => Calls.same_grown (compare_is x2 y2 W')
  clear hsz;have mixed : Tryz.prog.follows .mixedOrders = true := by kernel_rfl
  rcases (show k = 0 ∨ k = 1 ∨ k = 2 from by omega) with h | h | h
  ·have H := hid h;have rc : wr.cell? ⟨kr, k, none⟩ = some (.func (.func 242) #[] #[]) := by rw [h]; exact r0
   have hlt : (k : Int) < 2 := by omega
   clear h r0 r1
   by_cases hz : cmpI x1 y1 = 0
   ·have hz' : (cmpI x1 y1 != 0) = false := by simp [hz]
    have HZ := hid hz;clear hz;obtain ⟨d, hd⟩ : ∃ d, d = cmpI x1 y1 := ⟨_, rfl⟩;rw [← hd] at hz' e1;have HD := hid hd;clear hd;go_wp2_with fail
    go_quiet_grown (first | (go_at_call 242; exact Calls.grown_of (byNode_is _ _ _)) | (go_at_call 270; exact Calls.grown_of (e1 _)))
    have hw2 := hid (grownE_trans hw.out ⟨nq, osq, rfl⟩);clear ra0 ra1 rb0 rb1;go_wp2;go_roundw
    case rel => exact ⟨k + 1, by go_num, by have := H.out; omega, fun _ => HZ.out, fun h => by have := H.out; omega, hw2⟩
    case measure => simp [intOf]; have := H.out; omega
   ·have hz' : (cmpI x1 y1 != 0) = true := by simp [hz]
    have HZ := hid hz;clear hz;obtain ⟨d, hd⟩ : ∃ d, d = cmpI x1 y1 := ⟨_, rfl⟩;rw [← hd] at hz' e1;have HD := hid hd;clear hd;go_wp2_with fail
    go_quiet_grown (first | (go_at_call 242; exact Calls.grown_of (byNode_is _ _ _)) | (go_at_call 270; exact Calls.grown_of (e1 _)))
    have hw2 := hid (grownE_trans hw.out ⟨nq, osq, rfl⟩);clear ra0 ra1 rb0 rb1;go_wp2;go_ret;exact ⟨ret_int (by rw [HD.out, cmpE]; exact (if_neg HZ.out).symm), grownE_trans HG.out hw2.out⟩
  ·have H := hid h;have rc : wr.cell? ⟨kr, k, none⟩ = some (.func (.func 243) #[] #[]) := by rw [h]; exact r1
   have hlt : (k : Int) < 2 := by omega
   clear h r0 r1
   by_cases hz : cmpI x2 y2 = 0
   ·have hz' : (cmpI x2 y2 != 0) = false := by simp [hz]
    have HZ := hid hz;clear hz;obtain ⟨d, hd⟩ : ∃ d, d = cmpI x2 y2 := ⟨_, rfl⟩;rw [← hd] at hz' e2;have HD := hid hd;clear hd;go_wp2_with fail
    go_quiet_grown (first | (go_at_call 243; exact Calls.grown_of (byValue_is _ _ _)) | (go_at_call 270; exact Calls.grown_of (e2 _)))
    have hw2 := hid (grownE_trans hw.out ⟨nq, osq, rfl⟩);clear ra0 ra1 rb0 rb1;go_wp2;go_roundw
    case rel => exact ⟨k + 1, by go_num, by have := H.out; omega, fun _ => hc1.out (by have := H.out; omega), fun h => HZ.out, hw2⟩
    case measure => simp [intOf]; have := H.out; omega
   ·have hz' : (cmpI x2 y2 != 0) = true := by simp [hz]
    have HZ := hid hz;clear hz;obtain ⟨d, hd⟩ : ∃ d, d = cmpI x2 y2 := ⟨_, rfl⟩;rw [← hd] at hz' e2;have HD := hid hd;clear hd;go_wp2_with fail
    go_quiet_grown (first | (go_at_call 243; exact Calls.grown_of (byValue_is _ _ _)) | (go_at_call 270; exact Calls.grown_of (e2 _)))
    have hw2 := hid (grownE_trans hw.out ⟨nq, osq, rfl⟩);clear ra0 ra1 rb0 rb1;go_wp2;go_ret;exact ⟨ret_int (by rw [HD.out, cmpE]; exact (if_pos (hc1.out (by have := H.out; omega))).symm), grownE_trans HG.out hw2.out⟩
  ·have H := hid h;have hlt : ¬ (k : Int) < 2 := by omega
   clear h;go_wp2;go_ret;exact ⟨ret_int (by rw [cmpE]; dsimp only; rw [if_pos (hc1.out (by have := H.out; omega)), hc2.out (by have := H.out; omega)]), grownE_trans HG.out hw.out⟩
end
section
open Go.RowKit

set_option maxHeartbeats 1000000 in
theorem l11Less_is (a1 a2 b1 b2 : Int) (w : World) : Calls Tryz.prog 219 #[.agg #[.int .i64 a1, .int .i64 a2], .agg #[.int .i64 b1, .int .i64 b2]] w fun e w' => e = .returned (.bool (ltE (a1, a2) (b1, b2))) ∧ Below w.heap.size w w' := by
 by_cases h1 : a1 < b1
 ·have g1 : decide (a1 < b1) = true := by simpa using h1
  have e : ltE (a1, a2) (b1, b2) = true := by simp [ltE, h1]
  rw [e];clear e h1;go_enter Tryz.func219, Tryz.ntmps219;go_wp2;go_ret;exact ⟨rfl, below2 _ _ _⟩
 ·have g1 : decide (a1 < b1) = false := by simpa using h1
  by_cases h2 : a1 = b1
  ·have g2 : (a1 == b1) = true := by simpa using h2
   have e : ltE (a1, a2) (b1, b2) = decide (a2 < b2) := by simp [ltE, h2]
   rw [e];clear e h1 h2;go_enter Tryz.func219, Tryz.ntmps219;go_wp2;go_ret;exact ⟨rfl, below2 _ _ _⟩
  ·have g2 : (a1 == b1) = false := by simpa using h2
   have e : ltE (a1, a2) (b1, b2) = false := by simp [ltE, h2, h1]
   rw [e];clear e h1 h2;go_enter Tryz.func219, Tryz.ntmps219;go_wp2;go_ret;exact ⟨rfl, below2 _ _ _⟩
/-- A row of emits of its own. -/
def AnsE (w : World) (r : List (Int × Int)) (e : Ending) (w' : World) : Prop := ∃ o c, e = .returned (.slice o r.length c) ∧ kE.Fresh w.heap.size w'.heap.size w' o c r ∧ Below w.heap.size w w'
set_option maxRecDepth 10000 in
set_option maxHeartbeats 8000000 in
theorem l11Sort_any (ao : Option Addr) (cap : Nat) (ts : List (Int × Int)) (w : World) (hl : ts.length ≤ 1048576) (hz : kE.In w.heap.size w ao ts) (hwf : ao = none → cap = 0) :
  Calls Tryz.prog 185 #[.slice ao ts.length cap] w fun e w' => AnsE w (sortE ts) e w' := by
 have HE0 : Hid (kE.Own w.heap.size (w.alloc (.cells #[] kE.ty)) (.slice (some ⟨w.heap.size, 0, none⟩) 0 0) []) := Kind.Own.new kE _ w (Nat.le_refl _);have HZ0 : Hid (kE.In w.heap.size (w.alloc (.cells #[] kE.ty)) ao ts) := hz.below (below1 _ _);clear hz;go_enter Tryz.func185, Tryz.ntmps185;go_wp2_with (at_builtin; refine Kind.app kE_ok (w.alloc (.cells #[] kE.ty)) rfl (.tmp 7) (.tmp 8) rfl w.heap.size (.slice (some ⟨w.heap.size, 0, none⟩) 0 0) [] rfl HE0.out (by simp) ao ts ts.length cap rfl rfl hwf _ HZ0.out (by simp; omega) ?_; intro v w1 hO hB _ hn; obtain ⟨g, c, rfl, _⟩ := Kind.Own.some hO (hn some_ne); rw [List.nil_append] at hO ⊢; obtain ⟨go, gc, eg, _, hF⟩ := hO.fresh; obtain ⟨rfl, rfl⟩ : some ⟨g, 0, none⟩ = go ∧ c = gc := (by simp at eg; exact eg); have hB1 : Below w.heap.size w w1 := (below1 w _).trans hB; have H1 := hid hF; clear eg hO hn hB hF HE0 HZ0)
 go_loopw [12] (fun i wr => ∃ (k : Nat) (ys : List (Int × Int)), i = .int .i64 (k : Int) ∧ k ≤ ts.length ∧ ys.length = ts.length ∧ Hid (ys.Perm ts) ∧ Hid (SortTo ys k) ∧ Hid (kE.Fresh w.heap.size w1.heap.size wr (some ⟨g, 0, none⟩) c ys) ∧ Below w.heap.size w wr ∧ Hid (w1.heap.size ≤ wr.heap.size)) (fun i _ => ts.length - (intOf i).toNat)
 case atStart => exact ⟨0, ts, rfl, Nat.zero_le _, rfl, List.Perm.refl _, fun a b h1 h2 => by omega, H1, hB1, Nat.le_refl _⟩
 case round =>
  obtain ⟨k, ys, rfl, hk, hyl, hP, hS, hY, hBw, hsz⟩ := hrel
  by_cases hlt : k < ts.length
  ·have HS := hid (sort_start hS.out);clear hS;go_wp2
   go_loopw [5] (fun i wr => ∃ (j : Nat) (ys : List (Int × Int)), i = .int .i64 (j : Int) ∧ j ≤ k ∧ ys.length = ts.length ∧ Hid (ys.Perm ts) ∧ Hid (SortBut ys k j) ∧ Hid (kE.Fresh w.heap.size w1.heap.size wr (some ⟨g, 0, none⟩) c ys) ∧ Below w.heap.size w wr ∧ Hid (w1.heap.size ≤ wr.heap.size)) (fun i _ => (intOf i).toNat)
   case atStart => exact ⟨k, ys, rfl, Nat.le_refl _, hyl, hP, HS, hY, hBw, hsz⟩
   case round =>
    clear HS hP hY hBw hsz hyl ys;obtain ⟨j, ys, rfl, hjk, hyl, hP, hS, hY, hBw, hsz⟩ := hrel
    rcases j with _ | m
    ·have HT := hid (sort_stop0 hS.out);have h0 : decide ((0 : Int) < ((0 : Nat) : Int)) = false := by decide
     have hYd : Hid (∀ n, kE.Fresh w.heap.size w1.heap.size (wr.drewN n) (some ⟨g, 0, none⟩) c ys) := fun n => hY.out.keep fun _ _ _ _ => rfl
     clear hS;go_wp2
     go_quiet (fail)
     go_wp2;go_roundw
     case rel => exact ⟨k + 1, ys, by go_num, by omega, hyl, hP, HT, hid (hYd.out _), below_draws hBw _, hsz⟩
     case measure => simp [intOf]; omega
    ·have hmy : m + 1 < ys.length := by omega
     have hm0 : m < ys.length := by omega
     obtain ⟨b0, off, eb, hb0, hc⟩ := kE_at hY.out.in hm0;obtain ⟨rfl, rfl⟩ : g = b0 ∧ 0 = off := by simp at eb; exact ⟨eb.1, eb.2⟩
     have cm := hc m hm0;have cj := hc (m + 1) hmy;simp only [Nat.zero_add] at cm cj;obtain ⟨⟨x1, x2⟩, hx⟩ : ∃ x, x = el ys (m + 1) := ⟨_, rfl⟩;obtain ⟨⟨y1, y2⟩, hy⟩ : ∃ y, y = el ys m := ⟨_, rfl⟩;rw [← hy] at cm;rw [← hx] at cj;dsimp only at cm cj;have HX := hid hx;have HYY := hid hy;clear hc eb hx hy;obtain ⟨j, hj⟩ : ∃ j : Nat, j = m + 1 := ⟨_, rfl⟩;rw [← hj] at cj ⊢;have hgt : 0 < j := by omega
     have HJ := hid hj;have hjm : (j : Int) - 1 = (m : Int) := by omega
     have hjl : (j : Int) < (ts.length : Int) := by omega
     have hml : (m : Int) < (ts.length : Int) := by omega
     have q1 := Later.cell cj.1 hb0; have q2 := Later.cell cj.2 hb0; have q3 := Later.cell cm.1 hb0; have q4 := Later.cell cm.2 hb0
     have hNE := later_some wr;clear hj
     rcases hc : ltE (x1, x2) (y1, y2) with _ | _
     ·have HT := hid (sort_stop hS.out (by have := HJ.out; omega) (by rw [← HX.out, ← HYY.out]; exact hc));have HC := hid hc;clear hS hc cm cj;go_wp2_with fail;refine wp_region_later wr (by kernel_rfl) (by kernel_rfl) (Below.refl _ _) ?_;have hless : ∀ W : World, Calls Tryz.prog 219 #[.agg #[.int .i64 x1, .int .i64 x2], .agg #[.int .i64 y1, .int .i64 y2]] W fun e w' => e = .returned (.bool false) ∧ Below W.heap.size W w' := fun W => by have h := l11Less_is x1 x2 y1 y2 W; rw [HC.out] at h; exact h
      repeat (go_big_quiet_step (first | (go_at_call 219; exact Calls.later (hless _))))
      refine wpQuiet_nil ?_;rintro w4 ⟨⟨w5, hb4⟩, hw5⟩;obtain rfl : w4 = w5 := hw5;have hB4 : Below w.heap.size w w4 := hBw.trans (hb4.mono hBw.size);have hs4 : Hid (w1.heap.size ≤ w4.heap.size) := Nat.le_trans hsz.out hb4.size;have Y4 : Hid (kE.Fresh w.heap.size w1.heap.size w4 (some ⟨g, 0, none⟩) c ys) := hY.out.later hb4;clear q1 q2 q3 q4 hNE hb4 hY hBw hsz hless;go_wp2;go_roundw
      case rel => exact ⟨k + 1, ys, by go_num, by omega, hyl, hP, HT, Y4, hB4, hs4⟩
      case measure => simp [intOf]; omega
     ·have HT := hid (sort_swap hS.out (by have := HJ.out; omega) (by omega) (by rw [← HX.out, ← HYY.out]; exact hc));have HC := hid hc;have HP2 := hid ((swapL_perm hmy).trans hP.out);have hl2 : (swapL ys m).length = ts.length := by rw [swapL_len]; exact hyl
      clear hS hc cm cj;go_wp2_with fail;refine wp_region_later wr (by kernel_rfl) (by kernel_rfl) (Below.refl _ _) ?_;have hless : ∀ W : World, Calls Tryz.prog 219 #[.agg #[.int .i64 x1, .int .i64 x2], .agg #[.int .i64 y1, .int .i64 y2]] W fun e w' => e = .returned (.bool true) ∧ Below W.heap.size W w' := fun W => by have h := l11Less_is x1 x2 y1 y2 W; rw [HC.out] at h; exact h
      repeat (go_big_quiet_step (first | (go_at_call 219; exact Calls.later (hless _))))
      refine wpQuiet_nil ?_;rintro w4 ⟨⟨w5, hb4⟩, hw5⟩;obtain rfl : w4 = w5 := hw5;have hB4 : Below w.heap.size w w4 := hBw.trans (hb4.mono hBw.size);have hs4 : Hid (w1.heap.size ≤ w4.heap.size) := Nat.le_trans hsz.out hb4.size;have Y4 : Hid (kE.Fresh w.heap.size w1.heap.size w4 (some ⟨g, 0, none⟩) c ys) := hY.out.later hb4;have c1 : w4.cell? ⟨g, j * 2, none⟩ = some (.int .i64 x1) := q1 ⟨w4, hb4⟩;have c2 : w4.cell? ⟨g, j * 2 + 1, none⟩ = some (.int .i64 x2) := q2 ⟨w4, hb4⟩;have c3 : w4.cell? ⟨g, m * 2, none⟩ = some (.int .i64 y1) := q3 ⟨w4, hb4⟩;have c4 : w4.cell? ⟨g, m * 2 + 1, none⟩ = some (.int .i64 y2) := q4 ⟨w4, hb4⟩;obtain ⟨g2, e2, hg1, hg2, hg3, ho⟩ := Y4.out.at (show 0 < ys.length by omega);obtain rfl : g = g2 := by simp at e2; exact e2
      have f1 : w4.frozen? ⟨g, j * 2, none⟩ = false := ho.frozenAt _;have f2 : w4.frozen? ⟨g, j * 2 + 1, none⟩ = false := ho.frozenAt _;have f3 : w4.frozen? ⟨g, m * 2, none⟩ = false := ho.frozenAt _;have f4 : w4.frozen? ⟨g, m * 2 + 1, none⟩ = false := ho.frozenAt _;have hne : j ≠ m := by have := HJ.out; omega
      have HG1 := hid hg1;clear q1 q2 q3 q4 hNE hb4 hY hBw hsz hless ho e2 hg2 hg1;go_wp2;go_roundw
      case rel =>
       refine ⟨m, swapL ys m, by go_num, by have := HJ.out; omega, hl2, HP2, HT, ?_, ?_, ?_⟩
       ·have h := kE_stored Y4.out hmy;rw [← HX.out, ← HYY.out, ← HJ.out] at h;exact hid (h.later (below1 _ _))
       ·exact Below.allocS ((((hB4.setCell (p := ⟨g, j * 2, none⟩) HG1.out _).setCell (p := ⟨g, j * 2 + 1, none⟩) HG1.out _).setCell (p := ⟨g, m * 2, none⟩) HG1.out _).setCell (p := ⟨g, m * 2 + 1, none⟩) HG1.out _) _
       ·have := hs4.out; unfold Hid; simp [World.setCell]; omega
      case measure => simp [intOf]; have := HJ.out; omega
  ·obtain rfl : k = ts.length := by omega
   have HS2 : Hid (SortTo ys ys.length) := by rw [hyl]; exact hS
   go_wp2;go_ret;have e := sorted_all hP.out HS2.out;refine ⟨_, _, by rw [sortE_len]; rfl, ?_, hBw⟩;rw [← e];exact hY.out.wide (Nat.le_refl _) hsz.out
end
section
open Go.RowKit Go.Sort Go.Shelf Go.Lib

shelf_lay_g SlLaysF0.n6 Slsf 6 at Tryz 268 as Tryz.sortEm

theorem cmpE_neg (x y : Int × Int) : ltOf cmpE x y = ltE x y := by
 unfold ltOf cmpE cmpI ltE
 rcases (show x.1 < y.1 ∨ y.1 < x.1 ∨ x.1 = y.1 from by omega) with h | h | h
 ·simp [h]
 ·have h1 : ¬ x.1 < y.1 := by omega
  have h2 : ¬ x.1 = y.1 := by omega
  simp [h, h1, h2]
 ·rcases (show x.2 < y.2 ∨ y.2 < x.2 ∨ x.2 = y.2 from by omega) with k | k | k
  ·simp [h, k]
  ·have k1 : ¬ x.2 < y.2 := by omega
   simp [h, k, k1]
  ·have k1 : ¬ x.2 < y.2 := by omega
   have k2 : ¬ y.2 < x.2 := by omega
   simp [h, k1, k2]
theorem cmpE_swo : SWO (ltOf cmpE) where
 irrefl x := by rw [cmpE_neg, ltE_no]; omega
 trans x y z h1 h2 := by rw [cmpE_neg, ltE_yes] at *; omega
 ntrans x y z h1 h2 := by rw [cmpE_neg, ltE_no] at *; omega
theorem cmpE_total : ∀ x y, (ltOf cmpE) x y = false → (ltOf cmpE) y x = false → x = y := fun x y h1 h2 => by
 rw [cmpE_neg] at h1 h2; exact ltE_eq h2 h1
theorem flatK_kE (ts : List (Int × Int)) : (flatK kE.enc 2 ts.toArray).toList = kE.flat ts := by
 refine kE.flat_of _ ts (by simp [kE]) fun j hj i hi => ?_
 have hi' : i < 2 := hi;have hsz : kE.sz = 2 := rfl;rw [hsz];have ht : j * 2 + i < ts.toArray.size * 2 := by simp; omega
 have hg := get_flatK kE.enc 2 ts.toArray (j * 2 + i) ht;have e1 : (j * 2 + i) / 2 = j := by omega
 have e2 : (j * 2 + i) % 2 = i := by omega
 rw [e1, e2] at hg;have ht' : j * 2 + i < (flatK kE.enc 2 ts.toArray).size := by rw [size_flatK]; exact ht
 rw [getElem!_pos (flatK kE.enc 2 ts.toArray) (j * 2 + i) ht'] at hg;have hj' : j < ts.toArray.size := by simpa using hj
 rw [getElem!_pos ts.toArray j hj'] at hg;rw [Array.getElem?_toList, Array.getElem?_eq_getElem ht', hg, el_at hj];have hl : i < (kE.enc ts[j]).length := by rw [kE.len]; exact hi
 simp only [List.getElem_toArray];rw [getElem!_pos (kE.enc ts[j]) i hl, List.getElem?_eq_getElem hl]
/-- A row that the library sorts. -/
theorem kE_holds {lo hi : Nat} {W : World} {g c : Nat} {ts : List (Int × Int)} (h : kE.Fresh lo hi W (some ⟨g, 0, none⟩) c ts) (hn : 0 < ts.length) : HoldsK kE.enc 2 W g 0 ts.toArray := by
 obtain ⟨g2, e2, _, _, _, ho⟩ := h.at hn;obtain rfl : g = g2 := by simp at e2; exact e2
 intro j hj;rw [Nat.zero_add];refine ⟨?_, ho.frozenAt j⟩;rw [ho.cellAt j (by simpa [kE] using hj)];rw [← flatK_kE, Array.getElem?_toList, Array.getElem?_eq_getElem hj, getElem!_pos (flatK kE.enc 2 ts.toArray) j hj]; rfl
theorem kE_sorted {lo hi : Nat} {W : World} {g c n : Nat} {os : Array Obj} {ts us : List (Int × Int)} (h : kE.Fresh lo hi W (some ⟨g, 0, none⟩) c ts) (hn : 0 < ts.length) (hl : us.length = ts.length) :
  kE.Fresh lo hi (sortWorldK kE.enc 2 W g 0 n us.toArray os) (some ⟨g, 0, none⟩) c us ∧ Below lo W (sortWorldK kE.enc 2 W g 0 n us.toArray os) := by
 obtain ⟨g2, e2, hg1, hg2, hg3, ho⟩ := h.at hn;obtain rfl : g = g2 := by simp at e2; exact e2
 have hoth : ∀ k, k < W.heap.size → k ≠ g → (sortWorldK kE.enc 2 W g 0 n us.toArray os).heap[k]? = W.heap[k]? := fun k hk hne => by
  simp only [sortWorldK, grow, putRowK, putRow, mapBlock];rw [Array.getElem?_append_left (by simpa [ahead] using hk), Array.getElem?_modify, if_neg (Ne.symm hne)]; rfl
 refine ⟨?_, rfl, rfl, rfl, size_sortWorldK_c _ _ _ _ _ _ _ _, fun k hk => hoth k (by omega) (by omega)⟩;obtain ⟨hfl, h2⟩ := ho
 rcases h2 with ⟨h', _⟩ | ⟨g', cap', cur, h', hb, hg, k1, k2, k3, k4⟩
 ·simp at h'
 simp only [Value.slice.injEq, Option.some.injEq, Addr.mk.injEq, and_true, true_and] at h';obtain ⟨rfl, rfl⟩ := h';have hF : (flatK kE.enc 2 us.toArray).size = ts.length * 2 := by rw [size_flatK]; simp [hl]
 have hblk : (sortWorldK kE.enc 2 W g 0 n us.toArray os).heap[g]? = some (.cells (putCells id 0 (flatK kE.enc 2 us.toArray) cur) kE.ty (0, 0)) := by
  simp only [sortWorldK, grow, putRowK, putRow, mapBlock];rw [Array.getElem?_append_left (by simpa [ahead] using hg3), Array.getElem?_modify, if_pos rfl, show (Sort.ahead W n).heap[g]? = W.heap[g]? from rfl, hg]; rfl
 refine .inr ⟨g, rfl, hg2, kE.flat_len us, .inr ⟨g, c, _, by rw [hl], hb, hblk, by rw [hl]; exact k1, k2, by simpa [putCells] using k3, ?_⟩⟩;rw [← flatK_kE us];refine List.ext_getElem? fun t => ?_
 have hcs : ts.length * 2 ≤ cur.size := by rw [k3]; exact Nat.mul_le_mul_right _ k1
 have hsz : us.length * kE.sz = ts.length * 2 := by rw [hl]; rfl
 rw [hsz]
 by_cases ht : t < ts.length * 2
 ·have htF : t < (flatK kE.enc 2 us.toArray).size := by rw [hF]; exact ht
  rw [List.getElem?_take_of_lt ht, Array.getElem?_toList, Array.getElem?_toList, putCells, Array.getElem?_mapIdx, Array.getElem?_eq_getElem (show t < cur.size by omega), Option.map_some, if_pos ⟨Nat.zero_le _, by omega⟩, Array.getElem?_eq_getElem htF, Nat.sub_zero, getElem!_pos (flatK kE.enc 2 us.toArray) t htF]; rfl
 ·rw [List.getElem?_eq_none (by simp; omega), List.getElem?_eq_none (by simp [hl]; omega)]
set_option maxHeartbeats 2000000 in
theorem sortedBy_any (ao : Option Addr) (cap : Nat) (ts : List (Int × Int)) (kr : Nat) (w : World) (hl : ts.length ≤ 1048576) (hz : kE.In w.heap.size w ao ts) (hr : kr < w.heap.size) (h0 : w.cell? ⟨kr, 0, none⟩ = some (.func (.func 242) #[] #[])) (h1 : w.cell? ⟨kr, 1, none⟩ = some (.func (.func 243) #[] #[])) :
  Calls Tryz.prog 244 #[.slice ao ts.length cap, .slice (some ⟨kr, 0, none⟩) 2 2] w fun e w' => AnsE w (sortE ts) e w' := by
 obtain ⟨V, hV⟩ : ∃ V, V = w.alloc (.cells #[.slice (some ⟨kr, 0, none⟩) 2 2] 296) := ⟨_, rfl⟩;have hb : Below w.heap.size w V := by rw [hV]; exact below1 _ _
 have XK : Hid (Bx V w.heap.size [.slice (some ⟨kr, 0, none⟩) 2 2]) := by rw [hV]; exact Bx.new [.slice (some ⟨kr, 0, none⟩) 2 2] _ rfl
 have hs : V.heap.size = w.heap.size + 1 := by rw [hV]; simp
 have c0 := (hb.cell (p := ⟨kr, 0, none⟩) hr).trans h0;have c1 := (hb.cell (p := ⟨kr, 1, none⟩) hr).trans h1;have hzV := hz.later hb;have HV := hid hV;have HC := hid (And.intro c0 c1);clear hV h0 h1 hz c0 c1;go_enter Tryz.func244, Tryz.ntmps244;go_wp2_with fail;rw [← HV.out];refine (copyListE_any ao cap ts V hl hzV).mono ?_;rintro e w1 ⟨⟨t9, rfl, hF⟩, hB1⟩;have hBw : Below w.heap.size w w1 := hb.trans (hB1.mono hb.size)
 rcases Nat.eq_zero_or_pos ts.length with hn | hn
 ·obtain rfl : ts = [] := List.length_eq_zero_iff.1 hn;have hcon := AnyF.slices_SortFunc_none (P := Tryz.prog) { Tryz.sortEm with } t9 0 (.func (.func 269) #[] #[.pointer (some ⟨w.heap.size, 0, none⟩)]) w1
  change Calls Tryz.prog 268 _ _ _ at hcon
  have HB := hid hBw;clear hn hF hB1 hBw XK HC hzV hl hs hr HV hb;go_wp2_with (go_at_call 268; refine hcon.mono ?_; rintro e w' ⟨rfl, rfl⟩);go_ret;exact ⟨_, _, by rw [show sortE [] = [] from by simp [sortE]]; rfl, by rw [show sortE [] = [] from by simp [sortE]]; exact Kind.Fresh.nil _ _ _ _ _ _, HB.out⟩
 ·obtain ⟨g, rfl, hg1, hg2, hg3, _⟩ := hF.at hn;have hsz1 := hB1.size;have hcmp : CmpLays Tryz.prog 269 #[.pointer (some ⟨w.heap.size, 0, none⟩)] kE.enc 2 cmpE g 0 ts.toArray.size w1 := by
   intro m os dk hdk x y;have hcell : ∀ a : Addr, a.block < V.heap.size → ∀ v, V.cell? a = some v → (sortWorldK kE.enc 2 w1 g 0 m dk os).cell? a = some v := fun a ha v hv => by
    unfold sortWorldK
    rw [cell?_grow _ _ _ (by rw [size_putRowK]; exact Nat.lt_of_lt_of_le ha hsz1), cell?_putRowK_other _ _ _ _ _ _ a (by omega)];exact (hB1.cell ha).trans hv
   have hsw := size_sortWorldK_c kE.enc 2 w1 g 0 m dk os;exact cmpCl_any x.1 x.2 y.1 y.2 w.heap.size kr _ (by omega) (by omega) (hcell ⟨w.heap.size, 0, none⟩ (by simp only [hs]; omega) _ (XK.out.c 0 rfl)) (hcell ⟨kr, 0, none⟩ (by simp only [hs]; omega) _ HC.out.1) (hcell ⟨kr, 1, none⟩ (by simp only [hs]; omega) _ HC.out.2)
  have eg : ∀ args w, (callFunc 269 args).run Tryz.prog w = .ok (.enter 269 args) w := enters_of Tryz.func269 (by kernel_rfl) rfl;have hcon := AnyQ.slices_SortFunc_total Tryz.sortEm 2 Tryz.isAgg199 Tryz.sizeOf199 kE.enc kE.len kE.one cmpE cmpE_swo 269 #[.pointer (some ⟨w.heap.size, 0, none⟩)] g 0 ts.length ts.toArray w1 eg hcmp (kE_holds hF hn) hg3 (by simp; omega) cmpE_total
  change Calls Tryz.prog 268 _ _ _ at hcon
  rw [show (ts.toArray.toList.mergeSort fun x y => !(ltOf cmpE) y x) = sortE ts from by simp only [cmpE_neg, sortE], show ts.toArray.size = ts.length from by simp] at hcon;have HF := hid (fun n os => kE_sorted (n := n) (os := os) hF hn (sortE_len ts));have HB := hid hBw;have HS := hid hsz1;have HVS := hid hs;clear hn hF hB1 hBw XK HC hzV hs hr HV hb hcmp eg hsz1;go_wp2_with (go_at_call 268; refine hcon.mono ?_; rintro e w2 ⟨rfl, n, os, rfl⟩);go_ret;have h := HF.out n os;have hv := HVS.out;refine ⟨_, _, by rw [sortE_len]; rfl, (h.1.wide (by omega) (size_sortWorldK_c _ _ _ _ _ _ _ _)), HB.out.trans (h.2.mono (by omega))⟩
end
section
open Go.RowKit

/-- What SortEmits answers. -/
def sortR (ts : List (Int × Int)) : List (Int × Int) × Bool := if 400 < ts.length then ([], false) else (sortE ts, true)
/-- A row of emits of its own, and whether. -/
def AnsEB (w : World) (R : List (Int × Int) × Bool) (e : Ending) (w' : World) : Prop :=
 (∃ o c, e = .returned (.tuple #[.slice o R.1.length c, .bool R.2]) ∧ kE.Fresh w.heap.size w'.heap.size w' o c R.1) ∧ Below w.heap.size w w'
set_option maxHeartbeats 1000000 in
theorem implSort_any (ao : Option Addr) (cap : Nat) (ts : List (Int × Int)) (w : World) (hl : ts.length ≤ 1048576) (hz : kE.In w.heap.size w ao ts) :
  Calls Tryz.prog 209 #[.slice ao ts.length cap] w fun e w' => AnsEB w (sortR ts) e w' := by
 by_cases h : 400 < ts.length
 ·have e : sortR ts = ([], false) := if_pos h;rw [e];have h' : decide ((400 : Int) < (ts.length : Int)) = true := by simp; omega
  clear e h;go_enter Tryz.func209, Tryz.ntmps209;go_wp2;refine bodyPost_ret (v := .tuple #[.slice none 0 0, .bool false]) (by simp [results, Tryz.results209, go_sem]) rfl ?_;exact ⟨⟨none, 0, rfl, Kind.Fresh.nil _ _ _ _ _ _⟩, Below.refl _ _⟩
 ·have e : sortR ts = (sortE ts, true) := if_neg h;rw [e];have h' : decide ((400 : Int) < (ts.length : Int)) = false := by simp; omega
  clear e h;obtain ⟨V, hV⟩ : ∃ V, V = w.alloc (.cells #[.func (.func 242) #[] #[], .func (.func 243) #[] #[]] 274) := ⟨_, rfl⟩;have hb : Below w.heap.size w V := by rw [hV]; exact below1 _ _
  have XK : Hid (Bx V w.heap.size [.func (.func 242) #[] #[], .func (.func 243) #[] #[]]) := by rw [hV]; exact Bx.new [.func (.func 242) #[] #[], .func (.func 243) #[] #[]] _ rfl
  have hs : w.heap.size < V.heap.size := by rw [hV]; simp
  have hcon := sortedBy_any ao cap ts w.heap.size V hl (hz.later hb) hs (XK.out.c 0 rfl) (XK.out.c 1 rfl);have HV := hid hV;have HB := hid hb;clear hV XK hz hs hb;go_enter Tryz.func209, Tryz.ntmps209;go_wp2_with fail;rw [← HV.out];refine hcon.mono ?_;rintro e w1 ⟨o, c, rfl, hF, hB⟩;have H := hid (And.intro (hF.wide HB.out.size (Nat.le_refl _)) (HB.out.trans (hB.mono HB.out.size)));clear hF hB;go_wp2;refine bodyPost_ret (v := .tuple #[.slice o (sortE ts).length c, .bool true]) (by simp [results, Tryz.results209, go_sem]) rfl ?_;exact ⟨⟨o, c, rfl, H.out.1⟩, H.out.2⟩
end
section
open Go.RowKit

/-- What MeaningOf answers. -/
def meanR (gs : List PNode) (k v : Int) : List (Int × Int) × Bool :=
 if codeG gs = 0 ∧ 0 ≤ k ∧ k < (gs.length : Int) ∧ valB v = true ∧ widP gs ≤ 100000 then sortR (meanG gs k.toNat v) else ([], false)
theorem sortE_perm (l : List (Int × Int)) : (sortE l).Perm l := List.mergeSort_perm _ _
theorem sortE_same {l r : List (Int × Int)} (h : l.Perm r) : sortE l = sortE r := sorted_one _ _ ((sortE_perm l).trans (h.trans (sortE_perm r).symm)) (sortE_pair l) (sortE_pair r)
theorem sortR_same {l r : List (Int × Int)} (h : l.Perm r) : sortR l = sortR r := by unfold sortR; rw [h.length_eq, sortE_same h]
theorem good_sts {gs : List PNode} (h : brk gs 2 = false) : GoodSts gs := fun k hk => by
 have := brk_at h hk;simp only [prule, Int.toNat_natCast] at this
 simpa using this
set_option maxRecDepth 10000 in
set_option maxHeartbeats 4000000 in
theorem implMean_is (ao : Option Addr) (cap : Nat) (ts : List LNode) (k v : Int) (ea : Nat → Addr) (w : World) (hC : Roomy ts cap) (hE : Errs w ea) (hz : DIn dNode w.heap.size w ao ts) :
  Calls Tryz.prog 170 #[.slice ao ts.length cap, .int .i64 k, .int .i64 v] w (AnsEB w (meanR (ts.map valNode) k v)) := by
 have hcon := goodGraph_is ao cap ts ea w hC hE hz;have HZ := hid hz;have HFi := hid hC.fitN;have hgl : (ts.map valNode).length = ts.length := val_len ts;clear hz hE hC
 by_cases h0 : codeG (ts.map valNode) = 0
 ·obtain ⟨hm, hbk, hor⟩ := codeG_zero h0;have HED := hid (edges_of (by omega) (hbk 4 (by omega)));have HOR := hid hor;have HGS := hid (good_sts (hbk 2 (by omega)));have h1 : 1 ≤ ts.length := by rw [val_len] at hm; omega
  rw [decide_eq_true h0] at hcon;have H0 := hid h0;have HGL := hid hgl;clear h0 hm hbk hor hgl
  by_cases hk1 : k < 0
  ·have HV : Hid (meanR (ts.map valNode) k v = ([], false)) := if_neg (by omega);go_enter Tryz.func170, Tryz.ntmps170;go_wp2_with fail;refine hcon.mono ?_;rintro e w1 ⟨rfl, hb1⟩;have hB1 : Below w.heap.size w w1 := hb1;clear hb1;go_wp2;rw [HV.out];refine bodyPost_ret (v := .tuple #[.slice none 0 0, .bool false]) (by simp [results, Tryz.results170, go_sem]) rfl ?_;exact ⟨⟨none, 0, rfl, Kind.Fresh.nil _ _ _ _ _ _⟩, hB1⟩
  ·have hk1' : 0 ≤ k := by omega
   by_cases hk2 : (ts.length : Int) ≤ k
   ·have HV : Hid (meanR (ts.map valNode) k v = ([], false)) := if_neg (by have := HGL.out; omega);go_enter Tryz.func170, Tryz.ntmps170;go_wp2_with fail;refine hcon.mono ?_;rintro e w1 ⟨rfl, hb1⟩;have hB1 : Below w.heap.size w w1 := hb1;clear hb1;go_wp2;rw [HV.out];refine bodyPost_ret (v := .tuple #[.slice none 0 0, .bool false]) (by simp [results, Tryz.results170, go_sem]) rfl ?_;exact ⟨⟨none, 0, rfl, Kind.Fresh.nil _ _ _ _ _ _⟩, hB1⟩
   ·have hk2' : k < (ts.length : Int) := by omega
    cases hv : valB v with
    | false =>
     have HV : Hid (meanR (ts.map valNode) k v = ([], false)) := if_neg (by rw [hv]; simp);go_enter Tryz.func170, Tryz.ntmps170;go_wp2_with fail;refine hcon.mono ?_;rintro e w1 ⟨rfl, hb1⟩;have hB1 : Below w.heap.size w w1 := hb1;clear hb1;go_wp2_with fail;refine (isValue_is v _ false hv).mono ?_;rintro e w2 ⟨rfl, rfl⟩;dsimp only;go_wp2;rw [HV.out];refine bodyPost_ret (v := .tuple #[.slice none 0 0, .bool false]) (by simp [results, Tryz.results170, go_sem]) rfl ?_;exact ⟨⟨none, 0, rfl, Kind.Fresh.nil _ _ _ _ _ _⟩, hB1⟩
    | true =>
     by_cases hw : 100000 < widP (ts.map valNode)
     ·have HV : Hid (meanR (ts.map valNode) k v = ([], false)) := if_neg (by omega);have hw' : decide (100000 < widP (ts.map valNode)) = true := by simpa using hw
      have HVV := hid hv;go_enter Tryz.func170, Tryz.ntmps170;go_wp2_with fail;refine hcon.mono ?_;rintro e w1 ⟨rfl, hb1⟩;have hB1 : Below w.heap.size w w1 := hb1;clear hb1;go_wp2_with fail;refine (isValue_is v _ true HVV.out).mono ?_;rintro e w2 ⟨rfl, rfl⟩;dsimp only;go_wp2_with fail;refine (widestIn_is ao cap ts w2 HFi.out (by omega) HED.out (HZ.out.later dNode_ok hB1)).mono ?_;rintro e w3 ⟨rfl, hb3⟩;have hB3 := hB1.trans (hb3.mono hB1.size);clear hb3;dsimp only;go_wp2;rw [HV.out];refine bodyPost_ret (v := .tuple #[.slice none 0 0, .bool false]) (by simp [results, Tryz.results170, go_sem]) rfl ?_;exact ⟨⟨none, 0, rfl, Kind.Fresh.nil _ _ _ _ _ _⟩, hB3⟩
     ·have HV : Hid (meanR (ts.map valNode) k v = sortR (meanG (ts.map valNode) k.toNat v)) := if_pos ⟨H0.out, hk1', by rw [HGL.out]; exact hk2', hv, by omega⟩;have hw' : decide (100000 < widP (ts.map valNode)) = false := by simpa using hw
      have HVV := hid hv;obtain ⟨n, rfl⟩ : ∃ n : Nat, k = (n : Int) := ⟨k.toNat, by omega⟩;rw [Int.toNat_natCast] at HV;have HWW : Hid (widP (ts.map valNode) ≤ 100000) := by rw [Hid]; omega
      have hnl : n < ts.length := by omega
      have HPM := hid (sortR_same (emit_perm (orderP_ordd HOR.out) HED.out (k := n) (by rw [HGL.out]; exact hnl) v));have HML := hid (Int.le_trans (mean_len (orderP_ordd HOR.out) HED.out HGS.out _ n v (by rw [HGL.out]; exact hnl) (Nat.le_refl _)) (Int.le_trans (wdP_le (by rw [HGL.out]; exact hnl)) HWW.out));have HPL := hid ((emit_perm (orderP_ordd HOR.out) HED.out (k := n) (by rw [HGL.out]; exact hnl) v).length_eq);rw [← HPM.out] at HV;go_enter Tryz.func170, Tryz.ntmps170;go_wp2_with fail;refine hcon.mono ?_;rintro e w1 ⟨rfl, hb1⟩;have hB1 : Below w.heap.size w w1 := hb1;clear hb1;go_wp2_with fail;refine (isValue_is v _ true HVV.out).mono ?_;rintro e w2 ⟨rfl, rfl⟩;dsimp only;go_wp2_with fail;refine (widestIn_is ao cap ts w2 HFi.out (by omega) HED.out (HZ.out.later dNode_ok hB1)).mono ?_;rintro e w3 ⟨rfl, hb3⟩;have hB3 := hB1.trans (hb3.mono hB1.size);clear hb3;dsimp only;go_wp2_with fail;refine (emitsOf_is ao cap ts w3 n v HED.out HOR.out HGS.out hnl HVV.out HWW.out HFi.out (HZ.out.later dNode_ok hB3)).mono ?_;rintro e w4 ⟨⟨go4, gc4, rfl, hno4, hF4⟩, hb4⟩;have HF4 := hid hF4.in;have hB4 := hB3.trans (hb4.mono hB3.size);have hl4 : (emitP (ts.map valNode) n v).length ≤ 1048576 := by
       have h1 := HML.out;have h2 := HPL.out
       unfold emitP
       omega
      have HV' : Hid (meanR (ts.map valNode) (n : Int) v = sortR (emitP (ts.map valNode) n v)) := HV.out;clear hF4 hb4 HML HPL HPM HV
      generalize emitP (ts.map valNode) n v = E at HF4 hl4 HV'
      dsimp only;go_wp2_with fail;refine (implSort_any go4 gc4 E w4 hl4 HF4.out).mono ?_;rw [← HV'.out];rintro e w5 ⟨⟨o5, c5, rfl, hF5⟩, hb5⟩;have hB5 := hB4.trans (hb5.mono hB4.size);have HF5 := hid hF5;clear hF5 hb5;dsimp only;go_wp2;refine bodyPost_ret (v := .tuple #[.slice o5 (meanR (ts.map valNode) (n : Int) v).1.length c5, .bool (meanR (ts.map valNode) (n : Int) v).2]) (by simp [results, Tryz.results170, go_sem]) rfl ?_;exact ⟨⟨o5, c5, rfl, HF5.out.wide hB4.size (Nat.le_refl _)⟩, hB5⟩
 ·have HV : Hid (meanR (ts.map valNode) k v = ([], false)) := if_neg fun h => h0 h.1
  rw [decide_eq_false h0] at hcon;clear h0;go_enter Tryz.func170, Tryz.ntmps170;go_wp2_with fail;refine hcon.mono ?_;rintro e w1 ⟨rfl, hb1⟩;have hB1 : Below w.heap.size w w1 := hb1;clear hb1;go_wp2;rw [HV.out];refine bodyPost_ret (v := .tuple #[.slice none 0 0, .bool false]) (by simp [results, Tryz.results170, go_sem]) rfl ?_;exact ⟨⟨none, 0, rfl, Kind.Fresh.nil _ _ _ _ _ _⟩, hB1⟩
set_option maxRecDepth 10000 in
set_option maxHeartbeats 4000000 in
theorem specMean_is (ao : Option Addr) (cap : Nat) (ts : List LNode) (k v : Int) (w : World) (hC : Roomy ts cap) (hz : DIn dNode w.heap.size w ao ts) :
  Calls Tryz.prog 143 #[.slice ao ts.length cap, .int .i64 k, .int .i64 v] w (AnsEB w (meanR (ts.map valNode) k v)) := by
 have hcon := specCheck_is ao cap ts w hC hz;have HZ := hid hz;have hgl : (ts.map valNode).length = ts.length := val_len ts;clear hz hC
 by_cases h0 : codeG (ts.map valNode) = 0
 ·obtain ⟨hm, hbk, hor⟩ := codeG_zero h0;have HED := hid (edges_of (by omega) (hbk 4 (by omega)));have HOR := hid hor;have HGS := hid (good_sts (hbk 2 (by omega)));have h1 : 1 ≤ ts.length := by rw [val_len] at hm; omega
  have h10 : ts.length ≤ 10 := by rw [val_len] at hm; omega
  rw [h0] at hcon;have H0 := hid h0;have HGL := hid hgl;clear h0 hm hbk hor hgl
  by_cases hk : 0 ≤ k ∧ k < (ts.length : Int)
  ·have HIN : Hid ((decide (0 ≤ k) && decide (k ≤ (ts.length : Int) - 1)) = true) := by rw [Hid]; simp; omega
   have HK := hid hk;clear hk
   cases hv : valB v with
   | false =>
    have HV : Hid (meanR (ts.map valNode) k v = ([], false)) := if_neg (by rw [hv]; simp);have HVV := hid hv;go_enter Tryz.func143, Tryz.ntmps143;go_wp2_with fail;refine hcon.mono ?_;rintro e w1 ⟨rfl, hb1⟩;have hB1 : Below w.heap.size w w1 := hb1;clear hb1;go_wp2_with fail;refine (l1In_is k 0 ((ts.length : Int) - 1) _ true HIN.out).mono ?_;rintro e w2 ⟨rfl, rfl⟩;dsimp only;go_wp2_with fail;refine (l7Value_is v _ false HVV.out).mono ?_;rintro e w2 ⟨rfl, rfl⟩;dsimp only;go_wp2;rw [HV.out];refine bodyPost_ret (v := .tuple #[.slice none 0 0, .bool false]) (by simp [results, Tryz.results143, go_sem]) rfl ?_;exact ⟨⟨none, 0, rfl, Kind.Fresh.nil _ _ _ _ _ _⟩, hB1⟩
   | true =>
    have HVV := hid hv
    by_cases hw : 100000 < widP (ts.map valNode)
    ·have HV : Hid (meanR (ts.map valNode) k v = ([], false)) := if_neg (by omega);have hw' : decide (100000 < widP (ts.map valNode)) = true := by simpa using hw
     go_enter Tryz.func143, Tryz.ntmps143;go_wp2_with fail;refine hcon.mono ?_;rintro e w1 ⟨rfl, hb1⟩;have hB1 : Below w.heap.size w w1 := hb1;clear hb1;go_wp2_with fail;refine (l1In_is k 0 ((ts.length : Int) - 1) _ true HIN.out).mono ?_;rintro e w2 ⟨rfl, rfl⟩;dsimp only;go_wp2_with fail;refine (l7Value_is v _ true HVV.out).mono ?_;rintro e w2 ⟨rfl, rfl⟩;dsimp only;go_wp2_with fail;refine (l11Widest_is ao cap ts w2 HED.out HOR.out (HZ.out.later dNode_ok hB1)).mono ?_;rintro e w3 ⟨rfl, hb3⟩;have hB3 := hB1.trans (hb3.mono hB1.size);clear hb3;dsimp only;go_wp2;rw [HV.out];refine bodyPost_ret (v := .tuple #[.slice none 0 0, .bool false]) (by simp [results, Tryz.results143, go_sem]) rfl ?_;exact ⟨⟨none, 0, rfl, Kind.Fresh.nil _ _ _ _ _ _⟩, hB3⟩
    ·have HV : Hid (meanR (ts.map valNode) k v = sortR (meanG (ts.map valNode) k.toNat v)) := if_pos ⟨H0.out, HK.out.1, by rw [HGL.out]; exact HK.out.2, hv, by omega⟩;have hw' : decide (100000 < widP (ts.map valNode)) = false := by simpa using hw
     obtain ⟨n, rfl⟩ : ∃ n : Nat, k = (n : Int) := ⟨k.toNat, by have := HK.out; omega⟩;rw [Int.toNat_natCast] at HV;have hnl : n < ts.length := by have := HK.out; omega
     go_enter Tryz.func143, Tryz.ntmps143;go_wp2_with fail;refine hcon.mono ?_;rintro e w1 ⟨rfl, hb1⟩;have hB1 : Below w.heap.size w w1 := hb1;clear hb1;go_wp2_with fail;refine (l1In_is (n : Int) 0 ((ts.length : Int) - 1) _ true HIN.out).mono ?_;rintro e w2 ⟨rfl, rfl⟩;dsimp only;go_wp2_with fail;refine (l7Value_is v _ true HVV.out).mono ?_;rintro e w2 ⟨rfl, rfl⟩;dsimp only;go_wp2_with fail;refine (l11Widest_is ao cap ts w2 HED.out HOR.out (HZ.out.later dNode_ok hB1)).mono ?_;rintro e w3 ⟨rfl, hb3⟩;have hB3 := hB1.trans (hb3.mono hB1.size);clear hb3;dsimp only;go_wp2_with fail;refine (l11Mean_is ao cap ts _ (orderP_ordd HOR.out) HED.out HGS.out n v w3 hnl HVV.out (HZ.out.later dNode_ok hB3)).mono ?_;rintro e w4 ⟨go4, gc4, r, rfl, hno4, hF4, hT4, hl4, hb4⟩;have HF4 := hid hF4.in;have hB4 := hB3.trans (hb4.mono hB3.size);have HT4 := hid hT4;clear hF4 hb4 hT4;dsimp only
     by_cases h4 : 400 < r.length
     ·have HVF : Hid (meanR (ts.map valNode) (n : Int) v = ([], false)) := by
       rw [Hid, HV.out, sortR, if_pos]
       rcases HT4.out with h | ⟨_, h⟩
       ·rw [List.nil_append] at h; rw [← h]; exact h4
       ·simp at h; omega
      have h4' : decide ((400 : Int) < (r.length : Int)) = true := by simp; omega
      clear h4;go_wp2;rw [HVF.out];refine bodyPost_ret (v := .tuple #[.slice none 0 0, .bool false]) (by simp [results, Tryz.results143, go_sem]) rfl ?_;exact ⟨⟨none, 0, rfl, Kind.Fresh.nil _ _ _ _ _ _⟩, hB4⟩
     ·have HVF : Hid (meanR (ts.map valNode) (n : Int) v = (sortE r, true)) := by
       rcases HT4.out with h | ⟨h, _⟩
       ·rw [List.nil_append] at h; rw [Hid, HV.out, sortR, ← h, if_neg h4]
       ·omega
      have h4' : decide ((400 : Int) < (r.length : Int)) = false := by simp; omega
      clear h4;go_wp2_with fail;refine (l11Sort_any go4 gc4 r w4 (by omega) HF4.out hno4).mono ?_;rintro e w5 ⟨o5, c5, rfl, hF5, hb5⟩;have hB5 := hB4.trans (hb5.mono hB4.size);have HF5 := hid hF5;clear hF5 hb5;dsimp only;go_wp2;rw [HVF.out];refine bodyPost_ret (v := .tuple #[.slice o5 (sortE r).length c5, .bool true]) (by simp [results, Tryz.results143, go_sem]) rfl ?_;exact ⟨⟨o5, c5, rfl, HF5.out.wide hB4.size (Nat.le_refl _)⟩, hB5⟩
  ·have HV : Hid (meanR (ts.map valNode) k v = ([], false)) := if_neg (by have := HGL.out; omega);have HIN : Hid ((decide (0 ≤ k) && decide (k ≤ (ts.length : Int) - 1)) = false) := by rw [Hid]; simp; omega
   clear hk;go_enter Tryz.func143, Tryz.ntmps143;go_wp2_with fail;refine hcon.mono ?_;rintro e w1 ⟨rfl, hb1⟩;have hB1 : Below w.heap.size w w1 := hb1;clear hb1;go_wp2_with fail;refine (l1In_is k 0 ((ts.length : Int) - 1) _ false HIN.out).mono ?_;rintro e w2 ⟨rfl, rfl⟩;dsimp only;go_wp2;rw [HV.out];refine bodyPost_ret (v := .tuple #[.slice none 0 0, .bool false]) (by simp [results, Tryz.results143, go_sem]) rfl ?_;exact ⟨⟨none, 0, rfl, Kind.Fresh.nil _ _ _ _ _ _⟩, hB1⟩
 ·have HV : Hid (meanR (ts.map valNode) k v = ([], false)) := if_neg fun h => h0 h.1
  have hc0 : ((codeG (ts.map valNode) : Nat) : Int) ≠ 0 := by omega
  have hc1 : (((codeG (ts.map valNode) : Nat) : Int) == 0) = false := by simp; omega
  generalize codeG (ts.map valNode) = cd at hcon hc0 hc1
  clear h0;go_enter Tryz.func143, Tryz.ntmps143;go_wp2_with fail;refine hcon.mono ?_;rintro e w1 ⟨rfl, hb1⟩;have hB1 : Below w.heap.size w w1 := hb1;clear hb1;go_wp2;rw [HV.out];refine bodyPost_ret (v := .tuple #[.slice none 0 0, .bool false]) (by simp [results, Tryz.results143, go_sem]) rfl ?_;exact ⟨⟨none, 0, rfl, Kind.Fresh.nil _ _ _ _ _ _⟩, hB1⟩
end
end Go.Proofs.YtdacedbfnlkghaaGreatDoor
