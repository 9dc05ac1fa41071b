/- Stepping the last that can: the program. No conditions but those written. Running out: the program. No conditions but those written. Running out: both sides. No conditions but those written. Marks of rows of moves. No conditions but those written. -/
import Derived.Test.YtoeonbdoopboiaaGreatDoorPCvbRns
import Derived.Test.YtoeonbdoopboiaaGreatDoorPYtYj
import Derived.Test.YtoeonbdoopboiaaGreatDoorPWyYs
import Derived.Test.YtoeonbdoopboiaaGreatDoorPPmaPpa
import Derived.Test.YtoeonbdoopboiaaGreatDoorPSpiMvr
namespace Go.Proofs.YtoeonbdoopboiaaGreatDoor
section
open Go.RowKit Go.Shelf

theorem lastS_none {gs : List PNode} {s : PP} : ∀ {l : List Int}, (∀ i, i < l.length → (stepR gs s (el l i)).1 ≠ 0) → lastS gs l s = (false, s)
  | [], _ => rfl
  | x :: r, h => by
    have h0 := h 0 (by simp)
    rw [el_zero] at h0
    rw [lastS, if_neg h0]
    exact lastS_none fun i hi => by have := h (i + 1) (by simp; omega); rwa [el_cons] at this
theorem lastS_at {gs : List PNode} {s : PP} : ∀ {l : List Int} {k : Nat}, k < l.length → (∀ i, i < k → (stepR gs s (el l i)).1 ≠ 0) → (stepR gs s (el l k)).1 = 0 → lastS gs l s = (true, (stepR gs s (el l k)).2)
  | [], _, h, _, _ => by simp at h
  | x :: r, 0, _, _, h0 => by rw [el_zero] at h0 ⊢; rw [lastS, if_pos h0]
  | x :: r, k + 1, hk, h, h0 => by
    have h1 := h 0 (by omega)
    rw [el_zero] at h1
    rw [el_cons] at h0 ⊢
    rw [lastS, if_neg h1]
    exact lastS_at (by simpa using hk) (fun i hi => by have := h (i + 1) (by omega); rwa [el_cons] at this) h0
theorem own_cellsR {α : Type} {K : Kind α} {lo : Nat} {W : World} {v : Value} {xs : List α} (h : K.Own lo W v xs) {b : Nat} (hb : v.ownBlock = some b) : ∃ o : Obj, W.heap[b]? = some o ∧ o.isCells = true := by
  rcases h.2 with ⟨e, _⟩ | ⟨g, cap, cur, e, hg, hh, _⟩
  · subst e; simp [Value.ownBlock] at hb
  · subst e; simp [Value.ownBlock] at hb; subst hb; exact ⟨_, hh, rfl⟩
theorem Flow.cells {lo : Nat} {W : World} {p bb : Nat} {gv sv : Value} {xs : List Value} {ev fv uv : Value} {s : PP} (h : Flow lo W p bb gv sv xs ev fv uv s) {b : Nat} (hb : FO p bb xs ev fv uv b) : ∃ o : Obj, W.heap[b]? = some o ∧ o.isCells = true := by
  rcases hb with rfl | rfl | ⟨j, hj, hb⟩ | hb | hb | hb
  · exact cells_of_cell (h.box.c 0 rfl)
  · rcases h.hnd.head.2 with ⟨e, _⟩ | ⟨g, cap, cur, e, hg, hh, _⟩
    · cases e
    · obtain ⟨rfl, _⟩ : _ = g ∧ _ := by simp at e; exact e
      exact ⟨_, hh, rfl⟩
  · exact own_cellsR (h.hnd.row j (by rw [← h.hnd.len]; exact hj)) hb
  · exact own_cellsR h.emo hb
  · exact own_cellsR h.fao hb
  · exact own_cellsR h.fuo hb
/-- A step with its rows named. -/
structure FY (lo p : Nat) (gv sv : Value) (O : Nat → Prop) (W W' : World) (bb : Nat) (xs : List Value) (ev fv uv : Value) (s : PP) : Prop where
  flow : Flow lo W' p bb gv sv xs ev fv uv s
  old : ∀ b, FO p bb xs ev fv uv b → O b ∨ W.heap.size ≤ b
  low : Below lo W W'
  kept : ∀ b, b < W.heap.size → ¬ O b → W'.heap[b]? = W.heap[b]?
theorem FY.step {lo p : Nat} {gv sv : Value} {O : Nat → Prop} {W W' : World} {bb : Nat} {xs : List Value} {ev fv uv : Value} {s : PP} (h : FY lo p gv sv O W W' bb xs ev fv uv s) : FStep lo p gv sv O W W' s :=
  ⟨_, ⟨bb, xs, ev, fv, uv, h.flow, fun _ hb => hb⟩, h.old, h.low, h.kept⟩
theorem FStep.fy {lo p : Nat} {gv sv : Value} {O : Nat → Prop} {W W' : World} {s : PP} (h : FStep lo p gv sv O W W' s) : ∃ bb xs ev fv uv, FY lo p gv sv O W W' bb xs ev fv uv s := by
  obtain ⟨O', ⟨bb, xs, ev, fv, uv, F, hF⟩, hs, hb, hk⟩ := h
  exact ⟨bb, xs, ev, fv, uv, F, fun b h1 => hs b (hF b h1), hb, hk⟩
theorem FY.refl {lo p : Nat} {gv sv : Value} {W : World} {bb : Nat} {xs : List Value} {ev fv uv : Value} {s : PP} (h : Flow lo W p bb gv sv xs ev fv uv s) : FY lo p gv sv (FO p bb xs ev fv uv) W W bb xs ev fv uv s :=
  ⟨h, fun _ hb => .inl hb, Below.refl _ _, fun _ _ _ => rfl⟩
theorem Flow.lo_le {lo p : Nat} {gv sv : Value} {W : World} {bb : Nat} {xs : List Value} {ev fv uv : Value} {s : PP} (h : Flow lo W p bb gv sv xs ev fv uv s) : lo ≤ W.heap.size := Nat.le_of_lt (Nat.lt_of_le_of_lt h.lop h.box.size)
theorem FY.later {lo p : Nat} {gv sv : Value} {O : Nat → Prop} {W W1 V : World} {bb : Nat} {xs : List Value} {ev fv uv : Value} {s : PP} (h : FY lo p gv sv O W W1 bb xs ev fv uv s) (hb : Below W1.heap.size W1 V) : FY lo p gv sv O W V bb xs ev fv uv s :=
  ⟨h.flow.later hb, h.old, h.low.trans (hb.mono h.flow.lo_le), fun b h1 h2 => (hb.block b (Nat.lt_of_lt_of_le h1 h.low.size)).trans (h.kept b h1 h2)⟩
theorem FY.trans {lo p : Nat} {gv sv : Value} {O : Nat → Prop} {W W1 W2 : World} {bb bb2 : Nat} {xs xs2 : List Value} {ev fv uv ev2 fv2 uv2 : Value} {s s2 : PP} (h : FY lo p gv sv O W W1 bb xs ev fv uv s) (h2 : FY lo p gv sv (FO p bb xs ev fv uv) W1 W2 bb2 xs2 ev2 fv2 uv2 s2) : FY lo p gv sv O W W2 bb2 xs2 ev2 fv2 uv2 s2 := by
  have hz := h.low.size
  refine ⟨h2.flow, fun b h1 => ?_, h.low.trans h2.low, fun b h1 h3 => ?_⟩
  · rcases h2.old b h1 with h4 | h4
    · exact h.old b h4
    · exact .inr (by omega)
  · have hn : ¬ FO p bb xs ev fv uv b := fun h4 => by
      rcases h.old b h4 with h5 | h5
      · exact h3 h5
      · omega
    exact (h2.kept b (by omega) hn).trans (h.kept b h1 h3)
/-- Only cells are turned. -/
theorem FY.others {lo p : Nat} {gv sv : Value} {W W' : World} {bb bb2 : Nat} {xs xs2 : List Value} {ev fv uv ev2 fv2 uv2 : Value} {s s2 : PP} (hF : Flow lo W p bb gv sv xs ev fv uv s) (h : FY lo p gv sv (FO p bb xs ev fv uv) W W' bb2 xs2 ev2 fv2 uv2 s2) : KeepsOthers W W' :=
  ⟨h.low.size, fun k o h1 ho => (h.kept k (Array.getElem?_eq_some_iff.1 h1).1 (fun hO => by
    obtain ⟨o2, h2, hc⟩ := hF.cells hO
    rw [h1] at h2; cases h2; rw [ho] at hc; cases hc)).trans h1⟩
/-- Where something that is no cells turns, beyond. -/
theorem FY.grown {lo p S : Nat} {gv sv : Value} {O : Nat → Prop} {W W1 V : World} {bb : Nat} {xs : List Value} {ev fv uv : Value} {s : PP} {row : Option Nat} (h : FY lo p gv sv O W W1 bb xs ev fv uv s) (hS : W.heap.size ≤ S) (hl : lo ≤ S) (hg : W1.grownBy V row) (hr : ∀ r, row = some r → S ≤ r ∧ ∃ o : Obj, W1.heap[r]? = some o ∧ o.isCells = false) : FY lo p gv sv O W V bb xs ev fv uv s := by
  have hsz := h.low.size
  refine ⟨h.flow.keep hg.size fun b hb => by obtain ⟨o, ho, hc⟩ := h.flow.cells hb; exact grownBy_keeps_cells hg (fun r e => (hr r e).2) ho hc, h.old, ?_, fun b h1 h2 => ?_⟩
  · exact h.low.grown hg h.flow.lo_le fun k e => by have := (hr k e).1; omega
  · exact (hg.block b (by omega) fun e => by have := (hr b e.symm).1; omega).trans (h.kept b h1 h2)
/-- Between two rounds. -/
structure LInv (gs : List PNode) (R : List Int) (lo p : Nat) (gv sv : Value) (O : Nat → Prop) (W0 : World) (s : PP) (B b Bs S : Nat) (pre : List Nat) (W : World) : Prop where
  fy : ∃ bb xs ev fv uv, FY lo p gv sv O W0 W bb xs ev fv uv s ∧ ∀ x, (x = B ∨ x = B + 1 ∨ x = b ∨ x = Bs) → ¬ FO p bb xs ev fv uv x
  box : Bx W B [.pointer (some ⟨p, 0, none⟩)]
  res : Bx W (B + 1) [.bool false]
  no : ∀ i ∈ pre, (stepR gs s (el R.reverse i)).1 ≠ 0
  siz : S ≤ W.heap.size
/-- Where a round has left. -/
structure LRet (gs : List PNode) (R : List Int) (lo p : Nat) (gv sv : Value) (O : Nat → Prop) (W0 : World) (s : PP) (B : Nat) (c : Code) (pre : List Nat) (W : World) : Prop where
  ret : c = .ret
  spot : ∃ pre0 x, pre = pre0 ++ [x] ∧ (∀ i ∈ pre0, (stepR gs s (el R.reverse i)).1 ≠ 0) ∧ (stepR gs s (el R.reverse x)).1 = 0 ∧ ∃ bb xs ev fv uv, FY lo p gv sv O W0 W bb xs ev fv uv (stepR gs s (el R.reverse x)).2
  res : Bx W (B + 1) [.bool true]
theorem LInv.kept {gs : List PNode} {R : List Int} {lo p : Nat} {gv sv : Value} {O : Nat → Prop} {W0 : World} {s : PP} {B b Bs S S2 : Nat} {pre : List Nat} {W W' : World} {row : Option Nat} (h : LInv gs R lo p gv sv O W0 s B b Bs S pre W) (h1 : W0.heap.size ≤ S2) (h2 : lo ≤ S2) (hg : W.grownBy W' row) (hr : ∀ r, row = some r → S2 ≤ r ∧ ∃ o : Obj, W.heap[r]? = some o ∧ o.isCells = false) : LInv gs R lo p gv sv O W0 s B b Bs S pre W' := by
  obtain ⟨bb, xs, ev, fv, uv, hf, hn⟩ := h.fy
  exact ⟨⟨bb, xs, ev, fv, uv, hf.grown h1 h2 hg hr, hn⟩, h.box.kept hg (fun r e => (hr r e).2), h.res.kept hg (fun r e => (hr r e).2), h.no, Nat.le_trans h.siz hg.size⟩
theorem LRet.kept {gs : List PNode} {R : List Int} {lo p : Nat} {gv sv : Value} {O : Nat → Prop} {W0 : World} {s : PP} {B S2 : Nat} {c : Code} {pre : List Nat} {W W' : World} {row : Option Nat} (h : LRet gs R lo p gv sv O W0 s B c pre W) (h1 : W0.heap.size ≤ S2) (h2 : lo ≤ S2) (hg : W.grownBy W' row) (hr : ∀ r, row = some r → S2 ≤ r ∧ ∃ o : Obj, W.heap[r]? = some o ∧ o.isCells = false) : LRet gs R lo p gv sv O W0 s B c pre W' := by
  obtain ⟨pre0, x, e, hno, h0, bb, xs, ev, fv, uv, hf⟩ := h.spot
  exact ⟨h.ret, ⟨pre0, x, e, hno, h0, bb, xs, ev, fv, uv, hf.grown h1 h2 hg hr⟩, h.res.kept hg (fun r e => (hr r e).2)⟩
theorem FY.setNew {lo p : Nat} {gv sv : Value} {O : Nat → Prop} {W W1 : World} {bb : Nat} {xs : List Value} {ev fv uv : Value} {s : PP} (h : FY lo p gv sv O W W1 bb xs ev fv uv s) (hlo : lo ≤ W.heap.size) {a : Addr} (ha : ¬ FO p bb xs ev fv uv a.block) (h2 : W.heap.size ≤ a.block) (u : Value) : FY lo p gv sv O W (W1.setCell a u) bb xs ev fv uv s :=
  ⟨h.flow.keep (KeepsOthers.setCell _ _ _).size fun b hb => Below.heap_setCell _ _ _ _ (fun e => ha (by rw [← e]; exact hb)), h.old, h.low.setCell (p := a) (by omega) u, fun b h3 h4 => (Below.heap_setCell _ _ _ _ (by omega)).trans (h.kept b h3 h4)⟩
attribute [local go_sem] Oper.semAt_some
set_option maxRecDepth 100000 in
set_option maxHeartbeats 8000000 in
theorem stepLast_any (lo : Nat) (W : World) (p bb gb goff gc : Nat) (ts : List LNode) (sv : Value) (xs : List Value) (ev fv uv : Value) (s : PP) (go : Option Addr) (qc : Nat) (R : List Int) (h : Flow lo W p bb (.slice (some ⟨gb, goff, none⟩) ts.length gc) sv xs ev fv uv s) (hz : DIn dNode lo W (some ⟨gb, goff, none⟩) ts) (h1 : 0 < ts.length) (hG : GoodE (ts.map valNode)) (hR : Ordd (ts.map valNode) R) (hR0 : Ordd (ts.map valNode) (orderP (ts.map valNode))) (hI : RunI (ts.map valNode) 40000 9000 s) (hO : kI.Own lo W (.slice go R.length qc) R) (hA : ∀ b, (Value.slice go R.length qc).ownBlock = some b → ¬ FO p bb xs ev fv uv b) :
    Calls Tryz.prog 79 #[.pointer (some ⟨p, 0, none⟩), .slice go R.length qc] W fun e W' => e = .returned (.bool (lastS (ts.map valNode) R.reverse s).1) ∧ FStep lo p (.slice (some ⟨gb, goff, none⟩) ts.length gc) sv (FO p bb xs ev fv uv) W W' (lastS (ts.map valNode) R.reverse s).2 := by
  have hmany : ts.length ≤ 10 := by have := hG.edg.many; rw [List.length_map] at this; exact this
  have hRl : R.length = ts.length := by rw [hR.len, val_len]
  have hlo : lo ≤ W.heap.size := h.lo_le
  have hp := h.box.size
  obtain ⟨n0, hbn⟩ := hI.bnd
  have hlen := hI.len
  rw [val_len] at hlen
  have htc := tot_cap hG hI.inv hI.len
  have hem := hI.em
  have hfa := hI.fa2
  have hwn : 0 ≤ bxsF (fun k _ => wdP (ts.map valNode) (orderP (ts.map valNode)) k) s.bx := bxsF_nn fun i t hi _ => by
    have hORD : Ordd (ts.map valNode) (orderP (ts.map valNode)) := hR0
    have := wdP_one hORD hG.edg hG.st (show i < (ts.map valNode).length by rw [val_len]; omega); omega
  have HST : Hid (∀ (V : World) (bb : Nat) (xs : List Value) (ev fv uv : Value) (m : Int), Flow lo V p bb (.slice (some ⟨gb, goff, none⟩) ts.length gc) sv xs ev fv uv s → Below lo W V → Calls Tryz.prog 106 #[.pointer (some ⟨p, 0, none⟩), .agg #[.int .i64 2, .int .i64 m, .int .i64 0]] V fun e W' => e = .returned (.int .i64 (stepR (ts.map valNode) s m).1) ∧ FStep lo p (.slice (some ⟨gb, goff, none⟩) ts.length gc) sv (FO p bb xs ev fv uv) V W' (stepR (ts.map valNode) s m).2) := fun V bb xs ev fv uv m hF hb =>
    step_any lo V p bb gb goff gc ts sv xs ev fv uv s 2 m 0 hF hlen (hz.below dNode_ok hb) hG.edg (fun j hj => by have := hG.cap j (by rw [val_len]; exact hj); omega) (by omega) (by omega) (by have := hbn.fu; omega) hbn.ti0 hbn.ti1 (fun k t1 t2 t3 r e => by have := hI.tr k (t1, t2, t3) (by rw [e]; simp); dsimp only at this; omega)
  have HH := hid h
  have HO := hid hO
  have HA := hid hA
  have hRr : ∀ x ∈ R.reverse, ∃ j : Nat, j < (ts.map valNode).length ∧ x = (j : Int) := fun x hx => hR.rng x (List.mem_reverse.1 hx)
  have HRR := hid hRr
  obtain ⟨gs, hgs⟩ : ∃ gs, gs = ts.map valNode := ⟨_, rfl⟩
  rw [← hgs] at HST HRR ⊢
  have hgl : gs.length = ts.length := by rw [hgs, val_len]
  clear hRr hgs hwn hfa hem htc hlen hbn hI hR hG hz hO hA
  refine (callsIn_wide (n := 6)).1 ?_
  have hro : Fence.wide.round = none := rfl
  refine callsIn_of_wp_marks Tryz.func79 rfl trivial ?_ hro
  simp only [Tryz.ntmps79, List.size_toArray, List.length_cons, List.length_nil, Nat.reduceAdd, Nat.reduceSub, Array.replicate_succ, Array.replicate_zero, List.push_toArray, List.append_toArray, List.nil_append, List.cons_append]
  have HRL := hid hRl
  have hr1 : 0 < R.length := by omega
  have hr2 : R.length ≤ 10 := by omega
  clear hRl
  gi_wp2_with fail
  refine ⟨trivial, ?_⟩
  refine (callsIn_wide.2 (backward_any go R.length qc _)).mono ?_
  rintro e w4 ⟨rfl, rfl⟩
  gi_wp2_with fail
  obtain ⟨W4, hW4⟩ : ∃ W4, W4 = (((W.alloc (.cells #[.pointer (some ⟨p, 0, none⟩)] 77)).alloc (.cells #[.bool false] 4)).alloc (.cells #[.slice go R.length qc] 29)) := ⟨_, rfl⟩
  rw [← hW4]
  have HB4 : Hid (Below W.heap.size W W4) := by rw [Hid, hW4]; exact (below2 _ _ _).trans ((below1 _ _).mono (by simp; omega))
  have S4 : W4.heap.size = W.heap.size + 3 := by rw [hW4]; simp
  have C4 : W4.cell? ⟨W.heap.size + 2, 0, none⟩ = some (.slice go R.length qc) := by
    have := (Bx.new (w := (W.alloc (.cells #[.pointer (some ⟨p, 0, none⟩)] 77)).alloc (.cells #[.bool false] 4)) [.slice go R.length qc] 29 rfl).c 0 rfl
    rw [hW4]; simpa using this
  have FR4 : Bx W4 (W.heap.size + 1) [.bool false] := by
    have := Bx.new (w := W.alloc (.cells #[.pointer (some ⟨p, 0, none⟩)] 77)) [.bool false] 4 rfl
    have h2 := this.later (below1 _ (.cells #[.slice go R.length qc] 29))
    rw [hW4]; simpa using h2
  have FB4 : Bx W4 W.heap.size [.pointer (some ⟨p, 0, none⟩)] := by
    have := Bx.new (w := W) [.pointer (some ⟨p, 0, none⟩)] 77 rfl
    have h2 := this.later (below2 _ (.cells #[.bool false] 4) (.cells #[.slice go R.length qc] 29))
    rw [hW4]; exact h2
  obtain ⟨b, off, rfl, hbW, hcs⟩ : ∃ b off, go = some ⟨b, off, none⟩ ∧ b < W.heap.size ∧ ∀ j, j < R.length → W.cell? ⟨b, off + j, none⟩ = some (.int .i64 (el R j)) := by
    obtain ⟨co, cc, e, _, hCI⟩ := HO.out.in
    obtain ⟨rfl, rfl⟩ : go = co ∧ qc = cc := by simp at e; exact e
    obtain ⟨b, off, e2, hb, hc⟩ := ints_at hCI hr1
    exact ⟨b, off, e2, hb, hc⟩
  have hbF : ¬ FO p bb xs ev fv uv b := HA.out b rfl
  have hbI : R = [] ∨ ∃ o2, (some (⟨b, off, none⟩ : Addr)) = some ⟨b, o2, none⟩ ∧ b < W4.heap.size ∧ ∀ j, j < R.length → W4.cell? ⟨b, o2 + j, none⟩ = some (.int .i64 (el R j)) := .inr ⟨off, rfl, by omega, fun j hj => (HB4.out.cell (p := ⟨b, off + j, none⟩) hbW).trans (hcs j hj)⟩
  have hinv0 : LInv gs R lo p (.slice (some ⟨gb, goff, none⟩) ts.length gc) sv (FO p bb xs ev fv uv) W s W.heap.size b (W.heap.size + 2) W4.heap.size [] W4 :=
    ⟨⟨bb, xs, ev, fv, uv, (FY.refl HH.out).later HB4.out, fun x hx => by
      rcases hx with rfl | rfl | rfl | rfl
      · exact HH.out.far (Nat.le_refl _)
      · exact HH.out.far (by omega)
      · exact hbF
      · exact HH.out.far (by omega)⟩, FB4, FR4, (fun i hi => by cases hi), Nat.le_refl _⟩
  clear hW4 FR4 FB4 hcs
  refine wpIn_rangeFunc_ownG hro (by omega) (gf := 143) (lb := #[.pointer (some ⟨W.heap.size + 2, 0, none⟩)]) rfl trivial (enters_of Tryz.func143 (by kernel_rfl) rfl)
    (back_stops Fence.wide (6 - 1) trivial hro (by omega) (W.heap.size + 2) b (some ⟨b, off, none⟩) qc R (by omega) W4 (by omega) C4 hbI) Same2.trans (fun W' l o o' h1 h2 h3 h4 => ⟨sameB_put (by omega) W' l o o' h1 h2 h3 h4, sameB_put (by omega) W' l o o' h1 h2 h3 h4⟩) (Below.refl _ _) (fun _ => rfl)
    (fun pre W' => LInv gs R lo p (.slice (some ⟨gb, goff, none⟩) ts.length gc) sv (FO p bb xs ev fv uv) W s W.heap.size b (W.heap.size + 2) W4.heap.size pre W')
    (fun c pre W' => LRet gs R lo p (.slice (some ⟨gb, goff, none⟩) ts.length gc) sv (FO p bb xs ev fv uv) W s W.heap.size c pre W')
    (fun _ _ _ _ hs hg hr => hs.kept (S2 := W4.heap.size) (by omega) (by omega) hg hr)
    (fun _ _ _ _ _ hs hg hr => hs.kept (S2 := W4.heap.size) (by omega) (by omega) hg hr)
    hinv0
    (fun x => { tmps := #[.pointer (some ⟨p, 0, none⟩), .slice (some ⟨b, off, none⟩) R.length qc, .pointer (some ⟨W.heap.size, 0, none⟩), undef, .pointer (some ⟨W.heap.size + 1, 0, none⟩), undef, .int .i64 (el R.reverse x), .slice (some ⟨b, off, none⟩) R.length qc, .func (.func 143) #[] #[.pointer (some ⟨W.heap.size + 2, 0, none⟩)], .int .i64 ((R.length : Int) - 1 - (x : Int)), .int .i64 (el R.reverse x), undef, undef, undef, undef, undef], defers := [] }) ?assign ?body ?done ?stop
  case assign =>
    intro l x W K hK
    simp only [bkA, tvI]
    gi_wp2
    exact hK
  case body =>
    rintro l pre x Wq hI hlen
    have hmx : Tryz.prog.follows .mixedOrders = true := by kernel_rfl
    obtain ⟨k, hk, ek⟩ := el_rng HRR.out (by omega) x
    obtain ⟨bb1, xs1, ev1, fv1, uv1, hfy, hno⟩ := hI.fy
    have HFY := hid hfy
    have HNO := hid hno
    have g0 := hI.box.c 0 rfl
    have r0 := hI.res.c 0 rfl
    have rf := hI.res.f 0 rfl
    have hsz := hI.siz
    have HI := hid hI
    have HSt := hid (fun V hb => HST.out V bb1 xs1 ev1 fv1 uv1 (k : Int) (HFY.out.flow.later hb) (HFY.out.low.trans (hb.mono HFY.out.flow.lo_le)))
    rw [ek]
    have HEK := hid ek
    clear ek hfy hno hI
    obtain ⟨cd, hcd⟩ : ∃ cd, cd = (stepR gs s (k : Int)).1 := ⟨_, rfl⟩
    rw [← hcd] at HSt
    have HSD := hid hcd
    clear hcd
    by_cases h0 : cd = 0
    · subst h0
      gi_wp2_with fail
      refine ⟨trivial, ?_⟩
      refine (CallsIn.inRound l (callsIn_wide.2 (HSt.out Wq (Below.refl _ _)))).mono ?_
      rintro e w5 ⟨rfl, hs5⟩
      obtain ⟨bb5, xs5, ev5, fv5, uv5, F5⟩ := hs5.fy
      have KO := hid (FY.others HFY.out.flow F5)
      have HT := hid (HFY.out.trans F5)
      have hkb : ∀ y, (y = W.heap.size ∨ y = W.heap.size + 1 ∨ y = b ∨ y = W.heap.size + 2) → w5.heap[y]? = Wq.heap[y]? := fun y hy => F5.kept y (by omega) (HNO.out y hy)
      have hnf : ∀ y, (y = W.heap.size ∨ y = W.heap.size + 1 ∨ y = b ∨ y = W.heap.size + 2) → ¬ FO p bb5 xs5 ev5 fv5 uv5 y := fun y hy hO => by
        rcases F5.old y hO with h4 | h4
        · exact HNO.out y hy h4
        · omega
      have HKB := hid hkb
      have HNF := hid hnf
      have B5 := hid (HI.out.box.keep F5.low.size (hkb _ (.inl rfl)))
      have R5 := hid (HI.out.res.keep F5.low.size (hkb _ (.inr (.inl rfl))))
      have r5 := R5.out.c 0 rfl
      have rf5 := R5.out.f 0 rfl
      have hs5z := F5.low.size
      clear hs5 F5 hkb hnf g0 r0 rf
      gi_wp2
      refine ⟨(KO.out.trans (KeepsOthers.setCell _ _ _)).from _, rfl, ⟨pre, x, rfl, HI.out.no, by rw [HEK.out]; exact HSD.out.symm, bb5, xs5, ev5, fv5, uv5, by rw [HEK.out]; exact HT.out.setNew hlo (HNF.out _ (.inr (.inl rfl))) (by simp only; omega) _⟩, R5.out.set 0 _⟩
    · have hd0 : (cd == 0) = false := by simpa using h0
      have hsame := step_no (gs := gs) (s := s) (m := (k : Int)) (by rw [← HSD.out]; exact h0)
      have HSM := hid hsame
      clear h0 hsame
      gi_wp2_with fail
      refine ⟨trivial, ?_⟩
      refine (CallsIn.inRound l (callsIn_wide.2 (HSt.out Wq (Below.refl _ _)))).mono ?_
      rintro e w5 ⟨rfl, hs5⟩
      obtain ⟨bb5, xs5, ev5, fv5, uv5, F5⟩ := hs5.fy
      have KO := hid (FY.others HFY.out.flow F5)
      have HT := hid (HFY.out.trans F5)
      have hkb : ∀ y, (y = W.heap.size ∨ y = W.heap.size + 1 ∨ y = b ∨ y = W.heap.size + 2) → w5.heap[y]? = Wq.heap[y]? := fun y hy => F5.kept y (by omega) (HNO.out y hy)
      have hnf : ∀ y, (y = W.heap.size ∨ y = W.heap.size + 1 ∨ y = b ∨ y = W.heap.size + 2) → ¬ FO p bb5 xs5 ev5 fv5 uv5 y := fun y hy hO => by
        rcases F5.old y hO with h4 | h4
        · exact HNO.out y hy h4
        · omega
      have HKB := hid hkb
      have HNF := hid hnf
      have B5 := hid (HI.out.box.keep F5.low.size (hkb _ (.inl rfl)))
      have R5 := hid (HI.out.res.keep F5.low.size (hkb _ (.inr (.inl rfl))))
      have r5 := R5.out.c 0 rfl
      have rf5 := R5.out.f 0 rfl
      have hs5z := F5.low.size
      clear hs5 F5 hkb hnf g0 r0 rf
      rw [HSM.out] at HT
      gi_wp2
      refine ⟨KO.out.from _, ⟨HKB.out _ (.inr (.inr (.inl rfl))), HKB.out _ (.inr (.inr (.inr rfl)))⟩, ⟨bb5, xs5, ev5, fv5, uv5, HT.out, HNF.out⟩, B5.out, R5.out, fun i hi => ?_, by omega⟩
      rcases List.mem_append.1 hi with h1 | h1
      · exact HI.out.no i h1
      · rw [List.mem_singleton.1 h1, HEK.out, ← HSD.out]
        intro e; rw [e] at hd0; cases hd0
  case done =>
    rintro D ys W5 hD rfl hI hK
    have r0 := hI.res.c 0 rfl
    have rf := hI.res.f 0 rfl
    have HI := hid hI
    have HK := hid hK
    clear hI hK
    gi_wp2
    have hK2 : (W5.setCell ⟨W.heap.size + 1, 0, none⟩ (.bool false)).heap[D]? = some (.deferred (some [])) := (Below.heap_setCell _ _ _ _ (by simp only; omega)).trans HK.out
    refine ⟨by simp, .inl ⟨_, _, rfl, run_takeDeferred hK2, ?_⟩⟩
    have hg := grownBy_putObj' (W5.setCell ⟨W.heap.size + 1, 0, none⟩ (.bool false)) D (.deferred none)
    have hrow : ∀ r, some D = some r → W4.heap.size ≤ r ∧ ∃ o : Obj, (W5.setCell ⟨W.heap.size + 1, 0, none⟩ (.bool false)).heap[r]? = some o ∧ o.isCells = false := fun r e => by cases e; exact ⟨hD, _, hK2, rfl⟩
    obtain ⟨bb5, xs5, ev5, fv5, uv5, hf, hn⟩ := HI.out.fy
    have HFin := hid ((hf.setNew hlo (hn _ (.inr (.inl rfl))) (by simp only; omega) (.bool false)).grown (S := W4.heap.size) (by omega) (by omega) hg hrow)
    have hres := ((HI.out.res.set 0 (.bool false)).kept hg (fun r e => (hrow r e).2)).c 0 rfl
    have HL := hid (lastS_none (gs := gs) (s := s) (l := R.reverse) fun i hi => HI.out.no i (List.mem_range.2 (by rw [List.length_reverse] at hi; exact hi)))
    generalize (W5.setCell ⟨W.heap.size + 1, 0, none⟩ (.bool false)).putObj D (.deferred none) = Wf at HFin hres ⊢
    clear hf hn r0 rf hg hrow hK2
    refine ⟨.bool false, ?_, ?_⟩
    · simp [results, Tryz.f79, go_sem, hres]
    · rw [HL.out]
      exact ⟨rfl, HFin.out.step⟩
  case stop =>
    rintro D c pre W5 hD ⟨kk, hkk, hpre⟩ hI hK
    obtain ⟨rfl, ⟨pre0, x, e, hno, h0, bb5, xs5, ev5, fv5, uv5, hf⟩, hres⟩ := hI
    gi_wp2
    refine ⟨by simp, .inl ⟨_, _, rfl, run_takeDeferred hK, ?_⟩⟩
    have hg := grownBy_putObj' W5 D (.deferred none)
    have hrow : ∀ r, some D = some r → W4.heap.size ≤ r ∧ ∃ o : Obj, W5.heap[r]? = some o ∧ o.isCells = false := fun r e => by cases e; exact ⟨hD, _, hK, rfl⟩
    have HFin := hid (hf.grown (S := W4.heap.size) (by omega) (by omega) hg hrow)
    have hres2 := (hres.kept hg (fun r e => (hrow r e).2)).c 0 rfl
    have HL : Hid (lastS gs R.reverse s = (true, (stepR gs s (el R.reverse x)).2)) := by
      rw [hpre] at e
      obtain ⟨k2, rfl⟩ : ∃ k2, kk = k2 + 1 := by
        cases kk with
        | zero => simp at e
        | succ k2 => exact ⟨k2, rfl⟩
      rw [List.range_succ] at e
      obtain ⟨e1, e2⟩ := List.append_inj' e rfl
      obtain rfl : k2 = x := by simpa using e2
      exact lastS_at (by rw [List.length_reverse]; omega) (fun i hi => hno i (by rw [← e1]; exact List.mem_range.2 hi)) h0
    generalize W5.putObj D (.deferred none) = Wf at HFin hres2 ⊢
    clear hf hres hg hrow hK hno h0 e hpre
    refine ⟨.bool true, ?_, ?_⟩
    · simp [results, Tryz.f79, go_sem, hres2]
    · rw [HL.out]
      exact ⟨rfl, HFin.out.step⟩
end
section
open Go.RowKit

theorem Flow.putClI {lo : Nat} {U : World} {p bb : Nat} {gv sv : Value} {xs : List Value} {ev fv uv : Value} {s : PP} (h : Flow lo U p bb gv sv xs ev fv uv s) (x : Bool) :
    FY lo p gv sv (FO p bb xs ev fv uv) U (U.setCell ⟨p, 4, none⟩ (.bool x)) bb xs ev fv uv { s with cl := x } := by
  have hkp : ∀ b, b ≠ p → (U.setCell ⟨p, 4, none⟩ (.bool x)).heap[b]? = U.heap[b]? := fun b h2 => Below.heap_setCell _ _ _ _ h2
  exact ⟨⟨h.box.set 4 _, h.hnd.keep (hkp bb (fun e => h.pbb e.symm)) (fun j hj b hb => hkp b (fun e => h.px j hj (by rw [← e]; exact hb))), own_keep h.emo fun b hb => hkp b (fun e => h.pe (by rw [← e]; exact hb)), own_keep h.fao fun b hb => hkp b (fun e => h.pf (by rw [← e]; exact hb)), own_keep h.fuo fun b hb => hkp b (fun e => h.pu (by rw [← e]; exact hb)), h.lop, h.lob, h.pbb, h.px, h.pe, h.pf, h.pu⟩, fun b hb => .inl hb, (Below.refl _ _).setCell (p := ⟨p, 4, none⟩) h.lop _, fun b _ hO => hkp b (fun e => hO (.inl e))⟩
theorem Kind.Fresh.ownI {α : Type} {K : Kind α} {lo hi : Nat} {W : World} {to : Option Addr} {tc : Nat} {xs : List α} (h : K.Fresh lo hi W to tc xs) (hn : 0 < xs.length) : K.Own lo W (.slice to xs.length tc) xs := by
  obtain ⟨g, e, _, _, _, ho⟩ := h.at hn
  subst e; exact ho
/-- What runOut answers. -/
def AnsRi (lo p : Nat) (gv sv : Value) (gs : List PNode) (s : PP) (K : Nat) (W : World) (e : Ending) (W' : World) : Prop :=
  ∃ bb xs ev fv uv, e = .returned (.int .i64 (K : Int)) ∧ Flow lo W' p bb gv sv xs ev fv uv (itS gs K { s with cl := true }) ∧ Below lo W W'
set_option maxRecDepth 100000 in
set_option maxHeartbeats 8000000 in
theorem runI_any (lo : Nat) (W : World) (p bb gb goff gc : Nat) (ts : List LNode) (sv : Value) (xs : List Value) (ev fv uv : Value) (s : PP) (K : Nat) (h : Flow lo W p bb (.slice (some ⟨gb, goff, none⟩) ts.length gc) sv xs ev fv uv s) (hz : DIn dNode lo W (some ⟨gb, goff, none⟩) ts) (hF : FitN ts) (h1 : 0 < ts.length) (hG : GoodE (ts.map valNode)) (hR : Ordd (ts.map valNode) (orderP (ts.map valNode))) (hI : RunI (ts.map valNode) 40000 9000 { s with cl := true }) (hK : Halts (ts.map valNode) { s with cl := true } K) (hK2 : K ≤ 1000000000000000000) :
    Calls Tryz.prog 54 #[.pointer (some ⟨p, 0, none⟩)] W (AnsRi lo p (.slice (some ⟨gb, goff, none⟩) ts.length gc) sv (ts.map valNode) s K W) := by
  have hlo : lo ≤ W.heap.size := h.lo_le
  have hp := h.box.size
  have hmany : ts.length ≤ 10 := by have := hG.edg.many; rw [List.length_map] at this; exact this
  obtain ⟨gs, hgs⟩ : ∃ gs, gs = ts.map valNode := ⟨_, rfl⟩
  have hgl : gs.length = ts.length := by rw [hgs, val_len]
  have HFC := hid (h.putClI true)
  obtain ⟨V, hV⟩ : ∃ V, V = W.setCell ⟨p, 4, none⟩ (.bool true) := ⟨_, rfl⟩
  rw [← hV] at HFC
  have HV := hid hV
  have c4 := h.box.c 4 rfl
  have f4 := h.box.f 4 rfl
  have c0 := h.box.c 0 rfl
  have hzV := hz.below dNode_ok HFC.out.low
  have HZ := hid hz
  have HO := hid (orderIn_any (some ⟨gb, goff, none⟩) gc ts V (by omega) hF (hzV.up dNode_ok HFC.out.flow.lo_le))
  have HG := hid hG
  have HR := hid hR
  have HI := hid (fun n => hI.it hG hR n)
  have HK := hid hK
  have HSL := hid (fun (V : World) (bb : Nat) (xs : List Value) (ev fv uv : Value) (s : PP) (go : Option Addr) (qc : Nat) (h : Flow lo V p bb (.slice (some ⟨gb, goff, none⟩) ts.length gc) sv xs ev fv uv s) (hb : Below lo W V) (hI : RunI (ts.map valNode) 40000 9000 s) hO hA => stepLast_any lo V p bb gb goff gc ts sv xs ev fv uv s go qc (orderP (ts.map valNode)) h (hz.below dNode_ok hb) h1 hG hR hR hI hO hA)
  rw [← hgs] at HO HG HR HI HK HSL ⊢
  have HGS := hid hgs
  obtain ⟨s0, hs0⟩ : ∃ s0 : PP, s0 = { s with cl := true } := ⟨_, rfl⟩
  have HS0 := hid hs0
  rw [← hs0] at HFC HI HK
  have hRl : (orderP gs).length = ts.length := by rw [HR.out.len, hgl]
  have HRL := hid hRl
  have hr1 : 0 < (orderP gs).length := by omega
  clear hV hz hzV hG hR hI hK hgs hs0 hF hRl
  go_enter Tryz.func54, Tryz.ntmps54
  go_wp2_with fail
  rw [← HV.out]
  refine HO.out.mono ?_
  rintro e w1 ⟨⟨go, qc, rfl, hF1⟩, hb1⟩
  clear c0 c4 f4
  have HB1 := hid (HFC.out.low.trans (hb1.mono HFC.out.flow.lo_le))
  have HO1 := hid ((hF1.ownI hr1).mono HFC.out.flow.lo_le)
  have HA1 : Hid (∀ b, (Value.slice go (orderP gs).length qc).ownBlock = some b → ¬ FO p bb xs ev fv uv b) := fun b hb hO => by
    obtain ⟨g, e, hlg, _⟩ := hF1.at hr1
    subst e
    have : g = b := by simpa [Value.ownBlock] using hb
    have := HFC.out.flow.old hO
    omega
  have HF1 := hid (HFC.out.flow.later hb1)
  clear hF1 hb1 HO
  go_wp2
  go_loopw [4] (fun i wr => ∃ (k bb : Nat) (xs : List Value) (ev fv uv : Value), i = .int .i64 (k : Int) ∧ k ≤ K ∧ Hid (Flow lo wr p bb (.slice (some ⟨gb, goff, none⟩) ts.length gc) sv xs ev fv uv (itS gs k s0)) ∧ Hid (kI.Own lo wr (.slice go (orderP gs).length qc) (orderP gs)) ∧ Hid (∀ b, (Value.slice go (orderP gs).length qc).ownBlock = some b → ¬ FO p bb xs ev fv uv b) ∧ Hid (Below lo W wr)) (fun i _ => K - (intOf i).toNat)
  case atStart => exact ⟨0, bb, xs, ev, fv, uv, rfl, Nat.zero_le _, HF1, HO1, HA1, HB1⟩
  case round =>
    clear HF1 HO1 HA1 HB1 HFC HV
    obtain ⟨k, bb, xs, ev, fv, uv, rfl, hk, hF, hO, hA, hB⟩ := hrel
    have HRI := hid (HI.out k)
    have c9 := hF.out.box.c 9 rfl
    by_cases hlt : k < K
    · have hne := HK.out.go k hlt
      have hltt := last_true HG.out HR.out HRI.out hne
      have HNX : Hid (itS gs (k + 1) s0 = (lastS gs (orderP gs).reverse (itS gs k s0)).2) := rfl
      obtain ⟨sk, hsk⟩ : ∃ sk, sk = itS gs k s0 := ⟨_, rfl⟩
      rw [← hsk] at hF HRI hltt HNX hne c9
      have htp : 0 < totT sk.bx := by omega
      have hst := HSL.out wr bb xs ev fv uv sk go qc hF.out hB.out HRI.out hO.out hA.out
      rw [hltt] at hst
      have HST := hid hst
      clear hsk hne hltt hst
      go_wp2_with fail
      refine (load_any p 9 _ wr c9).mono ?_
      rintro e w2 ⟨rfl, hw2⟩
      rw [hw2]
      clear hw2 w2
      go_wp2_with fail
      refine HST.out.mono ?_
      rintro e w4 ⟨rfl, hs4⟩
      obtain ⟨bb4, xs4, ev4, fv4, uv4, F4, O4, A4, B4⟩ := hs4.codes hO.out hA.out
      have HF4 := hid F4
      have HO4 := hid O4
      have HA4 := hid A4
      have HB4 := hid (hB.out.trans B4)
      clear hs4 F4 O4 A4 B4 HST c9
      go_wp2
      go_roundw
      case rel => exact ⟨k + 1, bb4, xs4, ev4, fv4, uv4, by go_num, by omega, by rw [HNX.out]; exact HF4, HO4, HA4, HB4⟩
      case measure => simp [intOf]; omega
    · obtain rfl : k = K := by omega
      rw [HK.out.stop] at c9
      go_wp2_with fail
      refine (load_any p 9 _ wr c9).mono ?_
      rintro e w2 ⟨rfl, hw2⟩
      rw [hw2]
      clear hw2 w2 c9
      go_wp2
      go_ret
      exact ⟨bb, xs, ev, fv, uv, rfl, by rw [← HS0.out]; exact hF.out, hB.out⟩
end
section
open Go.RowKit

/-- What running out answers. -/
def roR (gs : List PNode) (ms : List (Int × Int × Int)) (K : Nat) : PP × Int × Bool := if pipeB gs = true ∧ ms.length ≤ 300 then (itS gs K { (playP gs (srcP gs gs.length) ms (pp0 gs.length)).2 with cl := true }, (K : Int), true) else ({ ti := 0, it := 0, cl := false, bx := [], em := [], fa := [], fu := [] }, 0, false)
def AnsRo (w : World) (r : PP × Int × Bool) (e : Ending) (w' : World) : Prop :=
  (∃ bo bc eo ec fo fc uo uc, e = .returned (.tuple #[.agg #[.int .i64 r.1.ti, .int .i64 r.1.it, .bool r.1.cl, .slice bo r.1.bx.length bc, .slice eo r.1.em.length ec, .slice fo r.1.fa.length fc, .slice uo r.1.fu.length uc], .int .i64 r.2.1, .bool r.2.2]) ∧
    FrPipe w.heap.size w'.heap.size w' bo bc r.1.bx eo ec r.1.em fo fc r.1.fa uo uc r.1.fu) ∧ Below w.heap.size w w'
set_option maxRecDepth 100000 in
set_option maxHeartbeats 4000000 in
theorem implRun_any (ao : Option Addr) (cap : Nat) (ts : List LNode) (ea : Nat → Addr) (mo : Option Addr) (mc : Nat) (ms : List (Int × Int × Int)) (w : World) (hC : Roomy ts cap) (hE : Errs w ea) (hz : DIn dNode w.heap.size w ao ts) (hM : kMv.In w.heap.size w mo ms) (h64 : ∀ k, k < ms.length → (el ms k).1 ≤ 9223372036854775807) (K : Nat) (hK : pipeB (ts.map valNode) = true ∧ ms.length ≤ 300 → Halts (ts.map valNode) { (playP (ts.map valNode) (srcP (ts.map valNode) (ts.map valNode).length) ms (pp0 (ts.map valNode).length)).2 with cl := true } K) (hK2 : K ≤ 1000000000000000000) :
    Calls Tryz.prog 25 #[.slice ao ts.length cap, .slice mo ms.length mc] w (AnsRo w (roR (ts.map valNode) ms K)) := by
  have hb0 := below1 w (.cells #[.int .i64 0, .int .i64 0, .bool false, .slice none 0 0, .slice none 0 0, .slice none 0 0, .slice none 0 0] 31)
  obtain ⟨W0, hW0⟩ : ∃ W0, W0 = w.alloc (.cells #[.int .i64 0, .int .i64 0, .bool false, .slice none 0 0, .slice none 0 0, .slice none 0 0, .slice none 0 0] 31) := ⟨_, rfl⟩
  have HW0 := hid hW0
  have X0 : Bx W0 w.heap.size [.int .i64 0, .int .i64 0, .bool false, .slice none 0 0, .slice none 0 0, .slice none 0 0, .slice none 0 0] := by rw [hW0]; exact Bx.new (w := w) [.int .i64 0, .int .i64 0, .bool false, .slice none 0 0, .slice none 0 0, .slice none 0 0, .slice none 0 0] 31 rfl
  rw [← hW0] at hb0
  have HX0 := hid X0
  have HP := hid (played_any ao cap ts ea mo mc ms W0 hC (hE.later hb0) (hz.later dNode_ok hb0) (hM.later hb0) h64)
  have Hb0 := hid hb0
  have hwz := X0.size
  have HZ := hid hz
  have HFI := hid hC.fit
  clear hC hE hz hM h64 hW0 hb0 X0
  by_cases hok : pipeB (ts.map valNode) = true ∧ ms.length ≤ 300
  · have HR0 : Hid (roR (ts.map valNode) ms K = (itS (ts.map valNode) K { (playP (ts.map valNode) (srcP (ts.map valNode) ts.length) ms (pp0 ts.length)).2 with cl := true }, (K : Int), true)) := by rw [Hid, roR, if_pos hok, val_len]
    obtain ⟨s, hs⟩ : ∃ s, s = (playP (ts.map valNode) (srcP (ts.map valNode) ts.length) ms (pp0 ts.length)).2 := ⟨_, rfl⟩
    rw [← hs] at HR0
    have hst := run_start hok
    have hK3 := hK hok
    rw [val_len, ← hs] at hst hK3
    have h0 : codeG (ts.map valNode) = 0 := by have := hok.1; simp [pipeB] at this; exact this.1
    have h1 : 0 < ts.length := by have := (codeG_zero h0).1; rw [val_len] at this; omega
    obtain ⟨gb, goff, rfl, hgb, _⟩ := hNode_at HZ.out.1 h1
    have HST := hid hst
    have HK3 := hid hK3
    clear hst hK3 h0
    go_enter Tryz.func25, Tryz.ntmps25
    go_wp2_with fail
    rw [← HW0.out]
    refine HP.out.mono ?_
    rintro e w1 ⟨hq, hb1⟩
    rw [if_pos hok] at hq
    obtain ⟨lo, p, bb, so, sc, xs, ev, fv, uv, v, rfl, hlo, hI, F, hO, hA⟩ := hq
    rw [← hs] at F
    have hlo1 : w.heap.size < lo := Nat.lt_of_lt_of_le hwz hlo
    have HB1 := hid (Hb0.out.trans (hb1.mono Hb0.out.size))
    have HRN := hid (runI_any lo w1 p bb gb goff cap ts (.slice so (srcP (ts.map valNode) ts.length).length sc) xs ev fv uv s K F ((HZ.out.below dNode_ok HB1.out).up dNode_ok (by omega)) HFI.out h1 HST.out.1 HST.out.2.1 HST.out.2.2 HK3.out hK2)
    have R0 := HX0.out.later hb1
    clear F hO hA hs hok hlo HP HFI
    go_wp2_with fail
    refine HRN.out.mono ?_
    rintro e w2 ⟨bb, xs, ev, fv, uv, rfl, F, hb2⟩
    have HR : Hid (roR (ts.map valNode) ms K = (itS (ts.map valNode) K { s with cl := true }, (K : Int), true)) := HR0
    obtain ⟨s2, hs2⟩ : ∃ s2, s2 = itS (ts.map valNode) K { s with cl := true } := ⟨_, rfl⟩
    rw [← hs2] at F HR
    have R1 := R0.keep hb2.size (hb2.block _ hlo1)
    have HB2 := hid (HB1.out.trans (hb2.mono (by omega)))
    clear hs2 hb2 hb1 R0 HR0 HRN HB1
    have c0 := F.box.c 2 rfl
    have c1 := F.box.c 3 rfl
    have c2 := F.box.c 4 rfl
    have c3 := F.box.c 5 rfl
    have c4 := F.box.c 6 rfl
    have c5 := F.box.c 7 rfl
    have c6 := F.box.c 8 rfl
    have y0 := R1.c 0 rfl
    have z0 := R1.f 0 rfl
    have y1 := R1.c 1 rfl
    have z1 := R1.f 1 rfl
    have y2 := R1.c 2 rfl
    have z2 := R1.f 2 rfl
    have y3 := R1.c 3 rfl
    have z3 := R1.f 3 rfl
    have y4 := R1.c 4 rfl
    have z4 := R1.f 4 rfl
    have y5 := R1.c 5 rfl
    have z5 := R1.f 5 rfl
    have y6 := R1.c 6 rfl
    have z6 := R1.f 6 rfl
    obtain ⟨eo, ec, he, _, hEf⟩ := F.emo.fresh
    obtain ⟨fo, fc, hf, _, hFf⟩ := F.fao.fresh
    obtain ⟨uo, uc, hu, _, hUf⟩ := F.fuo.fresh
    rw [he] at c4
    rw [hf] at c5
    rw [hu] at c6
    have hlob := F.lob
    have HBX := hid (F.hnd.fr)
    have HEF := hid hEf
    have HFF := hid hFf
    have HUF := hid hUf
    have HL := hid (F.hnd.len)
    clear F he hf hu hEf hFf hUf R1
    go_wp2
    refine bodyPost_ret (v := .tuple #[.agg #[.int .i64 s2.ti, .int .i64 s2.it, .bool s2.cl, .slice (some ⟨bb, 0, none⟩) s2.bx.length s2.bx.length, .slice eo s2.em.length ec, .slice fo s2.fa.length fc, .slice uo s2.fu.length uc], (.int .i64 (K : Int)), .bool true]) (by simp [results, Tryz.results25, go_sem, y0, y1, y2, y3, y4, y5, y6]) rfl ?_
    obtain ⟨w5, h5⟩ : ∃ w5, w5 = (((((((w2.setCell ⟨w.heap.size, 0, none⟩ (.int .i64 s2.ti)).setCell ⟨w.heap.size, 1, none⟩ (.int .i64 s2.it)).setCell ⟨w.heap.size, 2, none⟩ (.bool s2.cl)).setCell ⟨w.heap.size, 3, none⟩ (.slice (some ⟨bb, 0, none⟩) s2.bx.length s2.bx.length)).setCell ⟨w.heap.size, 4, none⟩ (.slice eo s2.em.length ec)).setCell ⟨w.heap.size, 5, none⟩ (.slice fo s2.fa.length fc)).setCell ⟨w.heap.size, 6, none⟩ (.slice uo s2.fu.length uc)) := ⟨_, rfl⟩
    rw [← h5, HR.out]
    have hk : ∀ b, b ≠ w.heap.size → w5.heap[b]? = w2.heap[b]? := fun b hb => by rw [h5]; exact set7_far hb _ _ _ _ _ _ _
    have hz5 : w5.heap.size = w2.heap.size := by rw [h5]; simp [World.setCell]
    have hkF : ∀ b, lo ≤ b → b < w2.heap.size → b < w2.heap.size → w5.heap[b]? = w2.heap[b]? := fun b h1 _ _ => hk b (by omega)
    refine ⟨⟨_, _, _, _, _, _, _, _, rfl, ⟨⟨_, (HBX.out.keep fun b h1 h2 h3 => hk b (by omega)).wide (by omega) (by omega)⟩, (HEF.out.keep hkF).wide (by omega) (by omega), (HFF.out.keep hkF).wide (by omega) (by omega), (HUF.out.keep hkF).wide (by omega) (by omega)⟩⟩, ?_⟩
    rw [h5]
    exact ((((((HB2.out.setCell (p := ⟨w.heap.size, 0, none⟩) (Nat.le_refl _) _).setCell (p := ⟨w.heap.size, 1, none⟩) (Nat.le_refl _) _).setCell (p := ⟨w.heap.size, 2, none⟩) (Nat.le_refl _) _).setCell (p := ⟨w.heap.size, 3, none⟩) (Nat.le_refl _) _).setCell (p := ⟨w.heap.size, 4, none⟩) (Nat.le_refl _) _).setCell (p := ⟨w.heap.size, 5, none⟩) (Nat.le_refl _) _).setCell (p := ⟨w.heap.size, 6, none⟩) (Nat.le_refl _) _
  · have HR : Hid (roR (ts.map valNode) ms K = ({ ti := 0, it := 0, cl := false, bx := [], em := [], fa := [], fu := [] }, 0, false)) := by rw [Hid, roR, if_neg hok]
    go_enter Tryz.func25, Tryz.ntmps25
    go_wp2_with fail
    rw [← HW0.out]
    refine HP.out.mono ?_
    rintro e w1 ⟨hq, hb1⟩
    rw [if_neg hok] at hq
    obtain rfl := hq
    have R1 := HX0.out.later hb1
    have y0 := R1.c 0 rfl
    have z0 := R1.f 0 rfl
    have y1 := R1.c 1 rfl
    have z1 := R1.f 1 rfl
    have y2 := R1.c 2 rfl
    have z2 := R1.f 2 rfl
    have y3 := R1.c 3 rfl
    have z3 := R1.f 3 rfl
    have y4 := R1.c 4 rfl
    have z4 := R1.f 4 rfl
    have y5 := R1.c 5 rfl
    have z5 := R1.f 5 rfl
    have y6 := R1.c 6 rfl
    have z6 := R1.f 6 rfl
    have HB1 := hid (Hb0.out.trans (hb1.mono Hb0.out.size))
    clear hb1 R1
    go_wp2
    refine bodyPost_ret (v := .tuple #[.agg #[.int .i64 0, .int .i64 0, .bool false, .slice none 0 0, .slice none 0 0, .slice none 0 0, .slice none 0 0], .int .i64 0, .bool false]) (by simp [results, Tryz.results25, go_sem, y0, y1, y2, y3, y4, y5, y6]) rfl ?_
    rw [HR.out]
    refine ⟨⟨_, _, _, _, _, _, _, _, rfl, ⟨⟨[], FrRT.nil _ _ _ _ _⟩, .inl rfl, .inl rfl, .inl rfl⟩⟩, ?_⟩
    exact ((((((HB1.out.setCell (p := ⟨w.heap.size, 0, none⟩) (Nat.le_refl _) _).setCell (p := ⟨w.heap.size, 1, none⟩) (Nat.le_refl _) _).setCell (p := ⟨w.heap.size, 2, none⟩) (Nat.le_refl _) _).setCell (p := ⟨w.heap.size, 3, none⟩) (Nat.le_refl _) _).setCell (p := ⟨w.heap.size, 4, none⟩) (Nat.le_refl _) _).setCell (p := ⟨w.heap.size, 5, none⟩) (Nat.le_refl _) _).setCell (p := ⟨w.heap.size, 6, none⟩) (Nat.le_refl _) _
set_option maxRecDepth 100000 in
set_option maxHeartbeats 4000000 in
theorem specRun_any (ao : Option Addr) (cap : Nat) (ts : List LNode) (mo : Option Addr) (mc : Nat) (ms : List (Int × Int × Int)) (w : World) (hC : Roomy ts cap) (hz : DIn dNode w.heap.size w ao ts) (hM : kMv.In w.heap.size w mo ms) (h64 : ∀ k, k < ms.length → (el ms k).1 ≤ 9223372036854775807) (K : Nat) (hK : pipeB (ts.map valNode) = true ∧ ms.length ≤ 300 → Halts (ts.map valNode) { (playP (ts.map valNode) (srcP (ts.map valNode) (ts.map valNode).length) ms (pp0 (ts.map valNode).length)).2 with cl := true } K) (hK2 : K ≤ 1000000000000000000) :
    Calls Tryz.prog 24 #[.slice ao ts.length cap, .slice mo ms.length mc] w (AnsRo w (roR (ts.map valNode) ms K)) := by
  have hb0 := below1 w (.cells #[.int .i64 0, .int .i64 0, .bool false, .slice none 0 0, .slice none 0 0, .slice none 0 0, .slice none 0 0] 31)
  obtain ⟨W0, hW0⟩ : ∃ W0, W0 = w.alloc (.cells #[.int .i64 0, .int .i64 0, .bool false, .slice none 0 0, .slice none 0 0, .slice none 0 0, .slice none 0 0] 31) := ⟨_, rfl⟩
  have HW0 := hid hW0
  have X0 : Bx W0 w.heap.size [.int .i64 0, .int .i64 0, .bool false, .slice none 0 0, .slice none 0 0, .slice none 0 0, .slice none 0 0] := by rw [hW0]; exact Bx.new (w := w) [.int .i64 0, .int .i64 0, .bool false, .slice none 0 0, .slice none 0 0, .slice none 0 0, .slice none 0 0] 31 rfl
  rw [← hW0] at hb0
  have HX0 := hid X0
  have HP := hid (l12Play_any ao cap ts mo mc ms W0 hC (hz.later dNode_ok hb0) (hM.later hb0) h64)
  have Hb0 := hid hb0
  have hwz := X0.size
  have HZ := hid hz
  clear hC hz hM h64 hW0 hb0 X0
  by_cases hok : pipeB (ts.map valNode) = true ∧ ms.length ≤ 300
  · have HR0 : Hid (roR (ts.map valNode) ms K = (itS (ts.map valNode) K { (playP (ts.map valNode) (srcP (ts.map valNode) ts.length) ms (pp0 ts.length)).2 with cl := true }, (K : Int), true)) := by rw [Hid, roR, if_pos hok, val_len]
    obtain ⟨s, hs⟩ : ∃ s, s = (playP (ts.map valNode) (srcP (ts.map valNode) ts.length) ms (pp0 ts.length)).2 := ⟨_, rfl⟩
    rw [← hs] at HR0
    have hst := run_start hok
    have hK3 := hK hok
    rw [val_len, ← hs] at hst hK3
    have h0 : codeG (ts.map valNode) = 0 := by have := hok.1; simp [pipeB] at this; exact this.1
    have h1 : 0 < ts.length := by have := (codeG_zero h0).1; rw [val_len] at this; omega
    obtain ⟨gb, goff, rfl, hgb, _⟩ := hNode_at HZ.out.1 h1
    have HST := hid hst
    have HK3 := hid hK3
    clear hst hK3 h0
    go_enter Tryz.func24, Tryz.ntmps24
    go_wp2_with fail
    rw [← HW0.out]
    refine HP.out.mono ?_
    rintro e w1 ⟨hq, hb1⟩
    rw [if_pos hok] at hq
    obtain ⟨lo, p, bb, xs, ev, fv, uv, v, rfl, hlo, F, hO, hA⟩ := hq
    rw [← hs] at F
    have hlo1 : w.heap.size < lo := Nat.lt_of_lt_of_le hwz hlo
    have HB1 := hid (Hb0.out.trans (hb1.mono Hb0.out.size))
    have HRN := hid (runS_any lo w1 p bb gb goff cap ts xs ev fv uv s K F ((HZ.out.below dNode_ok HB1.out).up dNode_ok (by omega)) h1 HST.out.1 HST.out.2.1 HST.out.2.2 HK3.out hK2)
    have R0 := HX0.out.later hb1
    clear F hO hA hs hok hlo HP
    go_wp2_with fail
    refine HRN.out.mono ?_
    rintro e w2 ⟨bb, xs, ev, fv, uv, rfl, F, hb2⟩
    have HR : Hid (roR (ts.map valNode) ms K = (itS (ts.map valNode) K { s with cl := true }, (K : Int), true)) := HR0
    obtain ⟨s2, hs2⟩ : ∃ s2, s2 = itS (ts.map valNode) K { s with cl := true } := ⟨_, rfl⟩
    rw [← hs2] at F HR
    have R1 := R0.keep hb2.size (hb2.block _ hlo1)
    have HB2 := hid (HB1.out.trans (hb2.mono (by omega)))
    clear hs2 hb2 hb1 R0 HR0 HRN HB1
    have c0 := F.box.c 1 rfl
    have c1 := F.box.c 2 rfl
    have c2 := F.box.c 3 rfl
    have c3 := F.box.c 4 rfl
    have c4 := F.box.c 5 rfl
    have c5 := F.box.c 6 rfl
    have c6 := F.box.c 7 rfl
    have y0 := R1.c 0 rfl
    have z0 := R1.f 0 rfl
    have y1 := R1.c 1 rfl
    have z1 := R1.f 1 rfl
    have y2 := R1.c 2 rfl
    have z2 := R1.f 2 rfl
    have y3 := R1.c 3 rfl
    have z3 := R1.f 3 rfl
    have y4 := R1.c 4 rfl
    have z4 := R1.f 4 rfl
    have y5 := R1.c 5 rfl
    have z5 := R1.f 5 rfl
    have y6 := R1.c 6 rfl
    have z6 := R1.f 6 rfl
    obtain ⟨eo, ec, he, _, hEf⟩ := F.emo.fresh
    obtain ⟨fo, fc, hf, _, hFf⟩ := F.fao.fresh
    obtain ⟨uo, uc, hu, _, hUf⟩ := F.fuo.fresh
    rw [he] at c4
    rw [hf] at c5
    rw [hu] at c6
    have hlob := F.lob
    have HBX := hid (F.hnd.fr)
    have HEF := hid hEf
    have HFF := hid hFf
    have HUF := hid hUf
    have HL := hid (F.hnd.len)
    clear F he hf hu hEf hFf hUf R1
    go_wp2
    refine bodyPost_ret (v := .tuple #[.agg #[.int .i64 s2.ti, .int .i64 s2.it, .bool s2.cl, .slice (some ⟨bb, 0, none⟩) s2.bx.length s2.bx.length, .slice eo s2.em.length ec, .slice fo s2.fa.length fc, .slice uo s2.fu.length uc], (.int .i64 (K : Int)), .bool true]) (by simp [results, Tryz.results24, go_sem, y0, y1, y2, y3, y4, y5, y6]) rfl ?_
    obtain ⟨w5, h5⟩ : ∃ w5, w5 = (((((((w2.setCell ⟨w.heap.size, 0, none⟩ (.int .i64 s2.ti)).setCell ⟨w.heap.size, 1, none⟩ (.int .i64 s2.it)).setCell ⟨w.heap.size, 2, none⟩ (.bool s2.cl)).setCell ⟨w.heap.size, 3, none⟩ (.slice (some ⟨bb, 0, none⟩) s2.bx.length s2.bx.length)).setCell ⟨w.heap.size, 4, none⟩ (.slice eo s2.em.length ec)).setCell ⟨w.heap.size, 5, none⟩ (.slice fo s2.fa.length fc)).setCell ⟨w.heap.size, 6, none⟩ (.slice uo s2.fu.length uc)) := ⟨_, rfl⟩
    rw [← h5, HR.out]
    have hk : ∀ b, b ≠ w.heap.size → w5.heap[b]? = w2.heap[b]? := fun b hb => by rw [h5]; exact set7_far hb _ _ _ _ _ _ _
    have hz5 : w5.heap.size = w2.heap.size := by rw [h5]; simp [World.setCell]
    have hkF : ∀ b, lo ≤ b → b < w2.heap.size → b < w2.heap.size → w5.heap[b]? = w2.heap[b]? := fun b h1 _ _ => hk b (by omega)
    refine ⟨⟨_, _, _, _, _, _, _, _, rfl, ⟨⟨_, (HBX.out.keep fun b h1 h2 h3 => hk b (by omega)).wide (by omega) (by omega)⟩, (HEF.out.keep hkF).wide (by omega) (by omega), (HFF.out.keep hkF).wide (by omega) (by omega), (HUF.out.keep hkF).wide (by omega) (by omega)⟩⟩, ?_⟩
    rw [h5]
    exact ((((((HB2.out.setCell (p := ⟨w.heap.size, 0, none⟩) (Nat.le_refl _) _).setCell (p := ⟨w.heap.size, 1, none⟩) (Nat.le_refl _) _).setCell (p := ⟨w.heap.size, 2, none⟩) (Nat.le_refl _) _).setCell (p := ⟨w.heap.size, 3, none⟩) (Nat.le_refl _) _).setCell (p := ⟨w.heap.size, 4, none⟩) (Nat.le_refl _) _).setCell (p := ⟨w.heap.size, 5, none⟩) (Nat.le_refl _) _).setCell (p := ⟨w.heap.size, 6, none⟩) (Nat.le_refl _) _
  · have HR : Hid (roR (ts.map valNode) ms K = ({ ti := 0, it := 0, cl := false, bx := [], em := [], fa := [], fu := [] }, 0, false)) := by rw [Hid, roR, if_neg hok]
    go_enter Tryz.func24, Tryz.ntmps24
    go_wp2_with fail
    rw [← HW0.out]
    refine HP.out.mono ?_
    rintro e w1 ⟨hq, hb1⟩
    rw [if_neg hok] at hq
    obtain ⟨q, rfl⟩ := hq
    have R1 := HX0.out.later hb1
    have y0 := R1.c 0 rfl
    have z0 := R1.f 0 rfl
    have y1 := R1.c 1 rfl
    have z1 := R1.f 1 rfl
    have y2 := R1.c 2 rfl
    have z2 := R1.f 2 rfl
    have y3 := R1.c 3 rfl
    have z3 := R1.f 3 rfl
    have y4 := R1.c 4 rfl
    have z4 := R1.f 4 rfl
    have y5 := R1.c 5 rfl
    have z5 := R1.f 5 rfl
    have y6 := R1.c 6 rfl
    have z6 := R1.f 6 rfl
    have HB1 := hid (Hb0.out.trans (hb1.mono Hb0.out.size))
    clear hb1 R1
    go_wp2
    refine bodyPost_ret (v := .tuple #[.agg #[.int .i64 0, .int .i64 0, .bool false, .slice none 0 0, .slice none 0 0, .slice none 0 0, .slice none 0 0], .int .i64 0, .bool false]) (by simp [results, Tryz.results24, go_sem, y0, y1, y2, y3, y4, y5, y6]) rfl ?_
    rw [HR.out]
    refine ⟨⟨_, _, _, _, _, _, _, _, rfl, ⟨⟨[], FrRT.nil _ _ _ _ _⟩, .inl rfl, .inl rfl, .inl rfl⟩⟩, ?_⟩
    exact ((((((HB1.out.setCell (p := ⟨w.heap.size, 0, none⟩) (Nat.le_refl _) _).setCell (p := ⟨w.heap.size, 1, none⟩) (Nat.le_refl _) _).setCell (p := ⟨w.heap.size, 2, none⟩) (Nat.le_refl _) _).setCell (p := ⟨w.heap.size, 3, none⟩) (Nat.le_refl _) _).setCell (p := ⟨w.heap.size, 4, none⟩) (Nat.le_refl _) _).setCell (p := ⟨w.heap.size, 5, none⟩) (Nat.le_refl _) _).setCell (p := ⟨w.heap.size, 6, none⟩) (Nat.le_refl _) _
end
section
open Go.RowKit

/-- The marks of a row of Move. -/
def markMv (k : Int) (n : Nat) : List (Int × Int × Int) := (List.range n).map (fun i : Nat => (k + 3 * (i : Int), k + 3 * (i : Int) + 1, k + 3 * (i : Int) + 2))
theorem markMv_len (k : Int) (n : Nat) : (markMv k n).length = n := by simp [markMv]
theorem markMv_at (k : Int) (n j : Nat) (h : j < n) : el (markMv k n) j = (k + 3 * (j : Int), k + 3 * (j : Int) + 1, k + 3 * (j : Int) + 2) := by simp [markMv, el, h]
set_option maxHeartbeats 2000000 in
theorem markMoveS_any (lo hi : Nat) (to : Option Addr) (tc : Nat) (ts : List (Int × Int × Int)) (k0 : Int) (w : World) (hl : ts.length ≤ 2097152) (hk0 : 0 ≤ k0) (hk1 : k0 ≤ 16777216) (hF : kMv.Fresh lo hi w to tc ts) :
    Calls Tryz.prog 19 #[.slice to ts.length tc, .int .i64 k0] w fun e w' => e = .returned (.int .i64 (k0 + 3 * ts.length)) ∧ kMv.Fresh lo hi w' to tc (markMv k0 ts.length) ∧ OnlyAt (eff to ts.length) w w' := by
  rcases Nat.eq_zero_or_pos ts.length with h0 | h0
  · obtain rfl : ts = [] := List.length_eq_zero_iff.1 h0
    go_enter Tryz.func19, Tryz.ntmps19
    go_wp2
    go_loop [1, 5] (fun v i => v = .int .i64 k0 ∧ i = .int .i64 0) (fun _ _ => 0)
    case atStart => exact ⟨rfl, rfl⟩
    case round =>
      obtain ⟨rfl, rfl⟩ := hrel
      go_wp2
      go_ret
      exact ⟨by simp, .inl (by simp [markMv]), OnlyAt.refl _ _⟩
  · rw [eff_pos h0]
    obtain ⟨g, rfl, _, hg, _, ho⟩ := hF.at h0
    have HO : Hid (w.ownsRow lo 74 3 (.slice (some ⟨g, 0, none⟩) ts.length tc) ts.length (kMv.flat ts)) := ho
    clear ho
    go_enter Tryz.func19, Tryz.ntmps19
    go_wp2
    go_loopw [1, 5] (fun v i wr => ∃ (k : Nat) (xs : List Value), k ≤ ts.length ∧ i = .int .i64 k ∧ v = .int .i64 (k0 + 3 * k) ∧ Hid (wr.ownsRow lo 74 3 (.slice (some ⟨g, 0, none⟩) ts.length tc) ts.length xs ∧ ∀ j : Nat, j < k → xs[j * 3]? = some (.int .i64 (k0 + 3 * j)) ∧ xs[j * 3 + 1]? = some (.int .i64 (k0 + 3 * j + 1)) ∧ xs[j * 3 + 2]? = some (.int .i64 (k0 + 3 * j + 2))) ∧ OnlyAt (some ⟨g, 0, none⟩) w wr) (fun _ i _ => ts.length - (intOf i).toNat)
    case atStart => exact ⟨0, _, Nat.zero_le _, rfl, by simp, ⟨HO.out, fun j hj => by omega⟩, OnlyAt.refl _ _⟩
    case round =>
      obtain ⟨k, xs, hk, rfl, rfl, ho, hnx⟩ := hrel
      by_cases hlt : k < ts.length
      · have hxl : k * 3 + 2 < xs.length := by rw [ho.out.1.1]; omega
        have hst1 : wr.cell? ⟨g, k * 3, none⟩ = some xs[k * 3] := (ho.out.1.cellAt (k * 3) (by omega)).trans (by simp)
        have hfr1 : wr.frozen? ⟨g, k * 3, none⟩ = false := ho.out.1.frozenAt (k * 3)
        have hst2 : wr.cell? ⟨g, k * 3 + 1, none⟩ = some xs[k * 3 + 1] := (ho.out.1.cellAt (k * 3 + 1) (by omega)).trans (by simp)
        have hfr2 : wr.frozen? ⟨g, k * 3 + 1, none⟩ = false := ho.out.1.frozenAt (k * 3 + 1)
        have hst3 : wr.cell? ⟨g, k * 3 + 2, none⟩ = some xs[k * 3 + 2] := (ho.out.1.cellAt (k * 3 + 2) (by omega)).trans (by simp)
        have hfr3 : wr.frozen? ⟨g, k * 3 + 2, none⟩ = false := ho.out.1.frozenAt (k * 3 + 2)
        go_wp2
        go_roundw
        case rel => exact ⟨k + 1, (((xs.set (k * 3) (.int .i64 (k0 + 3 * k))).set (k * 3 + 1) (.int .i64 (k0 + 3 * k + 1))).set (k * 3 + 2) (.int .i64 (k0 + 3 * k + 2))), by omega, by go_num, by go_num, ⟨by
            have h := (((World.ownsRow.stored ho.out.1 (k * 3) (.int .i64 (k0 + 3 * k))).1.stored (k * 3 + 1) (.int .i64 (k0 + 3 * k + 1))).1.stored (k * 3 + 2) (.int .i64 (k0 + 3 * k + 2))).1
            simpa [Int.add_assoc] using h, fun j hj => by
          rcases Nat.lt_succ_iff_lt_or_eq.1 hj with h | rfl
          · refine ⟨?_, ?_, ?_⟩
            · rw [set_far (by omega), set_far (by omega), set_far (by omega)]; exact (ho.out.2 j h).1
            · rw [set_far (by omega), set_far (by omega), set_far (by omega)]; exact (ho.out.2 j h).2.1
            · rw [set_far (by omega), set_far (by omega), set_far (by omega)]; exact (ho.out.2 j h).2.2
          · refine ⟨?_, ?_, ?_⟩
            · rw [set_far (by omega), set_far (by omega), set_at (by first | omega | (simp only [List.length_set]; omega))]
            · rw [set_far (by omega), set_at (by first | omega | (simp only [List.length_set]; omega))]
            · rw [set_at (by first | omega | (simp only [List.length_set]; omega))]⟩, (((hnx.trans (OnlyAt.set g (k * 3) _ _)).trans (OnlyAt.set g (k * 3 + 1) _ _)).trans (OnlyAt.set g (k * 3 + 2) _ _))⟩
        case measure => simp [intOf]; omega
      · obtain rfl : k = ts.length := by omega
        have hxs : xs = kMv.flat (markMv k0 ts.length) := by
          refine kMv.flat_of xs _ (by rw [markMv_len]; exact ho.out.1.1) fun j hj i hi => ?_
          rw [markMv_len] at hj
          rw [markMv_at _ _ _ hj]
          have hi' : i < 3 := hi
          rcases (show i = 0 ∨ i = 1 ∨ i = 2 from by omega) with rfl | rfl | rfl
          · exact (ho.out.2 j hj).1
          · exact (ho.out.2 j hj).2.1
          · exact (ho.out.2 j hj).2.2
        subst hxs
        go_wp2
        go_ret
        refine ⟨rfl, .inr ⟨g, rfl, hg, ?_⟩, hnx⟩
        rw [markMv_len]; exact ho.out.1
set_option maxHeartbeats 1000000 in
theorem heldMoveS_any (to : Option Addr) (tc : Nat) (n : Nat) (k0 : Int) (w : World) (hl : n ≤ 2097152) (hk0 : 0 ≤ k0) (hk1 : k0 ≤ 16777216) (hF : kMv.In w.heap.size w to (markMv k0 n)) :
    Calls Tryz.prog 33 #[.slice to n tc, .int .i64 k0] w fun e w' => e = .returned (.int .i64 (k0 + 3 * n)) ∧ w' = w := by
  go_enter Tryz.func33, Tryz.ntmps33
  go_wp2
  go_loop [1, 5] (fun v i => ∃ k : Nat, k ≤ n ∧ i = .int .i64 k ∧ v = .int .i64 (k0 + 3 * k)) (fun _ i => n - (intOf i).toNat)
  case atStart => exact ⟨0, Nat.zero_le _, rfl, by simp⟩
  case round =>
    obtain ⟨k, hk, rfl, rfl⟩ := hrel
    by_cases hlt : k < n
    · obtain ⟨b, off, rfl, hb, hc⟩ := kMv_at hF (k := k) (by rw [markMv_len]; exact hlt)
      have hck := hc k (by rw [markMv_len]; exact hlt)
      rw [markMv_at _ _ _ hlt] at hck
      obtain ⟨hck1, hck2, hck3⟩ := hck
      clear hc hF
      have hne0_0 : (k0 + 3 * (k : Int) != k0 + 3 * (k : Int)) = false := by simp <;> omega
      have hne1_0 : (k0 + 3 * (k : Int) + 1 != k0 + 3 * (k : Int) + 1) = false := by simp <;> omega
      have hne2_0 : (k0 + 3 * (k : Int) + 2 != k0 + 3 * (k : Int) + 1 + 1) = false := by simp <;> omega
      have hne2_1 : (k0 + 3 * (k : Int) + 2 != k0 + 3 * (k : Int) + 2) = false := by simp <;> omega
      dsimp only at hck1 hck2 hck3
      go_wp2
      go_round
      case rel => exact ⟨k + 1, by omega, by go_num, by go_num⟩
      case measure => simp [intOf]; omega
    · obtain rfl : k = n := by omega
      go_wp2
      go_ret
      exact ⟨rfl, rfl⟩
end
end Go.Proofs.YtoeonbdoopboiaaGreatDoor
