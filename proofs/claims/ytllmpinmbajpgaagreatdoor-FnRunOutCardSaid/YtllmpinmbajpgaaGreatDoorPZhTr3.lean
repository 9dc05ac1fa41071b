
/- A token is put into a box. No conditions but those written. A graph in its own memory; what is put behind it and what is written into it. No conditions but those written. The draws' cursor: a text among texts. No conditions but those written. A drawn region by hand: where two may come up. No conditions but those written. A drawn region by hand: where three may come up. No conditions but those written. -/
import Derived.Test.YtllmpinmbajpgaaGreatDoorPFoRz
import Derived.Test.YtllmpinmbajpgaaGreatDoorPXrRu
import Derived.Test.YtllmpinmbajpgaaGreatDoorPGenFq
import Derived.Deep.RegionLawGrows
namespace Go.Proofs.YtllmpinmbajpgaaGreatDoor
section
open Go.RowKit

section
variable {α : Type} {K : Kind α}
/-- What a row's law says of one operation in a list, it says of the operation. -/
theorem wp_of_list {ops : Array Oper} {o : Oper} {a : Act} {W : World} {K' : Act → World → Prop} {Q : Exit → Act → World → Prop} {E : Prop} (hg : o.guard = none) (h : ∀ Q2 : Exit → Act → World → Prop, (∀ b y, K' b y → wpList Tryz.prog ops Q2 [] b y) → wpList Tryz.prog ops Q2 [o] a W) :
  if Region.wanted o (yielded ops a.tmps) = true then Oper.wp Tryz.prog o a W K' Q else E := by
 have hw : Region.wanted o (yielded ops a.tmps) = true := by simp [Region.wanted, hg]
 rw [if_pos hw];have h2 := h (fun e b y => match e with | .normal => K' b y | .panic c => Q (.panic c) b y | _ => False) (fun _ _ hk => hk);rw [wpList, if_pos hw] at h2
 rcases h2 with h2 | ⟨_, _, _, hf⟩
 ·unfold Oper.wp at h2 ⊢
  generalize (execOp a.eval o).run Tryz.prog W = r at h2 ⊢
  cases r with
  | ok x y =>
   cases x <;> simp only [Oper.upon] at h2 ⊢
   case enter f args =>
    refine Calls.mono h2 fun e y2 he => ?_
    cases e with
    | returned v => exact he
    | panicked c => exact he
    | outgrown => obtain ⟨_, _, hf⟩ := he; exact hf.elim
   all_goals exact h2
  | halt x y => cases x <;> simp only [Oper.upon] at h2 ⊢ <;> exact h2
 ·exact hf.elim
/-- Elements are put behind a row of its own, nil or not: it stays in its block, or lies in a new one: at one operation. -/
theorem Kind.appZ [Inhabited α] (hK : K.Ok) {ops : Array Oper} {o : Oper} {a : Act} {K' : Act → World → Prop} {Q : Exit → Act → World → Prop} {E : Prop} (W : World) (hg : o.guard = none) (s x : Operand) (hop : o.op = Op.call { callee := Callee.builtin Builtin.append, args := #[s, x], argTypes := #[K.st, K.st] })
  (lo : Nat) (v : Value) (xs : List α) (hs : a.eval s = v) (hown : K.Own lo W v xs) (hlo : lo ≤ W.heap.size)
  (ao : Option Addr) (ys : List α) (m c : Nat) (hx : a.eval x = .slice ao m c) (hm : ys.length = m) (hno : ao = none → c = 0) (n : Nat) (hz : K.In n W ao ys) (hl : xs.length + ys.length ≤ 4194304)
  (hk : ∀ v' w', K.Own lo w' v' (xs ++ ys) → Below lo W w' → W.grownBy w' v.ownBlock → (∀ g, v'.ownBlock = some g → v.ownBlock = some g ∨ W.heap.size ≤ g) → K' (a.put o.dst v') w') :
  if Region.wanted o (yielded ops a.tmps) = true then Oper.wp Tryz.prog o a W K' Q else E :=
 wp_of_list hg fun _ hq => Kind.appN hK W hg s x hop lo v xs hs hown hlo ao ys m c hx hm hno n hz hl fun v' w' h1 h2 h3 h4 => hq _ _ (hk v' w' h1 h2 h3 h4)
end
set_option maxRecDepth 100000 in
set_option maxHeartbeats 2000000 in
theorem put_any (lo : Nat) (W : World) (p bb : Nat) (gv sv : Value) (xs : List Value) (ev fv uv : Value) (s : PP) (k : Nat) (t1 t2 t3 : Int) (h : Flow lo W p bb gv sv xs ev fv uv s) (hk : k < s.bx.length) (ht : totT s.bx ≤ 100000) :
  Calls Tryz.prog 147 #[.pointer (some ⟨p, 0, none⟩), .int .i64 (k : Int), .agg #[.int .i64 t1, .int .i64 t2, .int .i64 t3]] W fun e W' => (∃ v, e = .returned v) ∧ FStep lo p gv sv (FO p bb xs ev fv uv) W W' { s with bx := s.bx.set k (el s.bx k ++ [(t1, t2, t3)]) } := by
 have hp := h.box.size;have hbb := h.hnd.size;have hxk : k < xs.length := by rw [h.hnd.len]; exact hk
 obtain ⟨ho, hc, hsl, hcn, _⟩ := h.hnd.slice hk;have hb0 := below1 W (.cells #[.int .i64 t1, .int .i64 t2, .int .i64 t3] 112);have F0 := h.later hb0;have T0 := Bx.new (w := W) [.int .i64 t1, .int .i64 t2, .int .i64 t3] 112 rfl;obtain ⟨V, hV⟩ : ∃ V, V = (W.alloc (.cells #[.int .i64 t1, .int .i64 t2, .int .i64 t3] 112)) := ⟨_, rfl⟩;rw [← hV] at hb0 F0 T0;have HV := hid hV;have c5 := F0.box.c 5 rfl;have ck := (F0.head hk).1;rw [hsl] at ck;have hki : (k : Int) < (s.bx.length : Int) := by omega
 have hVs : V.heap.size = W.heap.size + 1 := by rw [hV]; simp
 have HVs := hid hVs;have C0 : Hid (V.cell? ⟨p, 5, none⟩ = some (.slice (some ⟨bb, 0, none⟩) s.bx.length s.bx.length) ∧ V.cell? ⟨bb, k, none⟩ = some (.slice ho (el s.bx k).length hc) ∧ V.cell? ⟨W.heap.size, 0, none⟩ = some (.int .i64 t1) ∧ V.cell? ⟨W.heap.size, 1, none⟩ = some (.int .i64 t2) ∧ V.cell? ⟨W.heap.size, 2, none⟩ = some (.int .i64 t3)) := ⟨c5, ck, T0.c 0 rfl, T0.c 1 rfl, T0.c 2 rfl⟩;have HF0 := hid F0;have HB0 := hid hb0;clear hV hb0 F0 T0 c5 ck hVs;go_enter Tryz.func147, Tryz.ntmps147;go_wp2;rw [← HV.out];refine wp_walks (zl := [18]) (S := fun Y => Y.cell? ⟨p, 5, none⟩ = some (.slice (some ⟨bb, 0, none⟩) s.bx.length s.bx.length) ∧ Y.cell? ⟨bb, k, none⟩ = some (.slice ho (el s.bx k).length hc) ∧ Y.cell? ⟨W.heap.size, 0, none⟩ = some (.int .i64 t1) ∧ Y.cell? ⟨W.heap.size, 1, none⟩ = some (.int .i64 t2) ∧ Y.cell? ⟨W.heap.size, 2, none⟩ = some (.int .i64 t3)) (by kernel_rfl) C0.out (fun hH => ?_);refine Walks.tk 0 hH ?_;refine Walks.tk 1 hH ?_;refine Walks.tk 2 hH ?_;refine Walks.tk 3 hH ?_;refine Walks.tk 4 hH ?_;refine Walks.tk 5 hH ?_;refine Walks.tk 6 hH ?_;refine Walks.tk 7 hH ?_;refine Walks.tk 8 hH ?_;refine Walks.tk 9 hH ?_;refine Walks.tk 10 hH ?_;refine Walks.tk 11 hH ?_;refine Walks.tk 12 hH ?_;refine Walks.tk 13 hH ?_;refine Walks.tk 14 hH ?_;refine Walks.on 15 fun K hK => ?_
 go_simp;obtain ⟨U, hU⟩ : ∃ U, U = (V.alloc (.cells #[.int .i64 t1, .int .i64 t2, .int .i64 t3] 112)).drew := ⟨_, rfl⟩;rw [← hU];have hbU : Below V.heap.size V U := by rw [hU]; exact (below1 V _).drew
 have hN : kTk.In U.heap.size U (some ⟨V.heap.size, 0, none⟩) [(t1, t2, t3)] := by
  have hx : Bx U V.heap.size [.int .i64 t1, .int .i64 t2, .int .i64 t3] := by rw [hU]; exact (Bx.new (w := V) [.int .i64 t1, .int .i64 t2, .int .i64 t3] 112 rfl).drew
  exact kTk_one hx.size (hx.c 0 rfl) (hx.c 1 rfl) (hx.c 2 rfl)
 have hUs : V.heap.size < U.heap.size := by rw [hU]; show V.heap.size < (V.alloc _).heap.size; simp
 have FU := HF0.out.later hbU;have C1 := C0.out;have hpV : p < V.heap.size := by have := HVs.out; omega
 have hbV : bb < V.heap.size := by have := HVs.out; omega
 have htV : W.heap.size < V.heap.size := by have := HVs.out; omega
 refine hK.out _ _ (fun _ => ⟨(hbU.cell (p := ⟨p, 5, none⟩) hpV).trans C1.1, (hbU.cell (p := ⟨bb, k, none⟩) hbV).trans C1.2.1, (hbU.cell (p := ⟨W.heap.size, 0, none⟩) htV).trans C1.2.2.1, (hbU.cell (p := ⟨W.heap.size, 1, none⟩) htV).trans C1.2.2.2.1, (hbU.cell (p := ⟨W.heap.size, 2, none⟩) htV).trans C1.2.2.2.2⟩) (fun hU0 => ?_);clear hK K hU C1;refine Walks.on 16 fun K hK => ?_
 refine Kind.appZ kTk_ok U (by rfl) (.tmp 19) (.tmp 21) (by rfl) (bb + 1) (.slice ho (el s.bx k).length hc) (el s.bx k) (by rfl) (by rw [← hsl]; exact FU.hnd.row k hk) (by omega) (some ⟨V.heap.size, 0, none⟩) [(t1, t2, t3)] 1 1 (by rfl) rfl (by simp) _ hN (by have := totT_el hk; simp; omega) ?_;intro v' w2 hO2 hB2 hG2 hw2;obtain ⟨L, hL⟩ : ∃ L, L = el s.bx k ++ [(t1, t2, t3)] := ⟨_, rfl⟩;rw [← hL] at hO2;have HL := hid hL;clear hL;obtain ⟨vo, vc, hv', _, _⟩ := hO2.fresh;have hrow : ∀ b, (el xs k).ownBlock = some b → b < W.heap.size := fun b hb => (own_block_lt (h.hnd.row k hk) hb).2
 have hG3 : U.grownBy w2 (el xs k).ownBlock := by rw [hsl]; exact hG2
 have hw3 : ∀ g, v'.ownBlock = some g → (el xs k).ownBlock = some g ∨ U.heap.size ≤ g := by rw [hsl]; exact hw2
 have kp : w2.heap[p]? = U.heap[p]? := hG3.block p (by omega) (fun e => h.px k hk e.symm);have kb : w2.heap[bb]? = U.heap[bb]? := hG3.block bb (by omega) (fun e => h.bbx hk e.symm);have kt : w2.heap[W.heap.size]? = U.heap[W.heap.size]? := hG3.block _ (by omega) (fun e => by have := hrow _ e.symm; omega);have U0 := hU0 rfl;refine hK.out _ _ (fun _ => ⟨(World.cell?_of_block (a := ⟨p, 5, none⟩) kp).trans U0.1, (World.cell?_of_block (a := ⟨bb, k, none⟩) kb).trans U0.2.1, (World.cell?_of_block (a := ⟨W.heap.size, 0, none⟩) kt).trans U0.2.2.1, (World.cell?_of_block (a := ⟨W.heap.size, 1, none⟩) kt).trans U0.2.2.2.1, (World.cell?_of_block (a := ⟨W.heap.size, 2, none⟩) kt).trans U0.2.2.2.2⟩) (fun hU2 => ?_);have U2 := hU2 rfl;have fB : w2.frozen? ⟨bb, k, none⟩ = false := (World.frozen?_of_block (a := ⟨bb, k, none⟩) kb).trans (FU.head hk).2;have cB := U2.2.1;clear hK K hU2 hU0;refine Walks.tk 17 U2 ?_;refine Walks.on 18 fun K hK => ?_
 rw [hv'];go_simp;refine hK.out _ _ (fun h => absurd h (by decide)) (fun _ => ?_);refine Walks.done (by kernel_rfl) ?_ _;clear hK K;have hTS := totT_set (ls := s.bx) (k := k) L hk;have hLl : L.length = (el s.bx k).length + 1 := by rw [HL.out]; simp
 have BX2 : Bx w2 p _ := FU.box.keep hG3.size kp;have BX3 := BX2.other (a := ⟨bb, k, none⟩) (fun e => h.pbb e.symm) (.slice vo L.length vc);have c9 := BX3.c 9 rfl;have f9 := BX3.f 9 rfl;obtain ⟨w3, h3⟩ : ∃ w3, w3 = w2.setCell ⟨bb, k, none⟩ (.slice vo L.length vc) := ⟨_, rfl⟩;rw [← h3] at BX3 c9 f9 ⊢;have H3 := hid h3;have HB3 := hid BX3;have HTS := hid hTS;have HLl := hid hLl;clear h3 BX3 BX2 hTS hLl U2 cB fB U0;go_wp2_with fail;refine (add_any p 9 (totT s.bx : Int) 1 (totT s.bx + 1 : Int) w3 c9 f9 rfl (by omega) (by omega)).mono ?_;rintro e w4 ⟨rfl, h4⟩;have H4 := hid h4;clear h4 c9 f9;go_wp2
 first | refine bodyPost_ret (results_none rfl _ _ _) rfl ?_ | refine bodyPost_end (results_none rfl _ _ _) rfl ?_
 refine ⟨⟨_, rfl⟩, ?_⟩;rw [H4.out, ← HL.out];have hT : (totT (s.bx.set k L) : Int) = totT s.bx + 1 := by have := HTS.out; have := HLl.out; omega
 have hpw : ∀ j, j < (s.bx.set k L).length → (el (xs.set k v') j).ownBlock ≠ some p := fun j hj => by
  rw [List.length_set] at hj
  by_cases e : j = k
  ·subst e;rw [el_set_same hxk];intro hb
   rcases hw3 p hb with h1 | h1
   ·exact h.px j hk h1
   ·omega
  ·rw [el_set_far e]; exact h.px j hj
 have hnd3 : HandsT bb w3 (xs.set k v') (s.bx.set k L) := by rw [H3.out, ← hv']; exact FU.hnd.put hk hO2 hG3 hw3
 have hnd4 : HandsT bb (w3.setCell ⟨p, 9, none⟩ (.int .i64 (totT s.bx + 1))) (xs.set k v') (s.bx.set k L) := hnd3.keep (Below.heap_setCell _ _ _ _ (fun e => h.pbb e.symm)) (fun j hj b hb => Below.heap_setCell _ _ _ _ (fun e => hpw j hj (by have e' : b = p := e; rw [← e']; exact hb)));have hbx4 := HB3.out.set 9 (.int .i64 (totT s.bx + 1));have hsz : U.heap.size ≤ w2.heap.size := hG3.size;have hkeep : ∀ b, b < U.heap.size → b ≠ p → b ≠ bb → (el xs k).ownBlock ≠ some b → (w3.setCell ⟨p, 9, none⟩ (.int .i64 (totT s.bx + 1))).heap[b]? = U.heap[b]? := fun b h1 h2 h3 h4 => by
  rw [Below.heap_setCell _ _ _ _ h2, H3.out, Below.heap_setCell _ _ _ _ h3];exact hG3.block b h1 (fun e => h4 e.symm)
 refine ⟨FO p bb (xs.set k v') ev fv uv, ⟨bb, xs.set k v', ev, fv, uv, FU.turn ?_ hnd4 (fun b hb => ?_) hpw, fun b hb => hb⟩, fun b hb => ?_, ?_, fun b hb hO => ?_⟩
 ·rw [List.length_set, hT]; exact hbx4
 ·obtain ⟨a1, a2, a3, a4⟩ := FU.apart hb;exact hkeep b a1 a2 a3 (a4 k hk)
 ·rcases hb with hb | hb | ⟨j, hj, hb⟩ | hb | hb | hb
  ·exact .inl (.inl hb)
  ·exact .inl (.inr (.inl hb))
  ·rw [List.length_set] at hj
   by_cases e : j = k
   ·subst e;rw [el_set_same hxk] at hb
    rcases hw3 b hb with h1 | h1
    ·exact .inl (.inr (.inr (.inl ⟨j, hj, h1⟩)))
    ·exact .inr (by omega)
   ·rw [el_set_far e] at hb;exact .inl (.inr (.inr (.inl ⟨j, hj, hb⟩)))
  ·exact .inl (.inr (.inr (.inr (.inl hb))))
  ·exact .inl (.inr (.inr (.inr (.inr (.inl hb)))))
  ·exact .inl (.inr (.inr (.inr (.inr (.inr hb)))))
 ·rw [H3.out];have hW : Below lo W U := (HB0.out.mono (Nat.le_trans h.lop (by omega))).trans (hbU.mono (by have := h.lop; omega));exact ((hW.trans (hB2.mono (by have := h.lob; omega))).setCell (p := ⟨bb, k, none⟩) h.lob _).setCell (p := ⟨p, 9, none⟩) h.lop _
 ·have hW : U.heap[b]? = W.heap[b]? := (hbU.block b (by omega)).trans (HB0.out.block b hb);rw [← hW];exact hkeep b (by omega) (fun e => hO (.inl e)) (fun e => hO (.inr (.inl e))) (fun e => hO (.inr (.inr (.inl ⟨k, hxk, e⟩))))
end
section
open Go.RowKit

theorem Kind.flat_set {α : Type} [Inhabited α] (K : Kind α) {x : α} {v : Value} {i : Nat} : ∀ {us : List α} {k : Nat}, k < us.length → K.enc x = (K.enc (el us k)).set i v → i < K.sz → (K.flat us).set (k * K.sz + i) v = K.flat (us.set k x)
 | [], k, h, _, _ => by simp at h
 | y :: r, 0, _, he, hi => by
  rw [el_zero] at he;rw [List.set_cons_zero, Kind.flat_cons, Kind.flat_cons, Nat.zero_mul, Nat.zero_add, List.set_append_left _ _ (by rw [K.len]; exact hi), he]
 | y :: r, k + 1, h, he, hi => by
  rw [el_cons] at he;rw [List.set_cons_succ, Kind.flat_cons, Kind.flat_cons, ← Kind.flat_set K (by simpa using h) he hi, List.set_append_right _ _ (by rw [K.len, Nat.add_mul, Nat.one_mul]; omega), K.len]
  congr 2
  rw [Nat.add_mul, Nat.one_mul]; omega
theorem Kind.Fresh.putCell {α : Type} [Inhabited α] {K : Kind α} {lo hi : Nat} {W : World} {g c : Nat} {us : List α} (h : K.Fresh lo hi W (some ⟨g, 0, none⟩) c us) {k : Nat} (hk : k < us.length) {x : α} {v : Value} {i : Nat} (he : K.enc x = (K.enc (el us k)).set i v) (hi' : i < K.sz) :
  K.Fresh lo hi (W.setCell ⟨g, k * K.sz + i, none⟩ v) (some ⟨g, 0, none⟩) c (us.set k x) := by
 obtain ⟨g2, e2, hg1, hg2, hg3, ho⟩ := h.at (show 0 < us.length by omega)
 simp at e2; subst e2
 have hs := (World.ownsRow.stored ho (k * K.sz + i) v).1;rw [K.flat_set hk he hi'] at hs;refine .inr ⟨g, rfl, hg2, ?_⟩
 simpa using hs
theorem elset1 {α : Type} [Inhabited α] {l : List α} {i : Nat} {a : α} (h : i < l.length) : el (l.set i a) i = a := by simp [el, h]
theorem elset2 {α : Type} [Inhabited α] {l : List α} {i j : Nat} {a : α} (h : j ≠ i) : el (l.set i a) j = el l j := by simp [el, Ne.symm h]
theorem DFr.putG {A : Type} [Inhabited A] {D : Deep A} (hD : D.Ok) {lo hi hi' : Nat} {W W' : World} {ao : Option Addr} {c : Nat} {ts : List A} (h : DFr D lo hi W ao c ts) (hhi : hi ≤ hi') {k : Nat} (hk : k < ts.length) {a : A} (hK : D.K.Fresh lo hi' W' ao c (ts.set k a)) (hF : D.Fr lo hi' W' a) (ho : ∀ b, D.own a b → D.own (el ts k) b ∨ hi ≤ b) (hb : ∀ b, ¬ rowOwn ao ts b → ¬ D.own (el ts k) b → b < hi → W'.heap[b]? = W.heap[b]?) : DFr D lo hi' W' ao c (ts.set k a) := by
 refine ⟨hK, fun j hj => ?_, fun i j hij hj b h1 h2 => ?_⟩
 ·have hj' : j < ts.length := by simpa using hj
  by_cases e : j = k
  ·subst e; rw [elset1 hk]; exact hF
  ·rw [elset2 e];refine hD.wide (hD.keep (h.2.1 j hj') fun b hob => hb b (h.head hD hj' hob) (fun hob2 => ?_) (hD.lt (h.2.1 j hj') hob).2.1) (Nat.le_refl _) hhi
   rcases Nat.lt_or_gt_of_ne e with hl | hl
   ·exact h.2.2 j k hl hk b hob hob2
   ·exact h.2.2 k j hl hj' b hob2 hob
 ·have hj' : j < ts.length := by simpa using hj
  have hi1 : i < ts.length := by omega
  have e1 : D.own (el (ts.set k a) i) b → D.own (el ts i) b ∨ (i = k ∧ hi ≤ b) := by
   by_cases e : i = k
   ·subst e; rw [elset1 hk]; exact fun h => (ho b h).imp id fun h => ⟨rfl, h⟩
   ·rw [elset2 e]; exact .inl
  have e2 : D.own (el (ts.set k a) j) b → D.own (el ts j) b ∨ (j = k ∧ hi ≤ b) := by
   by_cases e : j = k
   ·subst e; rw [elset1 hk]; exact fun h => (ho b h).imp id fun h => ⟨rfl, h⟩
   ·rw [elset2 e]; exact .inl
  rcases e1 h1 with a1 | ⟨a1, a2⟩
  ·rcases e2 h2 with b1 | ⟨b1, b2⟩
   ·exact h.2.2 i j hij hj' b a1 b1
   ·have := (hD.lt (h.2.1 i hi1) a1).2.1; omega
  ·rcases e2 h2 with b1 | ⟨b1, b2⟩
   ·have := (hD.lt (h.2.1 j hj') b1).2.1; omega
   ·omega
theorem rw_fresh {α : Type} {K : Kind α} {lo hi : Nat} {W : World} {c : Nat} {ao : Option Addr} {xs : List α} (h : K.Fresh lo hi W ao c xs) (hn : 0 < xs.length) : K.RW lo hi W ao c xs := by
 rcases h with rfl | ⟨g, rfl, hg, ho⟩
 ·simp at hn
 ·exact ⟨ho, fun g' o e => by cases e; exact hg⟩
theorem fresh_rw {α : Type} {K : Kind α} {lo hi : Nat} {W : World} {c : Nat} {ao : Option Addr} {xs : List α} (h : K.RW lo hi W ao c xs) : K.Fresh lo hi W ao c xs := by
 rcases h.1.2 with ⟨e, h0⟩ | ⟨g, c2, cur, e, r⟩
 ·exact .inl (List.length_eq_zero_iff.1 h0)
 ·have e1 : ao = some ⟨g, 0, none⟩ := by simp at e; exact e.1
  exact .inr ⟨g, e1, h.2 g 0 e1, by rw [← e1]; exact h.1⟩
theorem DFr.snoc {A : Type} [Inhabited A] {D : Deep A} (hD : D.Ok) {lo hi hi2 : Nat} {W W' : World} {ao ao' : Option Addr} {c c' : Nat} {ts : List A} {x : A} (h : DFr D lo hi W ao c ts) (hx : D.Fr hi hi2 W x) (hl : lo ≤ hi) (hh : hi ≤ hi2) (hK : D.K.Fresh lo hi2 W' ao' c' (ts ++ [x])) (hk : ∀ b, (∃ j, j < ts.length ∧ D.own (el ts j) b) ∨ D.own x b → W'.heap[b]? = W.heap[b]?) : DFr D lo hi2 W' ao' c' (ts ++ [x]) := by
 refine ⟨hK, fun j hj => ?_, fun i j hij hj b h1 => ?_⟩
 ·by_cases hj' : j < ts.length
  ·rw [el_app_left hj'];exact hD.wide (hD.keep (h.2.1 j hj') fun b hb => hk b (.inl ⟨j, hj', hb⟩)) (Nat.le_refl _) hh
  ·obtain rfl : j = ts.length := by simp at hj; omega
   rw [el_snoc_right rfl];exact hD.wide (hD.keep hx fun b hb => hk b (.inr hb)) hl (Nat.le_refl _)
 ·have hi' : i < ts.length := by simp at hj; omega
  rw [el_app_left hi'] at h1
  by_cases hj' : j < ts.length
  ·rw [el_app_left hj'];exact h.2.2 i j hij hj' b h1
  ·obtain rfl : j = ts.length := by simp at hj; omega
   rw [el_snoc_right rfl];intro h2;have h3 := (hD.lt (h.2.1 i hi') h1).2.1;have h4 := (hD.lt hx h2).1
   omega
/-- Nodes that bear a row of none only where it has no room. -/
def NilN (us : List LNode) : Prop := ∀ a ∈ us, a.2.2.2.2.2.2.2 = [] → a.2.2.2.2.2.1 = none ∧ a.2.2.2.2.2.2.1 = 0
/-- A graph in its own memory, or none and no room. -/
def GW (lo hi : Nat) (W : World) (o : Option Addr) (c : Nat) (us : List LNode) : Prop := DFr dNode lo hi W o c us ∧ (us = [] → c = 0) ∧ NilN us
section
variable {lo hi : Nat} {W W' : World} {o : Option Addr} {c : Nat} {us : List LNode}
theorem GW.keep (h : GW lo hi W o c us) (hk : ∀ k, lo ≤ k → k < hi → k < W.heap.size → W'.heap[k]? = W.heap[k]?) : GW lo hi W' o c us := ⟨h.1.keep dNode_ok hk, h.2⟩
theorem GW.below (h : GW lo hi W o c us) {n : Nat} (hb : Below n W W') (hn : hi ≤ n) : GW lo hi W' o c us := h.keep fun k _ h2 _ => hb.block k (by omega)
theorem GW.grew {p : Nat} (h : GW lo hi W o c us) (hg : Grew p W W') (hp : p < lo) : GW lo hi W' o c us := h.keep fun k h1 _ hk => hg.block k hk (by omega)
theorem GW.setOff (h : GW lo hi W o c us) {a : Addr} (ha : a.block < lo ∨ hi ≤ a.block) (u : Value) : GW lo hi (W.setCell a u) o c us := h.keep fun k h1 h2 _ => Below.heap_setCell W a u k (by omega)
theorem GW.wide {lo' hi' : Nat} (h : GW lo hi W o c us) (h1 : lo' ≤ lo) (h2 : hi ≤ hi') : GW lo' hi' W o c us := ⟨h.1.wide dNode_ok h1 h2, h.2⟩
theorem gw_nil : GW lo hi W none 0 [] := ⟨DFr.nil _ _ _ _ _, fun _ => rfl, fun a ha => by simp at ha⟩
/-- A node's row is its own. -/
theorem GW.row (h : GW lo hi W o c us) {j : Nat} (hj : j < us.length) : kI.RW lo hi W (el us j).2.2.2.2.2.1 (el us j).2.2.2.2.2.2.1 (el us j).2.2.2.2.2.2.2 := by
 have hF : kI.Fresh lo hi W (el us j).2.2.2.2.2.1 (el us j).2.2.2.2.2.2.1 (el us j).2.2.2.2.2.2.2 := h.1.2.1 j hj
 by_cases e : (el us j).2.2.2.2.2.2.2 = []
 ·obtain ⟨e1, e2⟩ := h.2.2 _ (el_mem hj) e;rw [e, e1, e2]; exact Kind.RW.nil
 ·exact rw_fresh hF (List.length_pos_iff.2 e)
theorem own_type {lo' : Nat} {v : Value} {xs : List LNode} (h : hNode.Own lo' W v xs) {b : Nat} (hb : v.ownBlock = some b) : ∃ cur, W.heap[b]? = some (.cells cur 84 (0, 0)) := by
 rcases h.2 with ⟨e, _⟩ | ⟨g, cap, cur, e, _, hh, _⟩
 ·subst e; simp [Value.ownBlock] at hb
 ·subst e; simp [Value.ownBlock] at hb; subst hb; exact ⟨cur, hh⟩
end
theorem hNode_one {n : Nat} {W : World} {p : Nat} {nm : ByteArray} {kd sa sb cp : Int} {nxo : Option Addr} {nxc : Nat} {nx : List Int} (hp : p < n) (h : Bx W p [.string nm, .int .i64 kd, .int .i64 sa, .int .i64 sb, .int .i64 cp, .slice nxo nx.length nxc]) : hNode.In n W (some ⟨p, 0, none⟩) [((nm, kd, sa, sb, cp, (nxo, nxc, nx)) : LNode)] := by
 refine Kind.In.mk1 hp fun i hi => ?_
 rw [Nat.zero_add];have hi' : i < 6 := hi
 rcases (show i = 0 ∨ i = 1 ∨ i = 2 ∨ i = 3 ∨ i = 4 ∨ i = 5 from by omega) with rfl | rfl | rfl | rfl | rfl | rfl
 ·exact h.c 0 rfl
 ·exact h.c 1 rfl
 ·exact h.c 2 rfl
 ·exact h.c 3 rfl
 ·exact h.c 4 rfl
 ·exact h.c 5 rfl
/-- What is left once a node was put behind a graph. -/
theorem gw_snoc {lo hi : Nat} {W W' : World} {o : Option Addr} {c : Nat} {us : List LNode} {nm : ByteArray} {kd sa sb cp : Int} {nxo : Option Addr} {nxc : Nat} {nx : List Int} (h : GW lo hi W o c us) (hx : kI.RW hi W.heap.size W nxo nxc nx) (hn : nx = [] → nxo = none ∧ nxc = 0) (hlo : lo ≤ hi) (hhi : hi ≤ W.heap.size)
  {to : Option Addr} {tc : Nat} (hO : hNode.Own lo W' (.slice to (us ++ [((nm, kd, sa, sb, cp, (nxo, nxc, nx)) : LNode)]).length tc) (us ++ [((nm, kd, sa, sb, cp, (nxo, nxc, nx)) : LNode)])) (hG : ∀ k : Nat, k < W.heap.size → (∃ cur, W.heap[k]? = some (.cells cur 84 (0, 0))) ∨ W'.heap[k]? = W.heap[k]?) (hs : W.heap.size ≤ W'.heap.size) :
  GW lo W'.heap.size W' to tc (us ++ [((nm, kd, sa, sb, cp, (nxo, nxc, nx)) : LNode)]) := by
 have hne : ∀ (b : Nat) cur t, W.heap[b]? = some (.cells cur t (0, 0)) → t ≠ 84 → W'.heap[b]? = W.heap[b]? := fun b cur t hb ht => by
  rcases hG b (Array.getElem?_eq_some_iff.1 hb).1 with ⟨cur2, h2⟩ | h2
  ·rw [hb] at h2; simp at h2; exact absurd h2.2 ht
  ·exact h2
 have hX : dNode.Fr hi W.heap.size W ((nm, kd, sa, sb, cp, (nxo, nxc, nx)) : LNode) := fresh_rw hx;refine ⟨DFr.wide dNode_ok (DFr.snoc (hi2 := W'.heap.size) dNode_ok h.1 (dNode_ok.wide hX (Nat.le_refl _) hs) hlo (Nat.le_trans hhi hs) (fresh_rw (Kind.RW.of hO)) fun b hb => ?_) (Nat.le_refl _) (Nat.le_refl _), fun e => by simp at e, fun a ha e => ?_⟩
 ·rcases hb with ⟨j, hj, hb⟩ | hb
  ·obtain ⟨_, _, _, cur, t, h4, h5⟩ := dNode_ok.lt (h.1.2.1 j hj) hb;exact hne b cur t h4 h5
  ·obtain ⟨_, _, _, cur, t, h4, h5⟩ := dNode_ok.lt hX hb;exact hne b cur t h4 h5
 ·rcases List.mem_append.1 ha with ha | ha
  ·exact h.2.2 a ha e
  ·simp at ha; subst ha
   exact hn e
/-- The head of a graph's node. -/
theorem GW.head {lo hi : Nat} {W : World} {o : Option Addr} {c : Nat} {us : List LNode} (h : GW lo hi W o c us) {k : Nat} (hk : k < us.length) : ∃ g, o = some ⟨g, 0, none⟩ ∧ lo ≤ g ∧ g < hi ∧ g < W.heap.size ∧ (W.cell? ⟨g, k * 6, none⟩ = some (.string (el us k).1) ∧ W.cell? ⟨g, k * 6 + 4, none⟩ = some (.int .i64 (el us k).2.2.2.2.1) ∧ W.cell? ⟨g, k * 6 + 5, none⟩ = some (.slice (el us k).2.2.2.2.2.1 (el us k).2.2.2.2.2.2.2.length (el us k).2.2.2.2.2.2.1)) ∧ (∀ q, W.frozen? ⟨g, k * 6 + q, none⟩ = false) ∧ rowOwn o us g ∧ ∃ cur, W.heap[g]? = some (.cells cur 84 (0, 0)) := by
 obtain ⟨g, e2, hg1, hg2, hg3, ho⟩ := h.1.1.at (show 0 < us.length by omega);subst e2;obtain ⟨b0, off, eb, _, hc⟩ := hNode_at h.1.1.in hk;obtain ⟨rfl, rfl⟩ : b0 = g ∧ off = 0 := by simp at eb; exact ⟨eb.1.symm, eb.2.symm⟩
 have hc' := hc k hk;simp only [Nat.zero_add] at hc';exact ⟨b0, rfl, hg1, hg2, hg3, ⟨hc'.1, hc'.2.2.2.2.1, hc'.2.2.2.2.2⟩, fun q => ho.frozenAt (k * 6 + q), ⟨by omega, rfl⟩, owns_type ho⟩
/-- A cell of a node is written that is no row. -/
theorem GW.put {lo hi : Nat} {W : World} {g c : Nat} {us : List LNode} (h : GW lo hi W (some ⟨g, 0, none⟩) c us) {k : Nat} (hk : k < us.length) {x : LNode} {v : Value} {i : Nat} (hi' : i < 6) (he : hNode.enc x = (hNode.enc (el us k)).set i v) (hx : x.2.2.2.2.2 = (el us k).2.2.2.2.2) : GW lo hi (W.setCell ⟨g, k * 6 + i, none⟩ v) (some ⟨g, 0, none⟩) c (us.set k x) := by
 have hfar : ∀ b, ¬ rowOwn (some ⟨g, 0, none⟩) us b → (W.setCell ⟨g, k * 6 + i, none⟩ v).heap[b]? = W.heap[b]? := fun b hb => Below.heap_setCell W _ v b fun e => hb ⟨by omega, by rw [e]⟩
 refine ⟨DFr.putG dNode_ok h.1 (Nat.le_refl _) hk (h.1.1.putCell hk he hi') ?_ (fun b hb => .inl ?_) fun b h1 _ _ => hfar b h1, fun e => ?_, fun a ha e => ?_⟩
 ·have hF := h.1.2.1 k hk;have hF' : dNode.Fr lo hi (W.setCell ⟨g, k * 6 + i, none⟩ v) (el us k) := dNode_ok.keep hF fun b hb => hfar b (h.1.head dNode_ok hk hb)
  show kI.Fresh _ _ _ _ _ _
  rw [hx]; exact hF'
 ·have hb' : rowOwn x.2.2.2.2.2.1 x.2.2.2.2.2.2.2 b := hb;rw [hx] at hb'; exact hb'
 ·have := congrArg List.length e
  simp at this; rw [this] at hk; simp at hk
 ·rcases List.mem_or_eq_of_mem_set ha with h1 | h1
  ·exact h.2.2 a h1 e
  ·subst h1; rw [hx] at e ⊢; exact h.2.2 _ (el_mem hk) e
/-- A node's row has grown and is told. -/
theorem GW.putRow {lo hi : Nat} {W W1 : World} {g c : Nat} {us : List LNode} (h : GW lo hi W (some ⟨g, 0, none⟩) c us) (hh : hi ≤ W.heap.size) {k : Nat} (hk : k < us.length) {nm : ByteArray} {kd sa sb cp : Int} {x : Option Addr × Nat × List Int} (he : el us k = (nm, kd, sa, sb, cp, x)) {no : Option Addr} {nc : Nat} {nx : List Int} (hO : kI.Own lo W1 (.slice no nx.length nc) nx) (hG : W.grownBy W1 (Value.slice x.1 x.2.2.length x.2.1).ownBlock) (hN : ∀ b, (Value.slice no nx.length nc).ownBlock = some b → (Value.slice x.1 x.2.2.length x.2.1).ownBlock = some b ∨ W.heap.size ≤ b) :
  DFr dNode lo W1.heap.size (W1.setCell ⟨g, k * 6 + 5, none⟩ (.slice no nx.length nc)) (some ⟨g, 0, none⟩) c (us.set k (nm, kd, sa, sb, cp, (no, nc, nx))) := by
 obtain ⟨g', e', hg1, hg2, hg3, _, _, hro, cur, hcur⟩ := h.head hk
 simp at e'; subst e'
 have hR := h.row hk;rw [he] at hR;dsimp only at hR;have hxb : ∀ b, (Value.slice x.1 x.2.2.length x.2.1).ownBlock = some b → b < W.heap.size ∧ ∃ cur, W.heap[b]? = some (.cells cur 3 (0, 0)) := fun b hb => by
  rcases hR.1.2 with ⟨e, _⟩ | ⟨g2, cap2, cur2, e, _, hh2, _⟩
  ·rw [e] at hb; simp [Value.ownBlock] at hb
  ·rw [e] at hb; simp [Value.ownBlock] at hb; subst hb; exact ⟨(Array.getElem?_eq_some_iff.1 hh2).1, cur2, hh2⟩
 have hgW : W1.heap[g]? = W.heap[g]? := hG.block g hg3 fun e => by
  obtain ⟨_, cur2, h2⟩ := hxb g e.symm;rw [hcur] at h2; simp at h2 <;> exact absurd h2.2 (by decide)
 have hK1 : hNode.Fresh lo hi W1 (some ⟨g, 0, none⟩) c us := h.1.1.keepB fun b hb => by
  obtain ⟨_, e⟩ := hb; simp at e; subst e; exact hgW
 have hlen : us.length ≠ 0 := by omega
 refine DFr.putG dNode_ok h.1 (Nat.le_trans hh hG.size) hk (Kind.Fresh.wide (Kind.Fresh.putCell hK1 hk (by rw [he]; rfl) (by decide)) (Nat.le_refl _) (Nat.le_trans hh hG.size)) ?_ (fun b hb => ?_) fun b h1 h2 h3 => ?_
 ·have hF : kI.Fresh lo W1.heap.size W1 no nc nx := fresh_rw (Kind.RW.of hO);refine Kind.Fresh.keepB hF fun b hb => Below.heap_setCell _ _ _ _ fun e => ?_
  dsimp only at e; subst e
  obtain ⟨_, _, _, cur2, h4⟩ := hF.lt hb;rw [hgW, hcur] at h4; simp at h4 <;> exact absurd h4.2 (by decide)
 ·have hb' : rowOwn no nx b := hb;have hob : (Value.slice no nx.length nc).ownBlock = some b := by rw [hb'.2]; rfl
  rcases hN b hob with h5 | h5
  ·refine .inl ?_;rw [he]
   show rowOwn x.1 x.2.2 b
   rcases hR.1.2 with ⟨e, h0⟩ | ⟨g2, cap2, cur2, e, _⟩
   ·rw [e] at h5; simp [Value.ownBlock] at h5
   ·refine ⟨?_, ?_⟩
    ·rcases Nat.eq_zero_or_pos x.2.2.length with e0 | e0
     ·have := h.2.2 _ (el_mem hk) (by rw [he]; exact List.length_eq_zero_iff.1 e0);rw [he] at this;dsimp only at this;rw [this.1] at h5; simp [Value.ownBlock] at h5
     ·exact e0
    ·rw [e] at h5; simp [Value.ownBlock] at h5; subst h5; simp at e; exact e.1
  ·exact .inr (Nat.le_trans hh h5)
 ·have hbg : b ≠ g := fun e => h1 ⟨by omega, by rw [e]⟩
  rw [Below.heap_setCell _ _ _ _ hbg];refine hG.block b (by omega) fun e => h2 ?_
  rw [he]
  show rowOwn x.1 x.2.2 b
  rcases hR.1.2 with ⟨e3, h0⟩ | ⟨g2, cap2, cur2, e3, _⟩
  ·rw [e3] at e; simp [Value.ownBlock] at e
  ·refine ⟨?_, ?_⟩
   ·rcases Nat.eq_zero_or_pos x.2.2.length with e0 | e0
    ·have := h.2.2 _ (el_mem hk) (by rw [he]; exact List.length_eq_zero_iff.1 e0);rw [he] at this;dsimp only at this;rw [this.1] at e; simp [Value.ownBlock] at e
    ·exact e0
   ·rw [e3] at e; simp [Value.ownBlock] at e; subst e; simp at e3; exact e3.1
/-- An append to a node's row leaves the heads. -/
theorem GW.headKept {lo hi : Nat} {W W1 : World} {g c : Nat} {us : List LNode} (h : GW lo hi W (some ⟨g, 0, none⟩) c us) {k : Nat} (hk : k < us.length) {x : Option Addr × Nat × List Int} (hR : kI.RW lo hi W x.1 x.2.1 x.2.2) (hG : W.grownBy W1 (Value.slice x.1 x.2.2.length x.2.1).ownBlock) : W1.heap[g]? = W.heap[g]? := by
 obtain ⟨g', e', hg1, hg2, hg3, _, _, hro, cur, hcur⟩ := h.head hk
 simp at e'; subst e'
 refine hG.block g hg3 fun e => ?_
 rcases hR.1.2 with ⟨e2, _⟩ | ⟨g2, cap2, cur2, e2, _, hh2, _⟩
 ·rw [e2] at e; simp [Value.ownBlock] at e
 ·rw [e2] at e; simp [Value.ownBlock] at e; subst e
  rw [hcur] at hh2; simp at hh2 <;> exact absurd hh2.2 (by decide)
/-- A graph that may be read. -/
def GD (lo hi : Nat) (W : World) (o : Option Addr) (c : Nat) (us : List LNode) : Prop := DFr dNode lo hi W o c us
section
variable {lo hi : Nat} {W W' : World} {o : Option Addr} {c : Nat} {us : List LNode}
theorem GD.keep (h : GD lo hi W o c us) (hk : ∀ k, lo ≤ k → k < hi → k < W.heap.size → W'.heap[k]? = W.heap[k]?) : GD lo hi W' o c us := DFr.keep dNode_ok h hk
theorem GD.later (h : GD lo hi W o c us) (hb : Below W.heap.size W W') : GD lo hi W' o c us := h.keep fun k _ _ hk => hb.block k hk
theorem GD.grew {p : Nat} (h : GD lo hi W o c us) (hg : Grew p W W') (hp : p < lo) : GD lo hi W' o c us := h.keep fun k h1 _ hk => hg.block k hk (by omega)
theorem GD.wide {lo' hi' : Nat} (h : GD lo hi W o c us) (h1 : lo' ≤ lo) (h2 : hi ≤ hi') : GD lo' hi' W o c us := DFr.wide dNode_ok h h1 h2
theorem GD.in (h : GD lo hi W o c us) : DIn dNode W.heap.size W o us := DFr.in dNode_ok h
theorem GD.roomy (h : GD lo hi W o c us) (hl : us.length ≤ 1048576) (hf : FitN us) : Roomy us c := ⟨h.1.cap, fun a ha => by
 obtain ⟨j, hj, rfl⟩ := mem_el ha;exact Kind.Fresh.cap (h.2.1 j hj), hf, hl⟩
theorem GW.gd (h : GW lo hi W o c us) : GD lo hi W o c us := h.1
end
/-- A graph in its own memory that can be appended to. -/
def GO (lo hi : Nat) (W : World) (o : Option Addr) (c : Nat) (us : List LNode) : Prop := GW lo hi W o c us ∧ hNode.RW lo hi W o c us
section
variable {lo hi : Nat} {W W' : World} {o : Option Addr} {c : Nat} {us : List LNode}
theorem GO.keep (h : GO lo hi W o c us) (hk : ∀ k, lo ≤ k → k < hi → k < W.heap.size → W'.heap[k]? = W.heap[k]?) : GO lo hi W' o c us := ⟨h.1.keep hk, h.2.keep hk⟩
theorem GO.later (h : GO lo hi W o c us) (hb : Below W.heap.size W W') : GO lo hi W' o c us := h.keep fun k _ _ hk => hb.block k hk
theorem GO.below (h : GO lo hi W o c us) {n : Nat} (hb : Below n W W') (hn : hi ≤ n) : GO lo hi W' o c us := h.keep fun k _ h2 _ => hb.block k (by omega)
theorem GO.grew {p : Nat} (h : GO lo hi W o c us) (hg : Grew p W W') (hp : p < lo) : GO lo hi W' o c us := h.keep fun k h1 _ hk => hg.block k hk (by omega)
theorem GO.setOff (h : GO lo hi W o c us) {a : Addr} (ha : a.block < lo ∨ hi ≤ a.block) (u : Value) : GO lo hi (W.setCell a u) o c us := h.keep fun k h1 h2 _ => Below.heap_setCell W a u k (by omega)
theorem GO.wide {lo' hi' : Nat} (h : GO lo hi W o c us) (h1 : lo' ≤ lo) (h2 : hi ≤ hi') : GO lo' hi' W o c us := ⟨h.1.wide h1 h2, h.2.wide h1 h2⟩
theorem go_nil : GO lo hi W none 0 [] := ⟨gw_nil, Kind.RW.nil⟩
end
theorem gw_app {lo hi : Nat} {W W' : World} {o : Option Addr} {c : Nat} {us : List LNode} {nm : ByteArray} {kd sa sb cp : Int} {nxo : Option Addr} {nxc : Nat} {nx : List Int} {v' : Value} (h : GO lo hi W o c us) (hx : kI.RW hi W.heap.size W nxo nxc nx) (hn : nx = [] → nxo = none ∧ nxc = 0) (hlo : lo ≤ hi) (hhi : hi ≤ W.heap.size)
  (hO : hNode.Own lo W' v' (us ++ [((nm, kd, sa, sb, cp, (nxo, nxc, nx)) : LNode)])) (hG : W.grownBy W' (Value.slice o us.length c).ownBlock) :
  ∃ to tc, v' = .slice to (us ++ [((nm, kd, sa, sb, cp, (nxo, nxc, nx)) : LNode)]).length tc ∧ GO lo W'.heap.size W' to tc (us ++ [((nm, kd, sa, sb, cp, (nxo, nxc, nx)) : LNode)]) := by
 obtain ⟨to, tc, rfl, hO2⟩ := hO.as;refine ⟨to, tc, rfl, gw_snoc h.1 hx hn hlo hhi hO2 (fun k hk => ?_) hG.size, Kind.RW.of hO2⟩
 by_cases e : (Value.slice o us.length c).ownBlock = some k
 ·exact .inl (own_type h.2.1 e)
 ·exact .inr (hG.block k hk fun e2 => e e2.symm)
end
section
open Go.RowKit

set_option maxRecDepth 10000 in
set_option maxHeartbeats 2000000 in
theorem of_any (zs : List ByteArray) (q p : Nat) (co : Option Addr) (cap : Nat) (bs : List Int) (k : Nat) (sd : Int) (w : World) (hl : bs.length ≤ 9223372036854775807) (ha : k ≤ 1099511627770) (hC : Cur w p co cap bs k sd) (h0 : 0 < zs.length) (h9 : zs.length ≤ 100) (hz : Bx w q (zs.map fun z => .string z)) (hb : q ≠ p) :
  Calls Tryz.prog 46 #[.pointer (some ⟨p, 0, none⟩), .slice (some ⟨q, 0, none⟩) zs.length zs.length] w fun e w' => (∃ z, z ∈ zs ∧ e = .returned (.string z)) ∧ Drawn w p co cap bs k 2 w' := by
 go_enter Tryz.func46, Tryz.ntmps46;go_wp2_with fail;refine (pick_any (zs.length : Int) p co cap bs k sd w hl (by omega) hC).mono ?_;rintro e w1 ⟨⟨x, rfl, hx0, hx1⟩, k1, sd1, hk1, C1, O1⟩;obtain ⟨m, rfl⟩ : ∃ m : Nat, x = m := ⟨x.toNat, by omega⟩;have hm : m < zs.length := by omega
 have hc : w1.cell? ⟨q, m, none⟩ = some (.string (el zs m)) := by
  rw [O1.cell q m hb];exact hz.c m (by simp [hm, el])
 have hmi : (m : Int) < (zs.length : Int) := by omega
 go_wp2;refine bodyPost_ret (v := .string (el zs m)) (by simp [results, Tryz.results46, go_sem]) rfl ?_;exact ⟨⟨_, el_mem hm, rfl⟩, k1, sd1, by omega, C1, O1⟩
/-- A text of two bytes. -/
def two (x y : Int) : ByteArray := [x, y].foldl (fun r n => r.push (UInt8.ofNat n.toNat)) ByteArray.empty
theorem two_size (x y : Int) : (two x y).size = 2 := rfl
theorem conv_two (x y : Int) (W : World) (b : Nat) (h0 : W.cell? ⟨b, 0, none⟩ = some (.int .u8 x)) (h1 : W.cell? ⟨b, 1, none⟩ = some (.int .u8 y)) : (convert 22 9 (.slice (some ⟨b, 0, none⟩) 2 2)).run Tryz.prog W = .ok (.string (two x y)) W := by
 rw [run_convert_bytes_string _ _ _ 5 _ _ _ Tryz.underlying22 Tryz.underlying5 Tryz.underlying9];refine run_bytesToString _ _ _ _ [x, y] ?_;have e1 : (⟨b, 0, none⟩ : Addr).add 1 = ⟨b, 1, none⟩ := rfl
 simp [loadCells, go_sem, h0, h1]
end
section
open Go Go.RowKit

section
variable {P : Program} {ops : Array Oper} {Q : Exit → Act → World → Prop} {md : Region.Mode} {S : World → Prop} {zs : Nat → Bool}
theorem Walks.pair {n i j : Nat} {ls : Array Bool} {a : Act} {w : World} {o o2 : Oper} (hr : Region.ready md ops ls = [i, j]) (ho : ops[i]? = some o) (ho2 : ops[j]? = some o2)
  (h : ∀ K : Act → World → Prop, Shut (∀ b y, (zs i = false → S y) → ((zs i = false → S y) → Walks P md ops Q S zs n (ls.setIfInBounds i true) b y) → K b y) → if Region.wanted o (yielded ops a.tmps) = true then Oper.wp P o a w K Q else K (a.put o.dst undef) w)
  (h2 : ∀ K : Act → World → Prop, Shut (∀ b y, (zs j = false → S y) → ((zs j = false → S y) → Walks P md ops Q S zs n (ls.setIfInBounds j true) b y) → K b y) → if Region.wanted o2 (yielded ops a.tmps) = true then Oper.wp P o2 a w K Q else K (a.put o2.dst undef) w) : Walks P md ops Q S zs (n + 1) ls a w :=
 ⟨fun e => (by rw [hr] at e; cases e), fun k hk => by
  rw [hr] at hk
  rcases List.mem_cons.1 hk with rfl | hk
  ·exact wpOp_step ho fun K hK => h K fun b y h1 h2 => hK b y ⟨h1, h2 h1⟩
  ·obtain rfl := List.mem_singleton.1 hk;exact wpOp_step ho2 fun K hK => h2 K fun b y h1 h3 => hK b y ⟨h1, h3 h1⟩⟩
end
end
section
open Go Go.RowKit

section
variable {P : Program} {ops : Array Oper} {Q : Exit → Act → World → Prop} {md : Region.Mode} {S : World → Prop} {zs : Nat → Bool}
theorem Walks.trio {n i j l : Nat} {ls : Array Bool} {a : Act} {w : World} {o o2 o3 : Oper} (hr : Region.ready md ops ls = [i, j, l]) (ho : ops[i]? = some o) (ho2 : ops[j]? = some o2) (ho3 : ops[l]? = some o3)
  (h : ∀ K : Act → World → Prop, Shut (∀ b y, (zs i = false → S y) → ((zs i = false → S y) → Walks P md ops Q S zs n (ls.setIfInBounds i true) b y) → K b y) → if Region.wanted o (yielded ops a.tmps) = true then Oper.wp P o a w K Q else K (a.put o.dst undef) w)
  (h2 : ∀ K : Act → World → Prop, Shut (∀ b y, (zs j = false → S y) → ((zs j = false → S y) → Walks P md ops Q S zs n (ls.setIfInBounds j true) b y) → K b y) → if Region.wanted o2 (yielded ops a.tmps) = true then Oper.wp P o2 a w K Q else K (a.put o2.dst undef) w)
  (h3 : ∀ K : Act → World → Prop, Shut (∀ b y, (zs l = false → S y) → ((zs l = false → S y) → Walks P md ops Q S zs n (ls.setIfInBounds l true) b y) → K b y) → if Region.wanted o3 (yielded ops a.tmps) = true then Oper.wp P o3 a w K Q else K (a.put o3.dst undef) w) : Walks P md ops Q S zs (n + 1) ls a w :=
 ⟨fun e => (by rw [hr] at e; cases e), fun k hk => by
  rw [hr] at hk
  rcases List.mem_cons.1 hk with rfl | hk
  ·exact wpOp_step ho fun K hK => h K fun b y h1 h2 => hK b y ⟨h1, h2 h1⟩
  ·rcases List.mem_cons.1 hk with rfl | hk
   ·exact wpOp_step ho2 fun K hK => h2 K fun b y h1 h3 => hK b y ⟨h1, h3 h1⟩
   ·obtain rfl := List.mem_singleton.1 hk;exact wpOp_step ho3 fun K hK => h3 K fun b y h1 h4 => hK b y ⟨h1, h4 h1⟩⟩
end
end
end Go.Proofs.YtllmpinmbajpgaaGreatDoor
