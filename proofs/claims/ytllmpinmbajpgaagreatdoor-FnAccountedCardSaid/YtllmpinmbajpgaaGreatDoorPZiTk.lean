
/- A token is taken out of a box. No conditions but those written. Steps of a flow, one behind the other; its rows grow. No conditions but those written. A token is lost. No conditions but those written. Scalars of a flow; what an abort loses, plainly. No conditions but those written. All tokens are lost. No conditions but those written. Draining and aborting. No conditions but those written. Ticks: the small functions over them, both sides. No conditions but those written. -/
import Derived.Test.YtllmpinmbajpgaaGreatDoorPXl
import Derived.Test.YtllmpinmbajpgaaGreatDoorPZhTr3
import Derived.Deep.LoopGhost
import Derived.Test.YtllmpinmbajpgaaGreatDoorPGenFq
namespace Go.Proofs.YtllmpinmbajpgaaGreatDoor
section
open Go.RowKit

set_option maxHeartbeats 1000000 in
theorem copyListTO_any (ao : Option Addr) (cap : Nat) (ts : List (Int × Int × Int)) (w : World) (hl : ts.length ≤ 1048576) (hz : kTk.In w.heap.size w ao ts) :
  Calls Tryz.prog 167 #[.slice ao ts.length cap] w fun e w' => (∃ v, e = .returned v ∧ kTk.Own w.heap.size w' v ts) ∧ Below w.heap.size w w' := by
 by_cases h0 : ts.length = 0
 ·obtain rfl : ts = [] := List.length_eq_zero_iff.1 h0;go_enter Tryz.func167, Tryz.ntmps167;go_wp2;go_ret;exact ⟨⟨_, rfl, Kind.Own.nil _ _ _⟩, Below.refl _ _⟩
 ·have h0' : ((ts.length : Int) == 0) = false := (len1 h0).1;obtain ⟨i0, z0, hi, hz0, hz1, hz2, hz3⟩ := kTk_ok.info;have HZ : Hid (kTk.In w.heap.size w ao ts) := hz;have hby : i0.bytes * ts.length ≤ 281474976710656 := by have : i0.bytes * ts.length ≤ 4096 * 1048576 := Nat.mul_le_mul hz3 hl; omega
  clear hz;go_enter Tryz.func167, Tryz.ntmps167;go_wp2_with (at_make; refine wpList_make_full _ rfl _ _ kTk.st rfl w.heap.size kTk.ty i0 z0 kTk.sz kTk_ok.und hi hz0 hz1 .i64 .i64 _ _ ts.length rfl rfl rfl rfl hby (by unfold maxLen; omega) (Nat.le_refl _) ?_; intro w1 hown hgrow; obtain ⟨cur, hcur, hcl, _⟩ := owns_open hown; have hB1 : Below w.heap.size w w1 := (Below.refl _ _).grown hgrow (Nat.le_refl _) (fun k e => by cases e); obtain ⟨w2, hrun, hh, hO⟩ := Kind.run_copy (n := ts.length) (cap := cap) (ty := 3) kTk_ok hcur hcl (Nat.le_refl _) HZ.out hB1; have hB2 : Below w.heap.size w w2 := hB1.trans (hO.below (Nat.le_refl _)); have HH := show Hid (_ ∧ _) from And.intro hcl hh; unfold kTk at hrun; dsimp only at hrun; clear hown hgrow hcur hh hO hcl);go_ret;have e : cur.drop (ts.length * kTk.sz) = [] := List.drop_eq_nil_of_le (by rw [HH.out.1]; exact Nat.le_refl _);have hh := HH.out.2;rw [e, List.append_nil] at hh;exact ⟨⟨_, rfl, Kind.own_of_heap hh rfl (Nat.le_refl _) (by omega)⟩, hB2⟩
set_option maxRecDepth 100000 in
set_option maxHeartbeats 2000000 in
theorem take_any (lo : Nat) (W : World) (p bb : Nat) (gv sv : Value) (xs : List Value) (ev fv uv : Value) (s : PP) (k : Nat) (t1 t2 t3 : Int) (r : List (Int × Int × Int)) (h : Flow lo W p bb gv sv xs ev fv uv s) (hk : k < s.bx.length) (hr : el s.bx k = (t1, t2, t3) :: r) (ht : totT s.bx ≤ 100000) :
  Calls Tryz.prog 131 #[.pointer (some ⟨p, 0, none⟩), .int .i64 (k : Int)] W fun e W' => e = .returned (.agg #[.int .i64 t1, .int .i64 t2, .int .i64 t3]) ∧ FStep lo p gv sv (FO p bb xs ev fv uv) W W' { s with bx := s.bx.set k r } := by
 have hp := h.box.size;have hbb := h.hnd.size;have hxk : k < xs.length := by rw [h.hnd.len]; exact hk
 have hTe := totT_el hk;obtain ⟨ho, hc, hsl, hcn, hFr⟩ := h.hnd.slice hk;rw [hr] at hsl hFr hTe;obtain ⟨g, rfl, hg1, hg2, hg3, hgo⟩ := hFr.at (by simp);have hIn := hFr.in;have hcap : r.length + 1 ≤ hc := by have := hFr.cap; simpa using this
 simp only [List.length_cons] at hsl hTe;have hb0 := below1 W (.cells #[.int .i64 0, .int .i64 0, .int .i64 0] 112);have F0 := h.later hb0;have T0 := Bx.new (w := W) [.int .i64 0, .int .i64 0, .int .i64 0] 112 rfl;obtain ⟨V, hV⟩ : ∃ V, V = W.alloc (.cells #[.int .i64 0, .int .i64 0, .int .i64 0] 112) := ⟨_, rfl⟩;rw [← hV] at hb0 F0 T0;have hI0 := hIn.later hb0;have HV := hid hV;have c5 := F0.box.c 5 rfl;have ck := (F0.head hk).1;rw [hsl] at ck;have hki : (k : Int) < (s.bx.length : Int) := by omega
 have hVs : V.heap.size = W.heap.size + 1 := by rw [hV]; simp
 have HVs := hid hVs;have HF0 := hid F0;have HB0 := hid hb0;have HT0 := hid T0;have hle1 : (1 : Int) ≤ (r.length : Int) + 1 := by omega
 have hI1 : kTk.In V.heap.size V (if hc = 1 then some ⟨g, 0, none⟩ else some ⟨g, 3, none⟩) r := by
  by_cases h0 : r.length = 0
  ·exact .inl (List.length_eq_zero_iff.1 h0)
  ·rw [if_neg (by omega)];obtain ⟨b, off, e, hb, hcs⟩ := kTk_at hI0 (k := 0) (by simp)
   simp at e
   obtain ⟨rfl, rfl⟩ := e;refine .inr ⟨g, 3, rfl, hb, fun j hj i hi => ?_⟩;have hcj := hcs (j + 1) (by simp; omega);have ej : el ((t1, t2, t3) :: r) (j + 1) = el r j := by simp [el]
   rw [ej] at hcj;have hi' : i < 3 := hi;have e0 : 0 + (j + 1) * 3 = 3 + j * 3 := by omega
   rw [e0] at hcj
   rcases (show i = 0 ∨ i = 1 ∨ i = 2 from by omega) with rfl | rfl | rfl
   ·exact hcj.1
   ·exact hcj.2.1
   ·exact hcj.2.2
 have c5w := h.box.c 5 rfl;have ckw := (h.head hk).1;rw [hsl] at ckw;have HI1 := hid hI1;have HIN := hid hI0;clear hV hb0 F0 T0 hI1 hI0 hIn hFr hgo;go_enter Tryz.func131, Tryz.ntmps131;go_wp2;rw [← HV.out];clear c5w ckw;refine wp_walks (zl := [10]) (S := fun Y => Y.cell? ⟨p, 5, none⟩ = some (.slice (some ⟨bb, 0, none⟩) s.bx.length s.bx.length)) (by kernel_rfl) c5 (fun hH => ?_);refine Walks.tk 0 hH ?_;refine Walks.tk 1 hH ?_;refine Walks.tk 2 hH ?_;refine Walks.tk 3 hH ?_;refine Walks.tk 4 hH ?_;refine Walks.tk 5 hH ?_;refine Walks.tk 6 hH ?_;refine Walks.tk 7 hH ?_;refine Walks.on 8 fun K hK => ?_
 go_simp;refine (copyListTO_any (if hc = 1 then some ⟨g, 0, none⟩ else some ⟨g, 3, none⟩) (hc - 1) r V.drew (by omega) (HI1.out.later (Below.refl V.heap.size V).drew)).mono ?_;rintro e w2 ⟨⟨v', rfl, hO2⟩, hb20⟩;have hb2 : Below V.heap.size V w2 := (Below.refl V.heap.size V).drew.trans hb20;clear hb20;obtain ⟨vo, vc, hv', _, _⟩ := hO2.fresh;have hpV : p < V.heap.size := by have := HVs.out; omega
 have hbV : bb < V.heap.size := by have := HVs.out; omega
 have c5' := (hb2.cell (p := ⟨p, 5, none⟩) hpV).trans c5;refine hK.out _ _ (fun _ => c5') (fun _ => ?_);clear hK K hH;have F2 := HF0.out.later hb2;have cB := (F2.head hk).1;have fB := (F2.head hk).2;rw [hsl] at cB;refine Walks.tk 9 c5' ?_;refine Walks.on 10 fun K hK => ?_
 rw [hv'];go_simp;refine hK.out _ _ (fun h => absurd h (by decide)) (fun _ => ?_);refine Walks.done (by kernel_rfl) ?_ _;clear hK K;have hTS := totT_set (ls := s.bx) (k := k) r hk;rw [hr, List.length_cons] at hTS;have BX3 := F2.box.other (a := ⟨bb, k, none⟩) (fun e => h.pbb e.symm) (.slice vo r.length vc);have c9 := BX3.c 9 rfl;have f9 := BX3.f 9 rfl;obtain ⟨w3, h3⟩ : ∃ w3, w3 = w2.setCell ⟨bb, k, none⟩ (.slice vo r.length vc) := ⟨_, rfl⟩;rw [← h3] at BX3 c9 f9 ⊢;have H3 := hid h3;have HB3 := hid BX3;have HTS := hid hTS;clear h3 BX3 hTS cB fB c5' c5;have hgw : g < V.heap.size := by have := HVs.out; omega
 have hgbb : g ≠ bb := by omega
 have hI3 := HIN.out;obtain ⟨b0, off0, e0, hbl, hcs⟩ := kTk_at hI3 (k := 0) (by simp)
 simp at e0
 obtain ⟨rfl, rfl⟩ := e0;have hc0 := hcs 0 (by simp);have k3 : ∀ i, w3.cell? ⟨g, i, none⟩ = V.cell? ⟨g, i, none⟩ := fun i => by rw [H3.out]; exact (World.cell?_setCell_far _ _ _ _ (fun e => hgbb e.symm)).trans (hb2.cell (p := ⟨g, i, none⟩) hgw)
 have hne : ∀ j, (el ((t1, t2, t3) :: r) 0) = (t1, t2, t3) ∨ j = (0 : Nat) := fun _ => .inl rfl
 have hgp : g ≠ p := fun e => h.px k hk (by rw [hsl, ← e]; rfl)
 have hrw : ∀ b, (el xs k).ownBlock = some b → b = g := fun b hb => by rw [hsl] at hb; simp [Value.ownBlock] at hb; exact hb.symm
 have XT := ((HT0.out.later hb2).other (a := ⟨bb, k, none⟩) (by simp only; omega) (.slice vo r.length vc));rw [← H3.out] at XT;have HXT := hid XT;clear XT HI1 hne
 generalize (if hc = 1 then some (⟨g, 0, none⟩ : Addr) else some ⟨g, 3, none⟩) = qq
 go_wp2_with fail;refine (add_any p 9 (totT s.bx : Int) (-1) (totT s.bx + -1 : Int) w3 c9 f9 rfl (by omega) (by omega)).mono ?_;rintro e w4 ⟨rfl, h4⟩;have k4 : ∀ i, w4.cell? ⟨g, i, none⟩ = V.cell? ⟨g, i, none⟩ := fun i => by rw [h4]; exact (World.cell?_setCell_far _ _ _ _ (fun e => hgp e.symm)).trans (k3 i)
 have d0 : w4.cell? ⟨g, 0, none⟩ = some (.int .i64 t1) := (k4 0).trans hc0.1;have d1 : w4.cell? ⟨g, 1, none⟩ = some (.int .i64 t2) := (k4 1).trans hc0.2.1;have d2 : w4.cell? ⟨g, 2, none⟩ = some (.int .i64 t3) := (k4 2).trans hc0.2.2;have X4 : Bx w4 W.heap.size [.int .i64 0, .int .i64 0, .int .i64 0] := by rw [h4]; exact HXT.out.other (a := ⟨p, 9, none⟩) (by simp only; omega) _
 have r0 := X4.c 0 rfl;have r1 := X4.c 1 rfl;have r2 := X4.c 2 rfl;have q0 := X4.f 0 rfl;have q1 := X4.f 1 rfl;have q2 := X4.f 2 rfl;have H4 := hid h4;clear h4 c9 f9 k3 k4 hc0 hcs X4;go_wp2;refine bodyPost_ret (v := .agg #[.int .i64 t1, .int .i64 t2, .int .i64 t3]) (by simp [results, Tryz.results131, go_sem, r0, r1, r2]) rfl ⟨rfl, ?_⟩;have hw3 : ∀ b, v'.ownBlock = some b → V.heap.size ≤ b ∧ b < w2.heap.size := fun b hb => own_block_lt hO2 hb
 have hT : (totT (s.bx.set k r) : Int) = totT s.bx + -1 := by have := HTS.out; omega
 have hpw : ∀ j, j < (s.bx.set k r).length → (el (xs.set k v') j).ownBlock ≠ some p := fun j hj => by
  rw [List.length_set] at hj
  by_cases e : j = k
  ·subst e;rw [el_set_same hxk];intro hb;have := hw3 p hb
   omega
  ·rw [el_set_far e]; exact h.px j hj
 have hO2' : kTk.Own (bb + 1) w2 v' r := own_low hO2 (by show bb + 1 ≤ V.heap.size; omega);have hnd3 : HandsT bb w3 (xs.set k v') (s.bx.set k r) := by
  rw [H3.out, ← hv'];exact HF0.out.hnd.put hk hO2' ⟨hb2.os, hb2.tape, hb2.output, hb2.size, fun b h1 _ => hb2.block b h1⟩ (fun b hb => .inr (hw3 b hb).1)
 have hnd4 : HandsT bb w4 (xs.set k v') (s.bx.set k r) := by
  rw [H4.out];exact hnd3.keep (Below.heap_setCell _ _ _ _ (fun e => h.pbb e.symm)) (fun j hj b hb => Below.heap_setCell _ _ _ _ (fun e => hpw j hj (by have e' : b = p := e; rw [← e']; exact hb)))
 have hbx4 := HB3.out.set 9 (.int .i64 (totT s.bx + -1));rw [← H4.out] at hbx4;have hkeep : ∀ b, b < V.heap.size → b ≠ p → b ≠ bb → w4.heap[b]? = V.heap[b]? := fun b h1 h2 h3 => by
  rw [H4.out, Below.heap_setCell _ _ _ _ h2, H3.out, Below.heap_setCell _ _ _ _ h3];exact hb2.block b h1
 have F4 : Flow lo w4 p bb gv sv (xs.set k v') ev fv uv { s with bx := s.bx.set k r } := HF0.out.turn (by rw [List.length_set, hT]; exact hbx4) hnd4 (fun b hb => by
  obtain ⟨a1, a2, a3, _⟩ := HF0.out.apart hb;exact hkeep b a1 a2 a3) hpw
 have hVs := HVs.out;have hFO : ∀ b, FO p bb (xs.set k v') ev fv uv b → (FO p bb xs ev fv uv b ∨ V.heap.size ≤ b) := fun b hb => by
  rcases hb with hb | hb | ⟨j, hj, hb⟩ | hb | hb | hb
  ·exact .inl (.inl hb)
  ·exact .inl (.inr (.inl hb))
  ·rw [List.length_set] at hj
   by_cases e : j = k
   ·subst e;rw [el_set_same hxk] at hb;exact .inr (hw3 b hb).1
   ·rw [el_set_far e] at hb;exact .inl (.inr (.inr (.inl ⟨j, hj, hb⟩)))
  ·exact .inl (.inr (.inr (.inr (.inl hb))))
  ·exact .inl (.inr (.inr (.inr (.inr (.inl hb)))))
  ·exact .inl (.inr (.inr (.inr (.inr (.inr hb)))))
 have hold : ∀ b, FO p bb xs ev fv uv b → b < W.heap.size := fun b hb => by
  rcases hb with hb | hb | ⟨j, hj, hb⟩ | hb
  ·omega
  ·omega
  ·exact (own_block_lt (h.hnd.row j (by rw [← h.hnd.len]; exact hj)) hb).2
  ·exact (h.apart hb).1
 have hnR : ¬ FO p bb (xs.set k v') ev fv uv W.heap.size := fun hb => by
  rcases hFO _ hb with h1 | h1
  ·have := hold _ h1; omega
  ·omega
 have F5 := ((F4.setFar (a := ⟨W.heap.size, 0, none⟩) hnR (.int .i64 t1)).setFar (a := ⟨W.heap.size, 1, none⟩) hnR (.int .i64 t2)).setFar (a := ⟨W.heap.size, 2, none⟩) hnR (.int .i64 t3);refine ⟨FO p bb (xs.set k v') ev fv uv, ⟨bb, xs.set k v', ev, fv, uv, F5, fun b hb => hb⟩, fun b hb => ?_, ?_, fun b hb hO => ?_⟩
 ·rcases hFO b hb with h1 | h1
  ·exact .inl h1
  ·exact .inr (by omega)
 ·have hW : Below lo W w2 := (HB0.out.mono (Nat.le_trans h.lop (by omega))).trans (hb2.mono (by have := h.lop; omega));have h4 : Below lo W w4 := by rw [H4.out, H3.out]; exact (hW.setCell (p := ⟨bb, k, none⟩) h.lob _).setCell (p := ⟨p, 9, none⟩) h.lop _
  have hR : lo ≤ W.heap.size := Nat.le_trans h.lop (by omega);exact ((h4.setCell (p := ⟨W.heap.size, 0, none⟩) hR _).setCell (p := ⟨W.heap.size, 1, none⟩) hR _).setCell (p := ⟨W.heap.size, 2, none⟩) hR _
 ·have hbn : b ≠ W.heap.size := by omega
  rw [Below.heap_setCell _ _ _ _ hbn, Below.heap_setCell _ _ _ _ hbn, Below.heap_setCell _ _ _ _ hbn, hkeep b (by omega) (fun e => hO (.inl e)) (fun e => hO (.inr (.inl e)))];exact HB0.out.block b hb
end
section
open Go.RowKit

/-- Going on behind a step. -/
theorem FStep.next {lo p : Nat} {gv sv : Value} {O : Nat → Prop} {W W1 : World} {s1 : PP} (h : FStep lo p gv sv O W W1 s1) :
  ∃ bb xs ev fv uv, Flow lo W1 p bb gv sv xs ev fv uv s1 ∧ (∀ b, b < W.heap.size → ¬ O b → W1.heap[b]? = W.heap[b]?) ∧ Below lo W W1 ∧ (∀ b, FO p bb xs ev fv uv b → O b ∨ W.heap.size ≤ b) ∧
   ∀ (V W2 : World) (s2 : PP), Below W1.heap.size W1 V → FStep lo p gv sv (FO p bb xs ev fv uv) V W2 s2 → FStep lo p gv sv O W W2 s2 := by
 obtain ⟨O1, ⟨bb, xs, ev, fv, uv, F, hF⟩, hs, hb, hk⟩ := h;refine ⟨bb, xs, ev, fv, uv, F, hk, hb, fun b h1 => hs b (hF b h1), fun V W2 s2 hV h2 => ?_⟩;obtain ⟨O2, f2, hs2, hb2, hk2⟩ := h2;have hz := hb.size;have hzV := hV.size;have hlo : lo ≤ W1.heap.size := Nat.le_of_lt (Nat.lt_of_le_of_lt F.lop F.box.size);refine ⟨O2, f2, fun b h1 => ?_, hb.trans ((hV.mono hlo).trans hb2), fun b h1 h3 => ?_⟩
 ·rcases hs2 b h1 with h4 | h4
  ·exact hs b (hF b h4)
  ·exact .inr (by omega)
 ·have hn : ¬ FO p bb xs ev fv uv b := fun h4 => by
   rcases hs b (hF b h4) with h5 | h5
   ·exact h3 h5
   ·omega
  exact (hk2 b (by omega) hn).trans ((hV.block b (by omega)).trans (hk b h1 h3))
/-- A row of the flow has grown; the object is told. -/
theorem Flow.putEm {lo : Nat} {U w2 : World} {p bb : Nat} {gv sv : Value} {xs : List Value} {ev fv uv v' : Value} {s : PP} {L : _} (h : Flow lo U p bb gv sv xs ev fv uv s) (hO : kOu.Own lo w2 v' L) (hB : Below lo U w2) (hG : U.grownBy w2 ev.ownBlock) (hw : ∀ g, v'.ownBlock = some g → ev.ownBlock = some g ∨ U.heap.size ≤ g) :
  FStep lo p gv sv (FO p bb xs ev fv uv) U (w2.setCell ⟨p, 6, none⟩ v') { s with em := L } := by
 have hp := h.box.size;have kp : w2.heap[p]? = U.heap[p]? := hG.block p hp (fun e => h.pe e.symm);have hpv : v'.ownBlock ≠ some p := fun e => by
  rcases hw p e with h1 | h1
  ·exact h.pe h1
  ·omega
 have hkp : ∀ b, b < U.heap.size → b ≠ p → ev.ownBlock ≠ some b → (w2.setCell ⟨p, 6, none⟩ v').heap[b]? = U.heap[b]? := fun b h1 h2 h3 => (Below.heap_setCell _ _ _ _ h2).trans (hG.block b h1 (fun e => h3 e.symm))
 have hme : ∀ b, ev.ownBlock = some b → b < U.heap.size ∧ b ≠ p ∧ b ≠ bb ∧ ∀ j, j < s.bx.length → (el xs j).ownBlock ≠ some b := fun b hb => h.apart (.inl hb)
 refine ⟨FO p bb xs v' fv uv, ⟨bb, xs, v', fv, uv, ⟨(h.box.keep hG.size kp).set 6 v', h.hnd.keep (hkp bb h.hnd.size (fun e => h.pbb e.symm) (fun e => (hme bb e).2.2.1 rfl)) (fun j hj b hb => hkp b (own_block_lt (h.hnd.row j hj) hb).2 (fun e => h.px j hj (by rw [← e]; exact hb)) (fun e => (hme b e).2.2.2 j hj hb)), own_keep hO fun b hb => Below.heap_setCell _ _ _ _ (fun e => hpv (by have e' : b = p := e; rw [← e']; exact hb)), own_keep h.fao fun b hb => hkp b (own_block_lt h.fao hb).2 (fun e => h.pf (by rw [← e]; exact hb)) (own_ty h.fao h.emo (by decide) hb), own_keep h.fuo fun b hb => hkp b (own_block_lt h.fuo hb).2 (fun e => h.pu (by rw [← e]; exact hb)) (own_ty h.fuo h.emo (by decide) hb), h.lop, h.lob, h.pbb, h.px, hpv, h.pf, h.pu⟩, fun b hb => hb⟩, fun b hb => ?_, hB.setCell (p := ⟨p, 6, none⟩) h.lop _, fun b hb hO => hkp b hb (fun e => hO (.inl e)) (fun e => hO (.inr (.inr (.inr (.inl e)))))⟩
 rcases hb with hb | hb | hb | hb | hb | hb
 ·exact .inl (.inl hb)
 ·exact .inl (.inr (.inl hb))
 ·exact .inl (.inr (.inr (.inl hb)))
 ·rcases hw b hb with hb | h1
  ·exact .inl (.inr (.inr (.inr (.inl hb))))
  ·exact .inr h1
 ·exact .inl (.inr (.inr (.inr (.inr (.inl hb)))))
 ·exact .inl (.inr (.inr (.inr (.inr (.inr hb)))))
/-- A row of the flow has grown; the object is told. -/
theorem Flow.putFa {lo : Nat} {U w2 : World} {p bb : Nat} {gv sv : Value} {xs : List Value} {ev fv uv v' : Value} {s : PP} {L : _} (h : Flow lo U p bb gv sv xs ev fv uv s) (hO : kLo.Own lo w2 v' L) (hB : Below lo U w2) (hG : U.grownBy w2 fv.ownBlock) (hw : ∀ g, v'.ownBlock = some g → fv.ownBlock = some g ∨ U.heap.size ≤ g) :
  FStep lo p gv sv (FO p bb xs ev fv uv) U (w2.setCell ⟨p, 7, none⟩ v') { s with fa := L } := by
 have hp := h.box.size;have kp : w2.heap[p]? = U.heap[p]? := hG.block p hp (fun e => h.pf e.symm);have hpv : v'.ownBlock ≠ some p := fun e => by
  rcases hw p e with h1 | h1
  ·exact h.pf h1
  ·omega
 have hkp : ∀ b, b < U.heap.size → b ≠ p → fv.ownBlock ≠ some b → (w2.setCell ⟨p, 7, none⟩ v').heap[b]? = U.heap[b]? := fun b h1 h2 h3 => (Below.heap_setCell _ _ _ _ h2).trans (hG.block b h1 (fun e => h3 e.symm))
 have hme : ∀ b, fv.ownBlock = some b → b < U.heap.size ∧ b ≠ p ∧ b ≠ bb ∧ ∀ j, j < s.bx.length → (el xs j).ownBlock ≠ some b := fun b hb => h.apart (.inr (.inl hb))
 refine ⟨FO p bb xs ev v' uv, ⟨bb, xs, ev, v', uv, ⟨(h.box.keep hG.size kp).set 7 v', h.hnd.keep (hkp bb h.hnd.size (fun e => h.pbb e.symm) (fun e => (hme bb e).2.2.1 rfl)) (fun j hj b hb => hkp b (own_block_lt (h.hnd.row j hj) hb).2 (fun e => h.px j hj (by rw [← e]; exact hb)) (fun e => (hme b e).2.2.2 j hj hb)), own_keep h.emo fun b hb => hkp b (own_block_lt h.emo hb).2 (fun e => h.pe (by rw [← e]; exact hb)) (own_ty h.emo h.fao (by decide) hb), own_keep hO fun b hb => Below.heap_setCell _ _ _ _ (fun e => hpv (by have e' : b = p := e; rw [← e']; exact hb)), own_keep h.fuo fun b hb => hkp b (own_block_lt h.fuo hb).2 (fun e => h.pu (by rw [← e]; exact hb)) (own_ty h.fuo h.fao (by decide) hb), h.lop, h.lob, h.pbb, h.px, h.pe, hpv, h.pu⟩, fun b hb => hb⟩, fun b hb => ?_, hB.setCell (p := ⟨p, 7, none⟩) h.lop _, fun b hb hO => hkp b hb (fun e => hO (.inl e)) (fun e => hO (.inr (.inr (.inr (.inr (.inl e))))))⟩
 rcases hb with hb | hb | hb | hb | hb | hb
 ·exact .inl (.inl hb)
 ·exact .inl (.inr (.inl hb))
 ·exact .inl (.inr (.inr (.inl hb)))
 ·exact .inl (.inr (.inr (.inr (.inl hb))))
 ·rcases hw b hb with hb | h1
  ·exact .inl (.inr (.inr (.inr (.inr (.inl hb)))))
  ·exact .inr h1
 ·exact .inl (.inr (.inr (.inr (.inr (.inr hb)))))
/-- A row of the flow has grown; the object is told. -/
theorem Flow.putFu {lo : Nat} {U w2 : World} {p bb : Nat} {gv sv : Value} {xs : List Value} {ev fv uv v' : Value} {s : PP} {L : _} (h : Flow lo U p bb gv sv xs ev fv uv s) (hO : kI.Own lo w2 v' L) (hB : Below lo U w2) (hG : U.grownBy w2 uv.ownBlock) (hw : ∀ g, v'.ownBlock = some g → uv.ownBlock = some g ∨ U.heap.size ≤ g) :
  FStep lo p gv sv (FO p bb xs ev fv uv) U (w2.setCell ⟨p, 8, none⟩ v') { s with fu := L } := by
 have hp := h.box.size;have kp : w2.heap[p]? = U.heap[p]? := hG.block p hp (fun e => h.pu e.symm);have hpv : v'.ownBlock ≠ some p := fun e => by
  rcases hw p e with h1 | h1
  ·exact h.pu h1
  ·omega
 have hkp : ∀ b, b < U.heap.size → b ≠ p → uv.ownBlock ≠ some b → (w2.setCell ⟨p, 8, none⟩ v').heap[b]? = U.heap[b]? := fun b h1 h2 h3 => (Below.heap_setCell _ _ _ _ h2).trans (hG.block b h1 (fun e => h3 e.symm))
 have hme : ∀ b, uv.ownBlock = some b → b < U.heap.size ∧ b ≠ p ∧ b ≠ bb ∧ ∀ j, j < s.bx.length → (el xs j).ownBlock ≠ some b := fun b hb => h.apart (.inr (.inr hb))
 refine ⟨FO p bb xs ev fv v', ⟨bb, xs, ev, fv, v', ⟨(h.box.keep hG.size kp).set 8 v', h.hnd.keep (hkp bb h.hnd.size (fun e => h.pbb e.symm) (fun e => (hme bb e).2.2.1 rfl)) (fun j hj b hb => hkp b (own_block_lt (h.hnd.row j hj) hb).2 (fun e => h.px j hj (by rw [← e]; exact hb)) (fun e => (hme b e).2.2.2 j hj hb)), own_keep h.emo fun b hb => hkp b (own_block_lt h.emo hb).2 (fun e => h.pe (by rw [← e]; exact hb)) (own_ty h.emo h.fuo (by decide) hb), own_keep h.fao fun b hb => hkp b (own_block_lt h.fao hb).2 (fun e => h.pf (by rw [← e]; exact hb)) (own_ty h.fao h.fuo (by decide) hb), own_keep hO fun b hb => Below.heap_setCell _ _ _ _ (fun e => hpv (by have e' : b = p := e; rw [← e']; exact hb)), h.lop, h.lob, h.pbb, h.px, h.pe, h.pf, hpv⟩, fun b hb => hb⟩, fun b hb => ?_, hB.setCell (p := ⟨p, 8, none⟩) h.lop _, fun b hb hO => hkp b hb (fun e => hO (.inl e)) (fun e => hO (.inr (.inr (.inr (.inr (.inr e))))))⟩
 rcases hb with hb | hb | hb | hb | hb | hb
 ·exact .inl (.inl hb)
 ·exact .inl (.inr (.inl hb))
 ·exact .inl (.inr (.inr (.inl hb)))
 ·exact .inl (.inr (.inr (.inr (.inl hb))))
 ·exact .inl (.inr (.inr (.inr (.inr (.inl hb)))))
 ·rcases hw b hb with hb | h1
  ·exact .inl (.inr (.inr (.inr (.inr (.inr hb)))))
  ·exact .inr h1
end
section
open Go.RowKit

set_option maxRecDepth 100000 in
set_option maxHeartbeats 2000000 in
theorem lose_any (lo : Nat) (W : World) (p bb : Nat) (gv sv : Value) (xs : List Value) (ev fv uv : Value) (s : PP) (k : Nat) (y : Int) (t1 t2 t3 : Int) (r : List (Int × Int × Int)) (h : Flow lo W p bb gv sv xs ev fv uv s) (hk : k < s.bx.length) (hr : el s.bx k = (t1, t2, t3) :: r) (ht : totT s.bx ≤ 100000) (hf : s.fa.length ≤ 1000000) :
  Calls Tryz.prog 164 #[.pointer (some ⟨p, 0, none⟩), .int .i64 (k : Int), .int .i64 y] W fun e W' => (∃ v, e = .returned v) ∧ FStep lo p gv sv (FO p bb xs ev fv uv) W W' { s with bx := s.bx.set k r, fa := s.fa ++ [(t1, (k : Int), t2, y)] } := by
 have hT := take_any lo W p bb gv sv xs ev fv uv s k t1 t2 t3 r h hk hr ht;have HT := hid hT;clear hT;go_enter Tryz.func164, Tryz.ntmps164;go_wp2_with fail;refine HT.out.mono ?_;rintro e w1 ⟨rfl, hst⟩;obtain ⟨bb', xs', ev', fv', uv', F1, _, _, _, hgo⟩ := hst.next;have HGO := hid hgo;clear hst hgo;have hp := F1.box.size;have hb0 := below1 w1 (.cells #[.int .i64 t1, .int .i64 t2, .int .i64 t3] 112);have T0 := Bx.new (w := w1) [.int .i64 t1, .int .i64 t2, .int .i64 t3] 112 rfl;have F0 := F1.later hb0;obtain ⟨V, hV⟩ : ∃ V, V = w1.alloc (.cells #[.int .i64 t1, .int .i64 t2, .int .i64 t3] 112) := ⟨_, rfl⟩;rw [← hV] at hb0 F0 T0;have HV := hid hV;obtain ⟨fo, fc, hfv, hfn, _⟩ := F0.fao.fresh;have c7 := F0.box.c 7 rfl;rw [hfv] at c7;have t0 := T0.c 0 rfl;have t1' := T0.c 1 rfl;have HF0 := hid F0;have HB0 := hid hb0;have hVs : w1.heap.size < V.heap.size := by rw [hV]; simp
 clear hV hb0 F0;go_wp2;rw [← HV.out];refine wp_walks (zl := [18]) (S := fun Y => Y.cell? ⟨p, 7, none⟩ = some (.slice fo s.fa.length fc) ∧ Y.cell? ⟨w1.heap.size, 0, none⟩ = some (.int .i64 t1) ∧ Y.cell? ⟨w1.heap.size, 1, none⟩ = some (.int .i64 t2)) (by kernel_rfl) ⟨c7, t0, t1'⟩ (fun hH => ?_);refine Walks.tk 0 hH ?_;refine Walks.tk 1 hH ?_;refine Walks.tk 2 hH ?_;refine Walks.tk 3 hH ?_;refine Walks.tk 4 hH ?_;refine Walks.tk 5 hH ?_;refine Walks.tk 6 hH ?_;refine Walks.tk 7 hH ?_;refine Walks.tk 8 hH ?_;refine Walks.tk 9 hH ?_;refine Walks.tk 10 hH ?_;refine Walks.tk 11 hH ?_;refine Walks.tk 12 hH ?_;refine Walks.on 13 fun K hK => ?_
 go_simp;obtain ⟨U, hU⟩ : ∃ U, U = (V.alloc (.cells #[.int .i64 t1, .int .i64 (k : Int), .int .i64 t2, .int .i64 y] 57)).drew := ⟨_, rfl⟩;rw [← hU];have hbU : Below V.heap.size V U := by rw [hU]; exact (below1 V _).drew
 have hN : kLo.In U.heap.size U (some ⟨V.heap.size, 0, none⟩) [(t1, (k : Int), t2, y)] := by
  have hx : Bx U V.heap.size [.int .i64 t1, .int .i64 (k : Int), .int .i64 t2, .int .i64 y] := by rw [hU]; exact (Bx.new (w := V) [.int .i64 t1, .int .i64 (k : Int), .int .i64 t2, .int .i64 y] 57 rfl).drew
  exact kLo_one hx.size (hx.c 0 rfl) (hx.c 1 rfl) (hx.c 2 rfl) (hx.c 3 rfl)
 have FU := HF0.out.later hbU;have hpV : p < V.heap.size := by omega
 have hUs := hbU.size;refine hK.out _ _ (fun _ => ⟨(hbU.cell (p := ⟨p, 7, none⟩) hpV).trans c7, (hbU.cell (p := ⟨w1.heap.size, 0, none⟩) hVs).trans t0, (hbU.cell (p := ⟨w1.heap.size, 1, none⟩) hVs).trans t1'⟩) (fun hU0 => ?_);clear hK K hU;have U0 := hU0 rfl;refine Walks.on 14 fun K hK => ?_
 refine Kind.appZ kLo_ok U (by rfl) (.tmp 15) (.tmp 23) (by rfl) lo (.slice fo s.fa.length fc) s.fa (by rfl) (by rw [← hfv]; exact FU.fao) (by have := FU.lop; omega) (some ⟨V.heap.size, 0, none⟩) [(t1, (k : Int), t2, y)] 1 1 (by rfl) rfl (by simp) _ hN (by simp; omega) ?_;intro v' w2 hO2 hB2 hG2 hw2;obtain ⟨L, hL⟩ : ∃ L, L = s.fa ++ [(t1, (k : Int), t2, y)] := ⟨_, rfl⟩;rw [← hL] at hO2;have HL := hid hL;clear hL;obtain ⟨vo, vc, hv', _, _⟩ := hO2.fresh;rw [← hfv] at hG2 hw2;have kp : w2.heap[p]? = U.heap[p]? := hG2.block p (by omega) (fun e => FU.pf e.symm);have kt : w2.heap[w1.heap.size]? = U.heap[w1.heap.size]? := hG2.block _ (by omega) (fun e => by have := (own_block_lt F1.fao e.symm).2; omega);have c2 : w2.cell? ⟨p, 7, none⟩ = some (.slice fo s.fa.length fc) := (World.cell?_of_block (a := ⟨p, 7, none⟩) kp).trans U0.1;have f2 : w2.frozen? ⟨p, 7, none⟩ = false := (World.frozen?_of_block (a := ⟨p, 7, none⟩) kp).trans (FU.box.f 7 rfl);have S2 := And.intro c2 (And.intro ((World.cell?_of_block (a := ⟨w1.heap.size, 0, none⟩) kt).trans U0.2.1) ((World.cell?_of_block (a := ⟨w1.heap.size, 1, none⟩) kt).trans U0.2.2));have hstep := FU.putFa hO2 hB2 hG2 hw2;have HST := hid hstep;have HBV := hid (HB0.out.trans (hbU.mono HB0.out.size));clear hstep;refine hK.out _ _ (fun _ => S2) (fun _ => ?_);clear hK K hU0;refine Walks.on 15 fun K hK => ?_
 go_simp;refine hK.out _ _ (fun _ => S2) (fun _ => ?_);clear hK K;refine Walks.on 16 fun K hK => ?_
 go_simp;refine hK.out _ _ (fun _ => S2) (fun _ => ?_);clear hK K;refine Walks.tk 17 S2 ?_;refine Walks.on 18 fun K hK => ?_
 rw [hv'] at HST;go_simp;refine hK.out _ _ (fun h => absurd h (by decide)) (fun _ => ?_);refine Walks.done (by kernel_rfl) ?_ _;clear hK K;go_wp2
 first | refine bodyPost_ret (results_none rfl _ _ _) rfl ?_ | refine bodyPost_end (results_none rfl _ _ _) rfl ?_
 refine ⟨⟨_, rfl⟩, ?_⟩;rw [← HL.out];exact HGO.out _ _ _ HBV.out HST.out
end
section
open Go.RowKit

theorem Flow.putTi {lo : Nat} {U : World} {p bb : Nat} {gv sv : Value} {xs : List Value} {ev fv uv : Value} {s : PP} (h : Flow lo U p bb gv sv xs ev fv uv s) (x : Int) :
  FStep lo p gv sv (FO p bb xs ev fv uv) U (U.setCell ⟨p, 2, none⟩ (.int .i64 x)) { s with ti := x } := by
 have hkp : ∀ b, b ≠ p → (U.setCell ⟨p, 2, none⟩ (.int .i64 x)).heap[b]? = U.heap[b]? := fun b h2 => Below.heap_setCell _ _ _ _ h2
 exact ⟨FO p bb xs ev fv uv, ⟨bb, xs, ev, fv, uv, ⟨h.box.set 2 _, h.hnd.keep (hkp bb (fun e => h.pbb e.symm)) (fun j hj b hb => hkp b (fun e => h.px j hj (by rw [← e]; exact hb))), own_keep h.emo fun b hb => hkp b (fun e => h.pe (by rw [← e]; exact hb)), own_keep h.fao fun b hb => hkp b (fun e => h.pf (by rw [← e]; exact hb)), own_keep h.fuo fun b hb => hkp b (fun e => h.pu (by rw [← e]; exact hb)), h.lop, h.lob, h.pbb, h.px, h.pe, h.pf, h.pu⟩, fun b hb => hb⟩, fun b hb => .inl hb, (Below.refl _ _).setCell (p := ⟨p, 2, none⟩) h.lop _, fun b _ hO => hkp b (fun e => hO (.inl e))⟩
theorem Flow.putIt {lo : Nat} {U : World} {p bb : Nat} {gv sv : Value} {xs : List Value} {ev fv uv : Value} {s : PP} (h : Flow lo U p bb gv sv xs ev fv uv s) (x : Int) :
  FStep lo p gv sv (FO p bb xs ev fv uv) U (U.setCell ⟨p, 3, none⟩ (.int .i64 x)) { s with it := x } := by
 have hkp : ∀ b, b ≠ p → (U.setCell ⟨p, 3, none⟩ (.int .i64 x)).heap[b]? = U.heap[b]? := fun b h2 => Below.heap_setCell _ _ _ _ h2
 exact ⟨FO p bb xs ev fv uv, ⟨bb, xs, ev, fv, uv, ⟨h.box.set 3 _, h.hnd.keep (hkp bb (fun e => h.pbb e.symm)) (fun j hj b hb => hkp b (fun e => h.px j hj (by rw [← e]; exact hb))), own_keep h.emo fun b hb => hkp b (fun e => h.pe (by rw [← e]; exact hb)), own_keep h.fao fun b hb => hkp b (fun e => h.pf (by rw [← e]; exact hb)), own_keep h.fuo fun b hb => hkp b (fun e => h.pu (by rw [← e]; exact hb)), h.lop, h.lob, h.pbb, h.px, h.pe, h.pf, h.pu⟩, fun b hb => hb⟩, fun b hb => .inl hb, (Below.refl _ _).setCell (p := ⟨p, 3, none⟩) h.lop _, fun b _ hO => hkp b (fun e => hO (.inl e))⟩
theorem Flow.putCl {lo : Nat} {U : World} {p bb : Nat} {gv sv : Value} {xs : List Value} {ev fv uv : Value} {s : PP} (h : Flow lo U p bb gv sv xs ev fv uv s) (x : Bool) :
  FStep lo p gv sv (FO p bb xs ev fv uv) U (U.setCell ⟨p, 4, none⟩ (.bool x)) { s with cl := x } := by
 have hkp : ∀ b, b ≠ p → (U.setCell ⟨p, 4, none⟩ (.bool x)).heap[b]? = U.heap[b]? := fun b h2 => Below.heap_setCell _ _ _ _ h2
 exact ⟨FO p bb xs ev fv uv, ⟨bb, xs, ev, fv, uv, ⟨h.box.set 4 _, h.hnd.keep (hkp bb (fun e => h.pbb e.symm)) (fun j hj b hb => hkp b (fun e => h.px j hj (by rw [← e]; exact hb))), own_keep h.emo fun b hb => hkp b (fun e => h.pe (by rw [← e]; exact hb)), own_keep h.fao fun b hb => hkp b (fun e => h.pf (by rw [← e]; exact hb)), own_keep h.fuo fun b hb => hkp b (fun e => h.pu (by rw [← e]; exact hb)), h.lop, h.lob, h.pbb, h.px, h.pe, h.pf, h.pu⟩, fun b hb => hb⟩, fun b hb => .inl hb, (Below.refl _ _).setCell (p := ⟨p, 4, none⟩) h.lop _, fun b _ hO => hkp b (fun e => hO (.inl e))⟩
/-- What is lost of a box. -/
def lostB (k : Nat) (l : List (Int × Int × Int)) : List (Int × Int × Int × Int) := l.map fun t => (t.1, (k : Int), t.2.1, 2)
/-- What is lost of the first j boxes. -/
def lostTo (bx : List (List (Int × Int × Int))) : Nat → List (Int × Int × Int × Int)
 | 0 => []
 | j + 1 => lostTo bx j ++ lostB j (el bx j)
/-- The first j boxes are empty. -/
def clr (bx : List (List (Int × Int × Int))) (j : Nat) : List (List (Int × Int × Int)) := List.replicate j [] ++ bx.drop j
theorem clr_zero (bx : List (List (Int × Int × Int))) : clr bx 0 = bx := by simp [clr]
theorem clr_len {bx : List (List (Int × Int × Int))} {j : Nat} (h : j ≤ bx.length) : (clr bx j).length = bx.length := by simp [clr]; omega
theorem clr_el {bx : List (List (Int × Int × Int))} {j : Nat} (_ : j < bx.length) : el (clr bx j) j = el bx j := by
 simp only [clr, el];rw [List.getElem?_append_right (by simp), List.length_replicate, Nat.sub_self, List.getElem?_drop, Nat.add_zero]
theorem clr_set {bx : List (List (Int × Int × Int))} {j : Nat} (h : j < bx.length) : (clr bx j).set j [] = clr bx (j + 1) := by
 simp only [clr];rw [List.set_append_right _ _ (by simp), List.length_replicate, Nat.sub_self, List.drop_eq_getElem_cons h, List.set_cons_zero, List.replicate_succ', List.append_assoc]
 rfl
theorem set_el {bx : List (List (Int × Int × Int))} {j : Nat} (h : j < bx.length) : bx.set j (el bx j) = bx := by
 refine List.ext_getElem (by simp) fun i h1 h2 => ?_
 rw [List.getElem_set]
 split
 ·rename_i e; subst e; exact (el_at h).symm ▸ rfl
 ·rfl
theorem lostB_cons (k : Nat) (t1 t2 t3 : Int) (r : List (Int × Int × Int)) : lostB k ((t1, t2, t3) :: r) = (t1, (k : Int), t2, 2) :: lostB k r := rfl
theorem totT_clr (bx : List (List (Int × Int × Int))) (j : Nat) : totT (clr bx j) + (lostTo bx j).length = totT bx ∨ bx.length < j := by
 induction j with
 | zero => left; simp [clr_zero, lostTo]
 | succ j ih =>
  by_cases hj : j < bx.length
  ·left
   have ih := ih.resolve_right (by omega);have h := totT_set (ls := clr bx j) (k := j) [] (by rw [clr_len (by omega)]; exact hj);rw [clr_set hj, clr_el hj] at h;simp only [lostTo, List.length_append, lostB, List.length_map, List.length_nil] at h ⊢
   omega
  ·right; omega
end
section
open Go.RowKit

set_option maxRecDepth 100000 in
set_option maxHeartbeats 2000000 in
theorem loseAll_any (lo : Nat) (W : World) (p bb : Nat) (gv sv : Value) (xs : List Value) (ev fv uv : Value) (s : PP) (h : Flow lo W p bb gv sv xs ev fv uv s) (hn : s.bx.length ≤ 10) (ht : totT s.bx + s.fa.length ≤ 100000) :
  Calls Tryz.prog 149 #[.pointer (some ⟨p, 0, none⟩)] W fun e W' => (∃ v, e = .returned v) ∧ FStep lo p gv sv (FO p bb xs ev fv uv) W W' { s with cl := true, bx := clr s.bx s.bx.length, fa := s.fa ++ lostTo s.bx s.bx.length } := by
 have c4 := h.box.c 4 rfl;have f4 := h.box.f 4 rfl;have c5 := h.box.c 5 rfl;have hst := h.putCl true;have HST := hid hst;clear hst;go_enter Tryz.func149, Tryz.ntmps149;go_wp2;clear c4 f4 c5
 go_loopw [13] (fun i wr => ∃ j : Nat, j ≤ s.bx.length ∧ i = .int .i64 (j : Int) ∧ Hid (FStep lo p gv sv (FO p bb xs ev fv uv) W wr { s with cl := true, bx := clr s.bx j, fa := s.fa ++ lostTo s.bx j })) (fun i _ => s.bx.length - (intOf i).toNat)
 case atStart =>
  refine ⟨0, Nat.zero_le _, rfl, ?_⟩;have e : ({ s with cl := true, bx := clr s.bx 0, fa := s.fa ++ lostTo s.bx 0 } : PP) = { s with cl := true } := by rw [clr_zero]; simp [lostTo]
  rw [e]; exact HST
 case round =>
  obtain ⟨j, hj, rfl, hS⟩ := hrel
  by_cases hlt : j < s.bx.length
  ·have hji : (j : Int) < (s.bx.length : Int) := by omega
   have hcj := clr_len (bx := s.bx) (j := j) (by omega);have hT0 := (totT_clr s.bx j).resolve_right (by omega);have HS0 : Hid (FStep lo p gv sv (FO p bb xs ev fv uv) W wr { s with cl := true, bx := (clr s.bx j).set j (el s.bx j), fa := s.fa ++ lostTo s.bx j }) := by
    have e := set_el (bx := clr s.bx j) (j := j) (by rw [hcj]; exact hlt);rw [clr_el hlt] at e;rw [e]; exact hS
   obtain ⟨wo, hwo⟩ : ∃ wo, wo = wr := ⟨_, rfl⟩;clear hS HST;rw [← hwo] at HS0 ⊢;clear hwo wr;go_wp2
   go_loopg [28] (el s.bx j).length (fun m _ wr => ∃ (l : List (Int × Int × Int)) (F : List (Int × Int × Int × Int)), m = l.length ∧ Hid (F ++ lostB j l = s.fa ++ lostTo s.bx (j + 1) ∧ totT ((clr s.bx j).set j l) + F.length ≤ 100000) ∧ Hid (FStep lo p gv sv (FO p bb xs ev fv uv) W wr { s with cl := true, bx := (clr s.bx j).set j l, fa := F }))
   case atStart =>
    refine ⟨_, _, rfl, ⟨by rw [List.append_assoc]; rfl, ?_⟩, HS0⟩;have e := set_el (bx := clr s.bx j) (j := j) (by rw [hcj]; exact hlt);rw [clr_el hlt] at e;rw [e, List.length_append]; omega
   case round =>
    obtain ⟨l, F, hm, hF, hS⟩ := hrel;obtain ⟨bb', xs', ev', fv', uv', F1, _, _, _, hgo⟩ := hS.out.next;have HGO := hid hgo;have hl' : ((clr s.bx j).set j l).length = s.bx.length := by rw [List.length_set, hcj]
    have he : el ((clr s.bx j).set j l) j = l := el_set_same (by rw [hcj]; exact hlt);have hk' : j < ((clr s.bx j).set j l).length := by rw [hl']; exact hlt
    have c5 := F1.box.c 5 rfl;have ck := (F1.head hk').1;obtain ⟨ho, hc, hsl, _, _⟩ := F1.hnd.slice hk';dsimp only at c5 hsl;rw [hl'] at c5;rw [hsl, he] at ck;have HF1 := hid F1;have HE := hid he;have HK := hid hk';clear hgo F1 hsl he hk' hl'
    cases l with
    | nil =>
     have HE2 : Hid (FStep lo p gv sv (FO p bb xs ev fv uv) W wr { s with cl := true, bx := clr s.bx (j + 1), fa := s.fa ++ lostTo s.bx (j + 1) }) := by
      have h1 := hF.out.1;rw [show lostB j [] = [] from rfl, List.append_nil] at h1;rw [← clr_set hlt, ← h1]; exact hS
     clear hS hF hm HF1 HGO HE HK;go_wp2;go_roundw
     case rel => exact ⟨j + 1, by omega, by go_num, HE2⟩
     case measure => simp [intOf]; omega
    | cons t r =>
     obtain ⟨t1, t2, t3⟩ := t;have hL := lose_any lo wr p bb' gv sv xs' ev' fv' uv' _ j 2 t1 t2 t3 r HF1.out HK.out HE.out (by have := hF.out.2; dsimp only; omega) (by have := hF.out.2; dsimp only; omega);have HL := hid hL;have hts := totT_set (ls := (clr s.bx j).set j ((t1, t2, t3) :: r)) (k := j) r HK.out;rw [HE.out, List.set_set, List.length_cons] at hts;have HN : Hid (∀ w2, FStep lo p gv sv (FO p bb' xs' ev' fv' uv') wr w2 { s with cl := true, bx := ((clr s.bx j).set j ((t1, t2, t3) :: r)).set j r, fa := F ++ [(t1, (j : Int), t2, 2)] } → Hid (FStep lo p gv sv (FO p bb xs ev fv uv) W w2 { s with cl := true, bx := (clr s.bx j).set j r, fa := F ++ [(t1, (j : Int), t2, 2)] })) := fun w2 h2 => by
      rw [List.set_set] at h2;exact HGO.out _ _ _ (Below.refl _ _) h2
     have HF2 : Hid ((F ++ [(t1, (j : Int), t2, 2)]) ++ lostB j r = s.fa ++ lostTo s.bx (j + 1) ∧ totT ((clr s.bx j).set j r) + (F ++ [(t1, (j : Int), t2, 2)]).length ≤ 100000) := by
      refine ⟨?_, ?_⟩
      ·rw [List.append_assoc, ← hF.out.1]; rfl
      ·have := hF.out.2; rw [List.length_append, List.length_singleton]; omega
     clear hL hts hS hF HF1 HGO HE HK;go_wp2_with fail;refine HL.out.mono ?_;rintro e w2 ⟨⟨v2, rfl⟩, h2⟩;have H2 := HN.out w2 h2;clear h2 HN HL;go_wp2;go_roundg r.length
     case measure => rw [hm]; simp
     case rel => exact ⟨r, _, rfl, HF2, H2⟩
  ·obtain rfl : j = s.bx.length := by omega
   go_wp2
   first | refine bodyPost_ret (results_none rfl _ _ _) rfl ?_ | refine bodyPost_end (results_none rfl _ _ _) rfl ?_
   exact ⟨⟨_, rfl⟩, hS.out⟩
end
section
open Go.RowKit

theorem FStep.refl {lo : Nat} {W : World} {p bb : Nat} {gv sv : Value} {xs : List Value} {ev fv uv : Value} {s : PP} (h : Flow lo W p bb gv sv xs ev fv uv s) : FStep lo p gv sv (FO p bb xs ev fv uv) W W s :=
 ⟨_, ⟨bb, xs, ev, fv, uv, h, fun _ hb => hb⟩, fun _ hb => .inl hb, Below.refl _ _, fun _ _ _ => rfl⟩
theorem FStep.start {lo : Nat} {W V W2 : World} {p bb : Nat} {gv sv : Value} {xs : List Value} {ev fv uv : Value} {s s2 : PP} (h : Flow lo W p bb gv sv xs ev fv uv s) (hb : Below W.heap.size W V) (h2 : FStep lo p gv sv (FO p bb xs ev fv uv) V W2 s2) : FStep lo p gv sv (FO p bb xs ev fv uv) W W2 s2 := by
 obtain ⟨O2, f2, hs2, hb2, hk2⟩ := h2;have hlo : lo ≤ W.heap.size := Nat.le_of_lt (Nat.lt_of_le_of_lt h.lop h.box.size);have hz := hb.size;refine ⟨O2, f2, fun b h1 => ?_, (hb.mono hlo).trans hb2, fun b h1 h3 => (hk2 b (by omega) h3).trans (hb.block b h1)⟩
 rcases hs2 b h1 with h4 | h4
 ·exact .inl h4
 ·exact .inr (by omega)
theorem FStep.same {lo : Nat} {W V : World} {p bb : Nat} {gv sv : Value} {xs : List Value} {ev fv uv : Value} {s : PP} (h : Flow lo W p bb gv sv xs ev fv uv s) (hb : Below W.heap.size W V) : FStep lo p gv sv (FO p bb xs ev fv uv) W V s := FStep.start h hb (FStep.refl (h.later hb))
/-- What a drain does. -/
def drainR (s : PP) : Int × PP := if s.cl then (3, s) else (0, { s with cl := true })
set_option maxHeartbeats 1000000 in
theorem drain_any (lo : Nat) (W : World) (p bb : Nat) (gv sv : Value) (xs : List Value) (ev fv uv : Value) (s : PP) (m1 m2 m3 : Int) (h : Flow lo W p bb gv sv xs ev fv uv s) :
  Calls Tryz.prog 108 #[.pointer (some ⟨p, 0, none⟩), .agg #[.int .i64 m1, .int .i64 m2, .int .i64 m3]] W fun e W' => e = .returned (.int .i64 (drainR s).1) ∧ FStep lo p gv sv (FO p bb xs ev fv uv) W W' (drainR s).2 := by
 have hb0 := below1 W (.cells #[.int .i64 m1, .int .i64 m2, .int .i64 m3] 42);have F0 := h.later hb0;have hp := h.box.size;obtain ⟨V, hV⟩ : ∃ V, V = W.alloc (.cells #[.int .i64 m1, .int .i64 m2, .int .i64 m3] 42) := ⟨_, rfl⟩;rw [← hV] at hb0 F0;have HF0 := hid F0;have HB0 := hid hb0;have HV := hid hV;have c4 := h.box.c 4 rfl;have f4 := h.box.f 4 rfl;clear hV F0 hb0
 cases hc : s.cl
 ·have HR : Hid (drainR s = (0, { s with cl := true })) := by rw [Hid, drainR, hc]; rfl
  rw [hc] at c4;clear HF0 HB0 HV;go_enter Tryz.func108, Tryz.ntmps108;go_wp2;go_ret;rw [HR.out];exact ⟨rfl, (h.putCl true).later (below1 _ _) (Nat.le_of_lt (Nat.lt_of_le_of_lt h.lop hp))⟩
 ·have HR : Hid (drainR s = (3, s)) := by rw [Hid, drainR, hc]; rfl
  rw [hc] at c4;go_enter Tryz.func108, Tryz.ntmps108;go_wp2;go_ret;rw [HR.out];refine ⟨rfl, ?_⟩;have h2 := FStep.same h HB0.out;rw [HV.out] at h2;exact h2
/-- What an abort does. -/
def abortP (s : PP) : PP := { s with cl := true, bx := clr s.bx s.bx.length, fa := s.fa ++ lostTo s.bx s.bx.length }
def abortR (s : PP) : Int × PP := if s.cl = true ∧ totT s.bx = 0 then (3, s) else (0, abortP s)
set_option maxHeartbeats 1000000 in
theorem abort_any (lo : Nat) (W : World) (p bb : Nat) (gv sv : Value) (xs : List Value) (ev fv uv : Value) (s : PP) (m1 m2 m3 : Int) (h : Flow lo W p bb gv sv xs ev fv uv s) (hn : s.bx.length ≤ 10) (ht : totT s.bx + s.fa.length ≤ 100000) :
  Calls Tryz.prog 109 #[.pointer (some ⟨p, 0, none⟩), .agg #[.int .i64 m1, .int .i64 m2, .int .i64 m3]] W fun e W' => e = .returned (.int .i64 (abortR s).1) ∧ FStep lo p gv sv (FO p bb xs ev fv uv) W W' (abortR s).2 := by
 have hb0 := below1 W (.cells #[.int .i64 m1, .int .i64 m2, .int .i64 m3] 42);have F0 := h.later hb0;have hp := h.box.size;obtain ⟨V, hV⟩ : ∃ V, V = W.alloc (.cells #[.int .i64 m1, .int .i64 m2, .int .i64 m3] 42) := ⟨_, rfl⟩;rw [← hV] at hb0 F0;have HF0 := hid F0;have HB0 := hid hb0;have HV := hid hV;have c4 := F0.box.c 4 rfl;have c9 := F0.box.c 9 rfl;have c4w := h.box.c 4 rfl;have hA := loseAll_any lo V p bb gv sv xs ev fv uv s F0 hn ht;have HA := hid hA;clear hV F0 hb0 hA
 cases hc : s.cl
 ·have HR : Hid (abortR s = (0, abortP s)) := by rw [Hid, abortR, if_neg (by simp [hc])]
  rw [hc] at c4 c4w;go_enter Tryz.func109, Tryz.ntmps109;go_wp2_with fail;rw [← HV.out];refine HA.out.mono ?_;rintro e w2 ⟨⟨v2, rfl⟩, h2⟩;have H2 := hid h2;clear h2;go_wp2;go_ret;rw [HR.out];exact ⟨rfl, FStep.start h HB0.out H2.out⟩
 ·rw [hc] at c4 c4w
  by_cases h0 : totT s.bx = 0
  ·have HR : Hid (abortR s = (3, s)) := by rw [Hid, abortR, if_pos ⟨hc, h0⟩]
   rw [h0] at c9;go_enter Tryz.func109, Tryz.ntmps109;go_wp2_with fail;rw [← HV.out];refine (load_any p 9 _ V c9).mono ?_;rintro e w2 ⟨rfl, hw2⟩;rw [hw2]; clear hw2 w2
   go_wp2;go_ret;rw [HR.out];exact ⟨rfl, FStep.same h HB0.out⟩
  ·have HR : Hid (abortR s = (0, abortP s)) := by rw [Hid, abortR, if_neg (fun hh => h0 hh.2)]
   have hne : ((totT s.bx : Int) == 0) = false := by simpa using h0
   go_enter Tryz.func109, Tryz.ntmps109;go_wp2_with fail;rw [← HV.out];refine (load_any p 9 _ V c9).mono ?_;rintro e w2 ⟨rfl, hw2⟩;rw [hw2]; clear hw2 w2
   go_wp2_with fail;refine HA.out.mono ?_;rintro e w2 ⟨⟨v2, rfl⟩, h2⟩;have H2 := hid h2;clear h2;go_wp2;go_ret;rw [HR.out];exact ⟨rfl, FStep.start h HB0.out H2.out⟩
end
section
open Go.RowKit

/-- A number is a tick. -/
def tickB (n : Int) : Bool := decide (0 ≤ n) && decide (n ≤ 1000000)
/-- Those above a limit. -/
def above (zs : List Int) (lim : Int) : List Int := zs.filter fun t => decide (lim < t)
theorem above_le (zs : List Int) (lim : Int) : (above zs lim).length ≤ zs.length := List.length_filter_le _ _
theorem above_in {zs : List Int} {lim : Int} {k : Nat} (hk : k < zs.length) (h : lim < el zs k) : above (zs.take (k + 1)) lim = above (zs.take k) lim ++ [el zs k] := by
 rw [take_succ_el hk, above, above, List.filter_append]; simp [h]
theorem above_out {zs : List Int} {lim : Int} {k : Nat} (hk : k < zs.length) (h : ¬ lim < el zs k) : above (zs.take (k + 1)) lim = above (zs.take k) lim := by
 rw [take_succ_el hk, above, above, List.filter_append]; simp [h]
set_option maxHeartbeats 400000 in
theorem isTick_is (n : Int) (w : World) (b : Bool) (hb : tickB n = b) :
  Calls Tryz.prog 148 #[.int .i64 n] w fun e w' => e = .returned (.bool b) ∧ w' = w := by
 subst hb
 by_cases h : 0 ≤ n
 ·go_enter Tryz.func148, Tryz.ntmps148;go_wp2;go_ret;refine ⟨ret_bool ?_, rfl⟩
  first | (simp [h, tickB]; done) | (simp [h, tickB]; omega)
 ·have h' : decide (0 ≤ n) = false := by simpa using h
  go_enter Tryz.func148, Tryz.ntmps148;go_wp2;go_ret;exact ⟨ret_bool (by first | (simp [tickB, h']; done) | (simp [tickB]; omega)), rfl⟩
end
end Go.Proofs.YtllmpinmbajpgaaGreatDoor
