
/- The account of an item: the program. No conditions but those written. The specification's flow in memory, and what its steps leave. No conditions but those written. The specification takes a token out of a box. No conditions but those written. -/
import Derived.Test.YtllmpinmbajpgaaGreatDoorPEoMo
import Derived.Test.YtllmpinmbajpgaaGreatDoorPMmAva
import Derived.Test.YtllmpinmbajpgaaGreatDoorPDppMf
import Derived.Test.YtllmpinmbajpgaaGreatDoorPZwYz
namespace Go.Proofs.YtllmpinmbajpgaaGreatDoor
section
open Go.RowKit

/-- The account of an item behind moves. -/
def accR (gs : List PNode) (ms : List (Int × Int × Int)) (item : Int) : List (Int × Int) × Bool :=
 if (pipeB gs = true ∧ ms.length ≤ 300) ∧ 0 ≤ item ∧ item < (playP gs (srcP gs gs.length) ms (pp0 gs.length)).2.it then sortR (accL (meanG gs) item (playP gs (srcP gs gs.length) ms (pp0 gs.length)).2) else ([], false)
/-- What is known of a pipe that was played on. -/
structure Played (gs : List PNode) (s : PP) : Prop where
 good : GoodE gs
 ord : Ordd gs (orderP gs)
 wide : widP gs ≤ 400
 inv : InvS gs s
 len : s.bx.length = gs.length
 lost : LostI gs s.fa
 em : s.em.length ≤ 900
 tot : totT s.bx + s.fa.length ≤ 9000
 it0 : 0 ≤ s.it
 it1 : s.it ≤ 300
 am : ∀ i, 0 ≤ i → i < s.it → (accL (meanG gs) i s).length ≤ 400
 ae : ∀ i, 0 ≤ i → i < s.it → (accL (emitP gs) i s).length ≤ 400
 same : ∀ i, 0 ≤ i → i < s.it → sortR (accL (emitP gs) i s) = sortR (accL (meanG gs) i s)
theorem played_of {gs : List PNode} {ms : List (Int × Int × Int)} (h : pipeB gs = true ∧ ms.length ≤ 300) : Played gs (playP gs (srcP gs gs.length) ms (pp0 gs.length)).2 := by
 have h00 : codeG gs = 0 ∧ widP gs ≤ 400 := by have := h.1; simpa [pipeB] using this
 have hG := goodE_of h00.1;have hR := orderP_ordd (codeG_zero h00.1).2.2;have hB := playP_bnd (srcP gs gs.length) hG.edg ms (pp0_bnd gs.length) ms.length (Nat.le_refl _);have hI := playP_inv (srcP gs gs.length) hG ms (pp0_inv hG) (pp0_bnd gs.length) ms.length (Nat.le_refl _);have hA := playP_acc hG hR (srcP_rng gs gs.length) ms ms.length (Nat.le_refl _);rw [List.take_length] at hB hI hA;have hEP : ∀ (ψ : Int × Int → Int) (k : Nat) (v : Int), k < gs.length → sumI ψ (emitP gs k v) = sumI ψ (meanG gs k v) := fun ψ k v hk => emit_sum hR hG.edg ψ hk v
 have h2 := h.2;have b1 := hB.tot;have b2 := hB.em;have b3 := hB.it1;refine ⟨hG, hR, h00.2, hI, hB.len, hA.lost, by omega, by omega, hB.it0, by omega, fun i h0 h1 => account_len hG hR h00.2 hA hB.len (fun _ _ _ _ => rfl) h0 h1, fun i h0 h1 => account_len hG hR h00.2 hA hB.len hEP h0 h1, fun i h0 h1 => sortR_same ((account_perm hA hB.len hEP h0 h1).trans (account_perm hA hB.len (fun _ _ _ _ => rfl) h0 h1).symm)⟩
set_option maxRecDepth 100000 in
set_option maxHeartbeats 8000000 in
theorem implAcc_any (ao : Option Addr) (cap : Nat) (ts : List LNode) (ea : Nat → Addr) (mo : Option Addr) (mc : Nat) (ms : List (Int × Int × Int)) (item : Int) (w : World) (hC : Roomy ts cap) (hE : Errs w ea) (hz : DIn dNode w.heap.size w ao ts) (hM : kMv.In w.heap.size w mo ms) (h64 : ∀ k, k < ms.length → (el ms k).1 ≤ 9223372036854775807) :
  Calls Tryz.prog 12 #[.slice ao ts.length cap, .slice mo ms.length mc, .int .i64 item] w (fun e w' => AnsEB w (accR (ts.map valNode) ms item) e w') := by
 have HP := hid (played_any ao cap ts ea mo mc ms w hC hE hz hM h64);have HZ := hid hz;have HFI := hid hC.fitN;clear hC hE hM h64
 by_cases hok : pipeB (ts.map valNode) = true ∧ ms.length ≤ 300
 ·have HPL := played_of hok;rw [val_len] at HPL;obtain ⟨s, hs⟩ : ∃ s, s = (playP (ts.map valNode) (srcP (ts.map valNode) ts.length) ms (pp0 ts.length)).2 := ⟨_, rfl⟩;have HR0 : Hid (accR (ts.map valNode) ms item = if 0 ≤ item ∧ item < s.it then sortR (accL (meanG (ts.map valNode)) item s) else ([], false)) := by
   rw [Hid, accR, val_len, ← hs]
   by_cases hq : 0 ≤ item ∧ item < s.it
   ·rw [if_pos ⟨hok, hq⟩, if_pos hq]
   ·rw [if_neg (fun hh => hq hh.2), if_neg hq]
  rw [← hs] at HPL;have HPL := hid HPL;have h1 : 0 < ts.length := by
   have h00 : codeG (ts.map valNode) = 0 := by have := hok.1; simp [pipeB] at this; exact this.1
   have := (codeG_zero h00).1;rw [val_len] at this; omega
  obtain ⟨gb, goff, rfl, hgb, _⟩ := hNode_at hz.1 h1;clear hz;have hit0 := HPL.out.it0;have hit1 := HPL.out.it1;go_enter Tryz.func12, Tryz.ntmps12;go_wp2_with fail;refine HP.out.mono ?_;rintro e w1 ⟨hq, hb1⟩;rw [if_pos hok] at hq;obtain ⟨lo, p, bb, so, sc, xs, ev, fv, uv, v, rfl, hlo, _, F, _, _⟩ := hq;rw [← hs] at F;have c3 := F.box.c 3 rfl;have HB1 := hid hb1;have HF := hid F;clear hb1 F HP hok hs hlo
  by_cases hlow : item < 0
  ·have hd : decide (item < 0) = true := by simpa using hlow
   have HR := HR0.out.trans (if_neg (by omega));have HR := hid HR;clear HR0;go_wp2;refine bodyPost_ret (v := .tuple #[.slice none 0 0, .bool false]) (by simp [results, Tryz.results12, go_sem]) rfl ?_;rw [HR.out];exact ⟨⟨none, 0, rfl, Kind.Fresh.nil _ _ _ _ _ _⟩, HB1.out⟩
  ·have hd : decide (item < 0) = false := by simpa using hlow
   by_cases hhi : s.it ≤ item
   ·have hd2 : decide (s.it ≤ item) = true := by simpa using hhi
    have HR := HR0.out.trans (if_neg (by omega));have HR := hid HR;clear HR0;go_wp2;refine bodyPost_ret (v := .tuple #[.slice none 0 0, .bool false]) (by simp [results, Tryz.results12, go_sem]) rfl ?_;rw [HR.out];exact ⟨⟨none, 0, rfl, Kind.Fresh.nil _ _ _ _ _ _⟩, HB1.out⟩
   ·have hd2 : decide (s.it ≤ item) = false := by simpa using hhi
    have HR := HR0.out.trans (if_pos (by omega));rw [← HPL.out.same item (by omega) (by omega)] at HR;have HR := hid HR;have hlA := HPL.out.ae item (by omega) (by omega);have HAC := hid (accountOf_any lo w1 p bb gb goff cap ts _ xs ev fv uv s item HF.out (by have := HPL.out.len; rw [val_len] at this; exact this) (HZ.out.later dNode_ok HB1.out) HFI.out HPL.out.good (by have := HPL.out.ord.len; omega) (by have := HPL.out.wide; omega) HPL.out.inv HPL.out.lost hlA ⟨by have := HPL.out.em; omega, by have := HPL.out.tot; omega, by have := HPL.out.tot; omega⟩);clear HR0 hlow hhi
    generalize accL (emitP (ts.map valNode)) item s = A at HR HAC hlA
    go_wp2_with fail;refine HAC.out.mono ?_;rintro e w2 ⟨⟨v2, rfl, hO2⟩, hb2⟩;obtain ⟨qo, qc, rfl, _, hF2⟩ := hO2.fresh;have HB2 := hid (HB1.out.trans (hb2.mono HB1.out.size));have HI2 := hid hF2.in;clear hb2 hO2 hF2 HAC c3;go_wp2_with fail;refine (implSort_any qo qc A w2 (by omega) HI2.out).mono ?_;rintro e w3 ⟨⟨go, gc, rfl, hF3⟩, hb3⟩;have HB3 := hid (HB2.out.trans (hb3.mono HB2.out.size));have HF3 := hid (hF3.wide (lo' := w.heap.size) (hi' := w3.heap.size) HB2.out.size (Nat.le_refl _));clear hb3 hF3;go_wp2;refine bodyPost_ret (v := .tuple #[.slice go (sortR A).1.length gc, .bool (sortR A).2]) (by simp [results, Tryz.results12, go_sem]) rfl ?_;rw [HR.out];exact ⟨⟨_, _, rfl, HF3.out⟩, HB3.out⟩
 ·have HR : Hid (accR (ts.map valNode) ms item = ([], false)) := by rw [Hid, accR, if_neg (fun hh => hok hh.1)]
  go_enter Tryz.func12, Tryz.ntmps12;go_wp2_with fail;refine HP.out.mono ?_;rintro e w1 ⟨hq, hb1⟩;rw [if_neg hok] at hq;obtain rfl := hq;go_wp2;refine bodyPost_ret (v := .tuple #[.slice none 0 0, .bool false]) (by simp [results, Tryz.results12, go_sem]) rfl ?_;rw [HR.out];exact ⟨⟨none, 0, rfl, Kind.Fresh.nil _ _ _ _ _ _⟩, hb1⟩
end
section
open Go.RowKit

/-- A flow under way: the object at p, its boxes' heads at bb, its rows. -/
structure FlowS (lo : Nat) (W : World) (p bb : Nat) (gv : Value) (xs : List Value) (ev fv uv : Value) (s : PP) : Prop where
 box : Bx W p [gv, .int .i64 s.ti, .int .i64 s.it, .bool s.cl, .slice (some ⟨bb, 0, none⟩) s.bx.length s.bx.length, ev, fv, uv]
 hnd : HandsT bb W xs s.bx
 emo : kOu.Own lo W ev s.em
 fao : kLo.Own lo W fv s.fa
 fuo : kI.Own lo W uv s.fu
 lop : lo ≤ p
 lob : lo ≤ bb
 pbb : p ≠ bb
 px : ∀ j, j < s.bx.length → (el xs j).ownBlock ≠ some p
 pe : ev.ownBlock ≠ some p
 pf : fv.ownBlock ≠ some p
 pu : uv.ownBlock ≠ some p
/-- A flow under way in the blocks O. -/
def FlS (lo : Nat) (W : World) (p : Nat) (gv : Value) (s : PP) (O : Nat → Prop) : Prop := ∃ bb xs ev fv uv, FlowS lo W p bb gv xs ev fv uv s ∧ ∀ b, FO p bb xs ev fv uv b → O b
/-- One step: the flow holds s' now, in its blocks and new ones; nothing else turned. -/
def FStepS (lo p : Nat) (gv : Value) (O : Nat → Prop) (W W' : World) (s' : PP) : Prop :=
 ∃ O', FlS lo W' p gv s' O' ∧ (∀ b, O' b → (O b ∨ W.heap.size ≤ b)) ∧ Below lo W W' ∧ ∀ b, b < W.heap.size → ¬ O b → W'.heap[b]? = W.heap[b]?
theorem FlowS.later {lo : Nat} {W W' : World} {p bb : Nat} {gv : Value} {xs : List Value} {ev fv uv : Value} {s : PP} (h : FlowS lo W p bb gv xs ev fv uv s) (hb : Below W.heap.size W W') : FlowS lo W' p bb gv xs ev fv uv s :=
 ⟨h.box.later hb, h.hnd.later hb, h.emo.below hb, h.fao.below hb, h.fuo.below hb, h.lop, h.lob, h.pbb, h.px, h.pe, h.pf, h.pu⟩
theorem FStepS.trans {lo p : Nat} {gv : Value} {O : Nat → Prop} {W W1 W2 : World} {s1 s2 : PP} (h1 : FStepS lo p gv O W W1 s1) (h2 : ∀ O1, FlS lo W1 p gv s1 O1 → FStepS lo p gv O1 W1 W2 s2) : FStepS lo p gv O W W2 s2 := by
 obtain ⟨O1, f1, s1', b1, k1⟩ := h1;obtain ⟨O2, f2, s2', b2, k2⟩ := h2 O1 f1;have hs := b1.size;refine ⟨O2, f2, fun b hb => ?_, b1.trans b2, fun b hb hO => ?_⟩
 ·rcases s2' b hb with h | h
  ·exact s1' b h
  ·exact .inr (by omega)
 ·have hn : ¬ O1 b := fun h => by rcases s1' b h with h | h; exact hO h; omega
  exact (k2 b (by omega) hn).trans (k1 b hb hO)
theorem FStepS.later {lo p : Nat} {gv : Value} {O : Nat → Prop} {W W1 W2 : World} {s : PP} (h : FStepS lo p gv O W W1 s) (hb : Below W1.heap.size W1 W2) (hlo : lo ≤ W.heap.size) : FStepS lo p gv O W W2 s := by
 obtain ⟨O1, ⟨bb, xs, ev, fv, uv, f, ho⟩, s1, b1, k1⟩ := h;have hs := b1.size;exact ⟨O1, ⟨bb, xs, ev, fv, uv, f.later hb, ho⟩, s1, b1.trans (hb.mono (by omega)), fun b h1 h2 => (hb.block b (by omega)).trans (k1 b h1 h2)⟩
/-- A cell of the flow is read. -/
theorem FlowS.head {lo : Nat} {W : World} {p bb : Nat} {gv : Value} {xs : List Value} {ev fv uv : Value} {s : PP} (h : FlowS lo W p bb gv xs ev fv uv s) {k : Nat} (hk : k < s.bx.length) : W.cell? ⟨bb, k, none⟩ = some (el xs k) ∧ W.frozen? ⟨bb, k, none⟩ = false := by
 have hx : k < xs.length := by rw [h.hnd.len]; exact hk
 refine ⟨(h.hnd.head.cellAt k (by omega)).trans ?_, h.hnd.head.frozenAt k⟩
 simp [el, hx]
/-- The blocks of a flow are kept apart: what stands where one row alone turned. -/
theorem FlowS.bbx {lo : Nat} {W : World} {p bb : Nat} {gv : Value} {xs : List Value} {ev fv uv : Value} {s : PP} (h : FlowS lo W p bb gv xs ev fv uv s) {k : Nat} (hk : k < s.bx.length) : (el xs k).ownBlock ≠ some bb := fun e => by
 have := (own_block_lt (h.hnd.row k hk) e).1; omega
/-- The other rows of a flow lie apart from the object, the heads and the tokens. -/
theorem FlowS.apart {lo : Nat} {W : World} {p bb : Nat} {gv : Value} {xs : List Value} {ev fv uv : Value} {s : PP} (h : FlowS lo W p bb gv xs ev fv uv s) {b : Nat} (hb : ev.ownBlock = some b ∨ fv.ownBlock = some b ∨ uv.ownBlock = some b) :
  b < W.heap.size ∧ b ≠ p ∧ b ≠ bb ∧ ∀ j, j < s.bx.length → (el xs j).ownBlock ≠ some b := by
 rcases hb with hb | hb | hb
 ·exact ⟨(own_block_lt h.emo hb).2, fun e => h.pe (by rw [← e]; exact hb), fun e => own_ne_head h.emo h.hnd.head (by decide) (by rw [← e]; exact hb), fun j hj => own_ty h.emo (h.hnd.row j hj) (by decide) hb⟩
 ·exact ⟨(own_block_lt h.fao hb).2, fun e => h.pf (by rw [← e]; exact hb), fun e => own_ne_head h.fao h.hnd.head (by decide) (by rw [← e]; exact hb), fun j hj => own_ty h.fao (h.hnd.row j hj) (by decide) hb⟩
 ·exact ⟨(own_block_lt h.fuo hb).2, fun e => h.pu (by rw [← e]; exact hb), fun e => own_ne_head h.fuo h.hnd.head (by decide) (by rw [← e]; exact hb), fun j hj => own_ty h.fuo (h.hnd.row j hj) (by decide) hb⟩
/-- Object and boxes put anew, the other rows as they were. -/
theorem FlowS.turn {lo : Nat} {W W' : World} {p bb : Nat} {gv : Value} {xs xs' : List Value} {ev fv uv : Value} {s : PP} {bx' : List (List (Int × Int × Int))} {ti' it' : Int} {cl' : Bool} (h : FlowS lo W p bb gv xs ev fv uv s)
  (hbox : Bx W' p [gv, .int .i64 ti', .int .i64 it', .bool cl', .slice (some ⟨bb, 0, none⟩) bx'.length bx'.length, ev, fv, uv]) (hh : HandsT bb W' xs' bx')
  (hk : ∀ b, (ev.ownBlock = some b ∨ fv.ownBlock = some b ∨ uv.ownBlock = some b) → W'.heap[b]? = W.heap[b]?) (hp : ∀ j, j < bx'.length → (el xs' j).ownBlock ≠ some p) :
  FlowS lo W' p bb gv xs' ev fv uv { ti := ti', it := it', cl := cl', bx := bx', em := s.em, fa := s.fa, fu := s.fu } :=
 ⟨hbox, hh, own_keep h.emo fun b hb => hk b (.inl hb), own_keep h.fao fun b hb => hk b (.inr (.inl hb)), own_keep h.fuo fun b hb => hk b (.inr (.inr hb)), h.lop, h.lob, h.pbb, hp, h.pe, h.pf, h.pu⟩
theorem FlowS.setFar {lo : Nat} {W : World} {p bb : Nat} {gv : Value} {xs : List Value} {ev fv uv : Value} {s : PP} (h : FlowS lo W p bb gv xs ev fv uv s) {a : Addr} (ha : ¬ FO p bb xs ev fv uv a.block) (u : Value) : FlowS lo (W.setCell a u) p bb gv xs ev fv uv s := by
 have hk : ∀ b, FO p bb xs ev fv uv b → (W.setCell a u).heap[b]? = W.heap[b]? := fun b hb => Below.heap_setCell _ _ _ _ (fun e => ha (by rw [← e]; exact hb))
 exact ⟨h.box.other (fun e => ha (.inl e)) u, h.hnd.keep (hk bb (.inr (.inl rfl))) (fun j hj b hb => hk b (.inr (.inr (.inl ⟨j, by rw [h.hnd.len]; exact hj, hb⟩)))), own_keep h.emo fun b hb => hk b (.inr (.inr (.inr (.inl hb)))), own_keep h.fao fun b hb => hk b (.inr (.inr (.inr (.inr (.inl hb))))), own_keep h.fuo fun b hb => hk b (.inr (.inr (.inr (.inr (.inr hb))))), h.lop, h.lob, h.pbb, h.px, h.pe, h.pf, h.pu⟩
theorem FlowS.old {lo : Nat} {W : World} {p bb : Nat} {gv : Value} {xs : List Value} {ev fv uv : Value} {s : PP} (h : FlowS lo W p bb gv xs ev fv uv s) {b : Nat} (hb : FO p bb xs ev fv uv b) : b < W.heap.size := by
 rcases hb with rfl | rfl | ⟨j, hj, hb⟩ | hb
 ·exact h.box.size
 ·exact h.hnd.size
 ·exact (own_block_lt (h.hnd.row j (by rw [← h.hnd.len]; exact hj)) hb).2
 ·exact (h.apart hb).1
theorem FlowS.far {lo : Nat} {W : World} {p bb : Nat} {gv : Value} {xs : List Value} {ev fv uv : Value} {s : PP} (h : FlowS lo W p bb gv xs ev fv uv s) {b : Nat} (hb : W.heap.size ≤ b) : ¬ FO p bb xs ev fv uv b := fun hO => by have := h.old hO; omega
/-- A step, its rows named. -/
structure FX (lo p : Nat) (gv : Value) (O : Nat → Prop) (W W' : World) (bb : Nat) (xs : List Value) (ev fv uv : Value) (s : PP) : Prop where
 flow : FlowS lo W' p bb gv xs ev fv uv s
 old : ∀ b, FO p bb xs ev fv uv b → O b ∨ W.heap.size ≤ b
 low : Below lo W W'
 kept : ∀ b, b < W.heap.size → ¬ O b → W'.heap[b]? = W.heap[b]?
theorem FX.step {lo p : Nat} {gv : Value} {O : Nat → Prop} {W W' : World} {bb : Nat} {xs : List Value} {ev fv uv : Value} {s : PP} (h : FX lo p gv O W W' bb xs ev fv uv s) : FStepS lo p gv O W W' s :=
 ⟨_, ⟨bb, xs, ev, fv, uv, h.flow, fun _ hb => hb⟩, h.old, h.low, h.kept⟩
theorem FStepS.fx {lo p : Nat} {gv : Value} {O : Nat → Prop} {W W' : World} {s : PP} (h : FStepS lo p gv O W W' s) : ∃ bb xs ev fv uv, FX lo p gv O W W' bb xs ev fv uv s := by
 obtain ⟨O', ⟨bb, xs, ev, fv, uv, F, hF⟩, hs, hb, hk⟩ := h;exact ⟨bb, xs, ev, fv, uv, F, fun b h1 => hs b (hF b h1), hb, hk⟩
theorem FX.refl {lo p : Nat} {gv : Value} {W : World} {bb : Nat} {xs : List Value} {ev fv uv : Value} {s : PP} (h : FlowS lo W p bb gv xs ev fv uv s) : FX lo p gv (FO p bb xs ev fv uv) W W bb xs ev fv uv s :=
 ⟨h, fun _ hb => .inl hb, Below.refl _ _, fun _ _ _ => rfl⟩
theorem FlowS.lo_le {lo p : Nat} {gv : Value} {W : World} {bb : Nat} {xs : List Value} {ev fv uv : Value} {s : PP} (h : FlowS lo W p bb gv xs ev fv uv s) : lo ≤ W.heap.size := Nat.le_of_lt (Nat.lt_of_le_of_lt h.lop h.box.size)
/-- Later, with nothing of the flow turned. -/
theorem FX.later {lo p : Nat} {gv : Value} {O : Nat → Prop} {W W1 V : World} {bb : Nat} {xs : List Value} {ev fv uv : Value} {s : PP} (h : FX lo p gv O W W1 bb xs ev fv uv s) (hb : Below W1.heap.size W1 V) : FX lo p gv O W V bb xs ev fv uv s :=
 ⟨h.flow.later hb, h.old, h.low.trans (hb.mono h.flow.lo_le), fun b h1 h2 => (hb.block b (Nat.lt_of_lt_of_le h1 h.low.size)).trans (h.kept b h1 h2)⟩
theorem FX.trans {lo p : Nat} {gv : Value} {O : Nat → Prop} {W W1 W2 : World} {bb bb2 : Nat} {xs xs2 : List Value} {ev fv uv ev2 fv2 uv2 : Value} {s s2 : PP} (h : FX lo p gv O W W1 bb xs ev fv uv s) (h2 : FX lo p gv (FO p bb xs ev fv uv) W1 W2 bb2 xs2 ev2 fv2 uv2 s2) : FX lo p gv O W W2 bb2 xs2 ev2 fv2 uv2 s2 := by
 have hz := h.low.size;refine ⟨h2.flow, fun b h1 => ?_, h.low.trans h2.low, fun b h1 h3 => ?_⟩
 ·rcases h2.old b h1 with h4 | h4
  ·exact h.old b h4
  ·exact .inr (by omega)
 ·have hn : ¬ FO p bb xs ev fv uv b := fun h4 => by
   rcases h.old b h4 with h5 | h5
   ·exact h3 h5
   ·omega
  exact (h2.kept b (by omega) hn).trans (h.kept b h1 h3)
/-- Steps behind new memory. -/
theorem FX.start {lo : Nat} {W V W2 : World} {p bb bb2 : Nat} {gv : Value} {xs xs2 : List Value} {ev fv uv ev2 fv2 uv2 : Value} {s s2 : PP} (h : FlowS lo W p bb gv xs ev fv uv s) (hb : Below W.heap.size W V) (h2 : FX lo p gv (FO p bb xs ev fv uv) V W2 bb2 xs2 ev2 fv2 uv2 s2) : FX lo p gv (FO p bb xs ev fv uv) W W2 bb2 xs2 ev2 fv2 uv2 s2 :=
 ((FX.refl h).later hb).trans h2
/-- Going on behind a step. -/
theorem FStepS.next {lo p : Nat} {gv : Value} {O : Nat → Prop} {W W1 : World} {s1 : PP} (h : FStepS lo p gv O W W1 s1) :
  ∃ bb xs ev fv uv, FlowS lo W1 p bb gv xs ev fv uv s1 ∧ (∀ b, b < W.heap.size → ¬ O b → W1.heap[b]? = W.heap[b]?) ∧ Below lo W W1 ∧ (∀ b, FO p bb xs ev fv uv b → O b ∨ W.heap.size ≤ b) ∧
   ∀ (V W2 : World) (s2 : PP), Below W1.heap.size W1 V → FStepS lo p gv (FO p bb xs ev fv uv) V W2 s2 → FStepS lo p gv O W W2 s2 := by
 obtain ⟨O1, ⟨bb, xs, ev, fv, uv, F, hF⟩, hs, hb, hk⟩ := h;refine ⟨bb, xs, ev, fv, uv, F, hk, hb, fun b h1 => hs b (hF b h1), fun V W2 s2 hV h2 => ?_⟩;obtain ⟨O2, f2, hs2, hb2, hk2⟩ := h2;have hz := hb.size;have hzV := hV.size;have hlo : lo ≤ W1.heap.size := Nat.le_of_lt (Nat.lt_of_le_of_lt F.lop F.box.size);refine ⟨O2, f2, fun b h1 => ?_, hb.trans ((hV.mono hlo).trans hb2), fun b h1 h3 => ?_⟩
 ·rcases hs2 b h1 with h4 | h4
  ·exact hs b (hF b h4)
  ·exact .inr (by omega)
 ·have hn : ¬ FO p bb xs ev fv uv b := fun h4 => by
   rcases hs b (hF b h4) with h5 | h5
   ·exact h3 h5
   ·omega
  exact (hk2 b (by omega) hn).trans ((hV.block b (by omega)).trans (hk b h1 h3))
/-- A row of the flow has grown; the object is told. -/
theorem FlowS.putEm {lo : Nat} {U w2 : World} {p bb : Nat} {gv : Value} {xs : List Value} {ev fv uv v' : Value} {s : PP} {L : _} (h : FlowS lo U p bb gv xs ev fv uv s) (hO : kOu.Own lo w2 v' L) (hB : Below lo U w2) (hG : U.grownBy w2 ev.ownBlock) (hw : ∀ g, v'.ownBlock = some g → ev.ownBlock = some g ∨ U.heap.size ≤ g) :
  FX lo p gv (FO p bb xs ev fv uv) U (w2.setCell ⟨p, 5, none⟩ v') bb xs v' fv uv { s with em := L } := by
 have hp := h.box.size;have kp : w2.heap[p]? = U.heap[p]? := hG.block p hp (fun e => h.pe e.symm);have hpv : v'.ownBlock ≠ some p := fun e => by
  rcases hw p e with h1 | h1
  ·exact h.pe h1
  ·omega
 have hkp : ∀ b, b < U.heap.size → b ≠ p → ev.ownBlock ≠ some b → (w2.setCell ⟨p, 5, none⟩ v').heap[b]? = U.heap[b]? := fun b h1 h2 h3 => (Below.heap_setCell _ _ _ _ h2).trans (hG.block b h1 (fun e => h3 e.symm))
 have hme : ∀ b, ev.ownBlock = some b → b < U.heap.size ∧ b ≠ p ∧ b ≠ bb ∧ ∀ j, j < s.bx.length → (el xs j).ownBlock ≠ some b := fun b hb => h.apart (.inl hb)
 refine ⟨⟨(h.box.keep hG.size kp).set 5 v', h.hnd.keep (hkp bb h.hnd.size (fun e => h.pbb e.symm) (fun e => (hme bb e).2.2.1 rfl)) (fun j hj b hb => hkp b (own_block_lt (h.hnd.row j hj) hb).2 (fun e => h.px j hj (by rw [← e]; exact hb)) (fun e => (hme b e).2.2.2 j hj hb)), own_keep hO fun b hb => Below.heap_setCell _ _ _ _ (fun e => hpv (by have e' : b = p := e; rw [← e']; exact hb)), own_keep h.fao fun b hb => hkp b (own_block_lt h.fao hb).2 (fun e => h.pf (by rw [← e]; exact hb)) (own_ty h.fao h.emo (by decide) hb), own_keep h.fuo fun b hb => hkp b (own_block_lt h.fuo hb).2 (fun e => h.pu (by rw [← e]; exact hb)) (own_ty h.fuo h.emo (by decide) hb), h.lop, h.lob, h.pbb, h.px, hpv, h.pf, h.pu⟩, fun b hb => ?_, hB.setCell (p := ⟨p, 5, none⟩) h.lop _, fun b hb hO => hkp b hb (fun e => hO (.inl e)) (fun e => hO (.inr (.inr (.inr (.inl e)))))⟩
 rcases hb with hb | hb | hb | hb | hb | hb
 ·exact .inl (.inl hb)
 ·exact .inl (.inr (.inl hb))
 ·exact .inl (.inr (.inr (.inl hb)))
 ·rcases hw b hb with hb | h1
  ·exact .inl (.inr (.inr (.inr (.inl hb))))
  ·exact .inr h1
 ·exact .inl (.inr (.inr (.inr (.inr (.inl hb)))))
 ·exact .inl (.inr (.inr (.inr (.inr (.inr hb)))))
/-- A row of the flow has grown; the object is told. -/
theorem FlowS.putFa {lo : Nat} {U w2 : World} {p bb : Nat} {gv : Value} {xs : List Value} {ev fv uv v' : Value} {s : PP} {L : _} (h : FlowS lo U p bb gv xs ev fv uv s) (hO : kLo.Own lo w2 v' L) (hB : Below lo U w2) (hG : U.grownBy w2 fv.ownBlock) (hw : ∀ g, v'.ownBlock = some g → fv.ownBlock = some g ∨ U.heap.size ≤ g) :
  FX lo p gv (FO p bb xs ev fv uv) U (w2.setCell ⟨p, 6, none⟩ v') bb xs ev v' uv { s with fa := L } := by
 have hp := h.box.size;have kp : w2.heap[p]? = U.heap[p]? := hG.block p hp (fun e => h.pf e.symm);have hpv : v'.ownBlock ≠ some p := fun e => by
  rcases hw p e with h1 | h1
  ·exact h.pf h1
  ·omega
 have hkp : ∀ b, b < U.heap.size → b ≠ p → fv.ownBlock ≠ some b → (w2.setCell ⟨p, 6, none⟩ v').heap[b]? = U.heap[b]? := fun b h1 h2 h3 => (Below.heap_setCell _ _ _ _ h2).trans (hG.block b h1 (fun e => h3 e.symm))
 have hme : ∀ b, fv.ownBlock = some b → b < U.heap.size ∧ b ≠ p ∧ b ≠ bb ∧ ∀ j, j < s.bx.length → (el xs j).ownBlock ≠ some b := fun b hb => h.apart (.inr (.inl hb))
 refine ⟨⟨(h.box.keep hG.size kp).set 6 v', h.hnd.keep (hkp bb h.hnd.size (fun e => h.pbb e.symm) (fun e => (hme bb e).2.2.1 rfl)) (fun j hj b hb => hkp b (own_block_lt (h.hnd.row j hj) hb).2 (fun e => h.px j hj (by rw [← e]; exact hb)) (fun e => (hme b e).2.2.2 j hj hb)), own_keep h.emo fun b hb => hkp b (own_block_lt h.emo hb).2 (fun e => h.pe (by rw [← e]; exact hb)) (own_ty h.emo h.fao (by decide) hb), own_keep hO fun b hb => Below.heap_setCell _ _ _ _ (fun e => hpv (by have e' : b = p := e; rw [← e']; exact hb)), own_keep h.fuo fun b hb => hkp b (own_block_lt h.fuo hb).2 (fun e => h.pu (by rw [← e]; exact hb)) (own_ty h.fuo h.fao (by decide) hb), h.lop, h.lob, h.pbb, h.px, h.pe, hpv, h.pu⟩, fun b hb => ?_, hB.setCell (p := ⟨p, 6, none⟩) h.lop _, fun b hb hO => hkp b hb (fun e => hO (.inl e)) (fun e => hO (.inr (.inr (.inr (.inr (.inl e))))))⟩
 rcases hb with hb | hb | hb | hb | hb | hb
 ·exact .inl (.inl hb)
 ·exact .inl (.inr (.inl hb))
 ·exact .inl (.inr (.inr (.inl hb)))
 ·exact .inl (.inr (.inr (.inr (.inl hb))))
 ·rcases hw b hb with hb | h1
  ·exact .inl (.inr (.inr (.inr (.inr (.inl hb)))))
  ·exact .inr h1
 ·exact .inl (.inr (.inr (.inr (.inr (.inr hb)))))
/-- A row of the flow has grown; the object is told. -/
theorem FlowS.putFu {lo : Nat} {U w2 : World} {p bb : Nat} {gv : Value} {xs : List Value} {ev fv uv v' : Value} {s : PP} {L : _} (h : FlowS lo U p bb gv xs ev fv uv s) (hO : kI.Own lo w2 v' L) (hB : Below lo U w2) (hG : U.grownBy w2 uv.ownBlock) (hw : ∀ g, v'.ownBlock = some g → uv.ownBlock = some g ∨ U.heap.size ≤ g) :
  FX lo p gv (FO p bb xs ev fv uv) U (w2.setCell ⟨p, 7, none⟩ v') bb xs ev fv v' { s with fu := L } := by
 have hp := h.box.size;have kp : w2.heap[p]? = U.heap[p]? := hG.block p hp (fun e => h.pu e.symm);have hpv : v'.ownBlock ≠ some p := fun e => by
  rcases hw p e with h1 | h1
  ·exact h.pu h1
  ·omega
 have hkp : ∀ b, b < U.heap.size → b ≠ p → uv.ownBlock ≠ some b → (w2.setCell ⟨p, 7, none⟩ v').heap[b]? = U.heap[b]? := fun b h1 h2 h3 => (Below.heap_setCell _ _ _ _ h2).trans (hG.block b h1 (fun e => h3 e.symm))
 have hme : ∀ b, uv.ownBlock = some b → b < U.heap.size ∧ b ≠ p ∧ b ≠ bb ∧ ∀ j, j < s.bx.length → (el xs j).ownBlock ≠ some b := fun b hb => h.apart (.inr (.inr hb))
 refine ⟨⟨(h.box.keep hG.size kp).set 7 v', h.hnd.keep (hkp bb h.hnd.size (fun e => h.pbb e.symm) (fun e => (hme bb e).2.2.1 rfl)) (fun j hj b hb => hkp b (own_block_lt (h.hnd.row j hj) hb).2 (fun e => h.px j hj (by rw [← e]; exact hb)) (fun e => (hme b e).2.2.2 j hj hb)), own_keep h.emo fun b hb => hkp b (own_block_lt h.emo hb).2 (fun e => h.pe (by rw [← e]; exact hb)) (own_ty h.emo h.fuo (by decide) hb), own_keep h.fao fun b hb => hkp b (own_block_lt h.fao hb).2 (fun e => h.pf (by rw [← e]; exact hb)) (own_ty h.fao h.fuo (by decide) hb), own_keep hO fun b hb => Below.heap_setCell _ _ _ _ (fun e => hpv (by have e' : b = p := e; rw [← e']; exact hb)), h.lop, h.lob, h.pbb, h.px, h.pe, h.pf, hpv⟩, fun b hb => ?_, hB.setCell (p := ⟨p, 7, none⟩) h.lop _, fun b hb hO => hkp b hb (fun e => hO (.inl e)) (fun e => hO (.inr (.inr (.inr (.inr (.inr e))))))⟩
 rcases hb with hb | hb | hb | hb | hb | hb
 ·exact .inl (.inl hb)
 ·exact .inl (.inr (.inl hb))
 ·exact .inl (.inr (.inr (.inl hb)))
 ·exact .inl (.inr (.inr (.inr (.inl hb))))
 ·exact .inl (.inr (.inr (.inr (.inr (.inl hb)))))
 ·rcases hw b hb with hb | h1
  ·exact .inl (.inr (.inr (.inr (.inr (.inr hb)))))
  ·exact .inr h1
theorem FlowS.putTi {lo : Nat} {U : World} {p bb : Nat} {gv : Value} {xs : List Value} {ev fv uv : Value} {s : PP} (h : FlowS lo U p bb gv xs ev fv uv s) (x : Int) :
  FX lo p gv (FO p bb xs ev fv uv) U (U.setCell ⟨p, 1, none⟩ (.int .i64 x)) bb xs ev fv uv { s with ti := x } := by
 have hkp : ∀ b, b ≠ p → (U.setCell ⟨p, 1, none⟩ (.int .i64 x)).heap[b]? = U.heap[b]? := fun b h2 => Below.heap_setCell _ _ _ _ h2
 exact ⟨⟨h.box.set 1 _, h.hnd.keep (hkp bb (fun e => h.pbb e.symm)) (fun j hj b hb => hkp b (fun e => h.px j hj (by rw [← e]; exact hb))), own_keep h.emo fun b hb => hkp b (fun e => h.pe (by rw [← e]; exact hb)), own_keep h.fao fun b hb => hkp b (fun e => h.pf (by rw [← e]; exact hb)), own_keep h.fuo fun b hb => hkp b (fun e => h.pu (by rw [← e]; exact hb)), h.lop, h.lob, h.pbb, h.px, h.pe, h.pf, h.pu⟩, fun b hb => .inl hb, (Below.refl _ _).setCell (p := ⟨p, 1, none⟩) h.lop _, fun b _ hO => hkp b (fun e => hO (.inl e))⟩
theorem FlowS.putIt {lo : Nat} {U : World} {p bb : Nat} {gv : Value} {xs : List Value} {ev fv uv : Value} {s : PP} (h : FlowS lo U p bb gv xs ev fv uv s) (x : Int) :
  FX lo p gv (FO p bb xs ev fv uv) U (U.setCell ⟨p, 2, none⟩ (.int .i64 x)) bb xs ev fv uv { s with it := x } := by
 have hkp : ∀ b, b ≠ p → (U.setCell ⟨p, 2, none⟩ (.int .i64 x)).heap[b]? = U.heap[b]? := fun b h2 => Below.heap_setCell _ _ _ _ h2
 exact ⟨⟨h.box.set 2 _, h.hnd.keep (hkp bb (fun e => h.pbb e.symm)) (fun j hj b hb => hkp b (fun e => h.px j hj (by rw [← e]; exact hb))), own_keep h.emo fun b hb => hkp b (fun e => h.pe (by rw [← e]; exact hb)), own_keep h.fao fun b hb => hkp b (fun e => h.pf (by rw [← e]; exact hb)), own_keep h.fuo fun b hb => hkp b (fun e => h.pu (by rw [← e]; exact hb)), h.lop, h.lob, h.pbb, h.px, h.pe, h.pf, h.pu⟩, fun b hb => .inl hb, (Below.refl _ _).setCell (p := ⟨p, 2, none⟩) h.lop _, fun b _ hO => hkp b (fun e => hO (.inl e))⟩
theorem FlowS.putCl {lo : Nat} {U : World} {p bb : Nat} {gv : Value} {xs : List Value} {ev fv uv : Value} {s : PP} (h : FlowS lo U p bb gv xs ev fv uv s) (x : Bool) :
  FX lo p gv (FO p bb xs ev fv uv) U (U.setCell ⟨p, 3, none⟩ (.bool x)) bb xs ev fv uv { s with cl := x } := by
 have hkp : ∀ b, b ≠ p → (U.setCell ⟨p, 3, none⟩ (.bool x)).heap[b]? = U.heap[b]? := fun b h2 => Below.heap_setCell _ _ _ _ h2
 exact ⟨⟨h.box.set 3 _, h.hnd.keep (hkp bb (fun e => h.pbb e.symm)) (fun j hj b hb => hkp b (fun e => h.px j hj (by rw [← e]; exact hb))), own_keep h.emo fun b hb => hkp b (fun e => h.pe (by rw [← e]; exact hb)), own_keep h.fao fun b hb => hkp b (fun e => h.pf (by rw [← e]; exact hb)), own_keep h.fuo fun b hb => hkp b (fun e => h.pu (by rw [← e]; exact hb)), h.lop, h.lob, h.pbb, h.px, h.pe, h.pf, h.pu⟩, fun b hb => .inl hb, (Below.refl _ _).setCell (p := ⟨p, 3, none⟩) h.lop _, fun b _ hO => hkp b (fun e => hO (.inl e))⟩
theorem FStepS.refl {lo : Nat} {W : World} {p bb : Nat} {gv : Value} {xs : List Value} {ev fv uv : Value} {s : PP} (h : FlowS lo W p bb gv xs ev fv uv s) : FStepS lo p gv (FO p bb xs ev fv uv) W W s :=
 ⟨_, ⟨bb, xs, ev, fv, uv, h, fun _ hb => hb⟩, fun _ hb => .inl hb, Below.refl _ _, fun _ _ _ => rfl⟩
theorem FStepS.start {lo : Nat} {W V W2 : World} {p bb : Nat} {gv : Value} {xs : List Value} {ev fv uv : Value} {s s2 : PP} (h : FlowS lo W p bb gv xs ev fv uv s) (hb : Below W.heap.size W V) (h2 : FStepS lo p gv (FO p bb xs ev fv uv) V W2 s2) : FStepS lo p gv (FO p bb xs ev fv uv) W W2 s2 := by
 obtain ⟨O2, f2, hs2, hb2, hk2⟩ := h2;have hlo : lo ≤ W.heap.size := Nat.le_of_lt (Nat.lt_of_le_of_lt h.lop h.box.size);have hz := hb.size;refine ⟨O2, f2, fun b h1 => ?_, (hb.mono hlo).trans hb2, fun b h1 h3 => (hk2 b (by omega) h3).trans (hb.block b h1)⟩
 rcases hs2 b h1 with h4 | h4
 ·exact .inl h4
 ·exact .inr (by omega)
theorem FStepS.same {lo : Nat} {W V : World} {p bb : Nat} {gv : Value} {xs : List Value} {ev fv uv : Value} {s : PP} (h : FlowS lo W p bb gv xs ev fv uv s) (hb : Below W.heap.size W V) : FStepS lo p gv (FO p bb xs ev fv uv) W V s := FStepS.start h hb (FStepS.refl (h.later hb))
/-- A token's tries are written in its box. -/
theorem FlowS.putTry {lo : Nat} {U : World} {p bb g c k : Nat} {gv : Value} {xs : List Value} {ev fv uv : Value} {s : PP} {t1 t2 t3 : Int} {r : List (Int × Int × Int)} (h : FlowS lo U p bb gv xs ev fv uv s) (hk : k < s.bx.length) (hr : el s.bx k = (t1, t2, t3) :: r) (hg : el xs k = .slice (some ⟨g, 0, none⟩) (r.length + 1) c) (x : Int) :
  FlowS lo (U.setCell ⟨g, 2, none⟩ (.int .i64 x)) p bb gv xs ev fv uv { s with bx := s.bx.set k ((t1, t2, x) :: r) } := by
 have hgo : (el xs k).ownBlock = some g := by rw [hg]; rfl
 have hkp : ∀ b, b ≠ g → (U.setCell ⟨g, 2, none⟩ (.int .i64 x)).heap[b]? = U.heap[b]? := fun b hb => Below.heap_setCell _ _ _ _ hb
 have hrow := h.hnd.row k hk;rw [hr, hg] at hrow;have hst : kTk.Own (bb + 1) (U.setCell ⟨g, 2, none⟩ (.int .i64 x)) (.slice (some ⟨g, 0, none⟩) (r.length + 1) c) ((t1, t2, x) :: r) := by
  have := (World.ownsRow.stored (h := hrow) 2 (.int .i64 x)).1;exact this
 have hlen : (s.bx.set k ((t1, t2, x) :: r)).length = s.bx.length := List.length_set;have hT : (totT (s.bx.set k ((t1, t2, x) :: r)) : Int) = totT s.bx := by
  have := totT_set (ls := s.bx) (k := k) ((t1, t2, x) :: r) hk;rw [hr] at this;simp only [List.length_cons] at this
  omega
 refine h.turn ?_ ⟨by rw [hlen]; exact h.hnd.len, ?_, fun j hj => ?_, fun i j hij hj => h.hnd.off i j hij (by rw [hlen] at hj; exact hj)⟩ (fun b hb => hkp b (fun e => (h.apart hb).2.2.2 k hk (by rw [e]; exact hgo))) (fun j hj => h.px j (by rw [hlen] at hj; exact hj))
 ·rw [hlen];exact h.box.other (fun e => h.px k hk (by rw [← e]; exact hgo)) _
 ·rw [hlen];exact owns_block h.hnd.head (hkp bb (fun e => h.bbx hk (by rw [e]; exact hgo)))
 ·rw [hlen] at hj
  by_cases e : j = k
  ·subst e;rw [el_set_same hk, hg]; exact hst
  ·rw [el_set_far e];refine own_keep (h.hnd.row j hj) fun b hb => hkp b (fun e2 => ?_)
   rw [e2] at hb
   rcases Nat.lt_or_ge j k with hjk | hjk
   ·exact h.hnd.off j k hjk hk g hb hgo
   ·exact h.hnd.off k j (by omega) hj g hgo hb
theorem FlowS.keep {lo : Nat} {W W' : World} {p bb : Nat} {gv : Value} {xs : List Value} {ev fv uv : Value} {s : PP} (h : FlowS lo W p bb gv xs ev fv uv s) (hs : W.heap.size ≤ W'.heap.size) (hk : ∀ b, FO p bb xs ev fv uv b → W'.heap[b]? = W.heap[b]?) : FlowS lo W' p bb gv xs ev fv uv s :=
 ⟨h.box.keep hs (hk p (.inl rfl)), h.hnd.keep (hk bb (.inr (.inl rfl))) (fun j hj b hb => hk b (.inr (.inr (.inl ⟨j, by rw [h.hnd.len]; exact hj, hb⟩)))), own_keep h.emo (fun b hb => hk b (.inr (.inr (.inr (.inl hb))))), own_keep h.fao (fun b hb => hk b (.inr (.inr (.inr (.inr (.inl hb)))))), own_keep h.fuo (fun b hb => hk b (.inr (.inr (.inr (.inr (.inr hb)))))), h.lop, h.lob, h.pbb, h.px, h.pe, h.pf, h.pu⟩
/-- The codes lie apart from the flow, and behind a move too. -/
theorem FStepS.codes {lo p : Nat} {gv : Value} {W W1 : World} {bb : Nat} {xs : List Value} {ev fv uv : Value} {s : PP} {v : Value} {l : List Int} (h : FStepS lo p gv (FO p bb xs ev fv uv) W W1 s) (ho : kI.Own lo W v l) (ha : ∀ b, v.ownBlock = some b → ¬ FO p bb xs ev fv uv b) :
  ∃ bb2 xs2 ev2 fv2 uv2, FlowS lo W1 p bb2 gv xs2 ev2 fv2 uv2 s ∧ kI.Own lo W1 v l ∧ (∀ b, v.ownBlock = some b → ¬ FO p bb2 xs2 ev2 fv2 uv2 b) ∧ Below lo W W1 := by
 obtain ⟨bb2, xs2, ev2, fv2, uv2, F, hk, hb, hn, _⟩ := h.next;refine ⟨bb2, xs2, ev2, fv2, uv2, F, own_keep ho (fun b hb2 => hk b (own_block_lt ho hb2).2 (ha b hb2)), fun b hb2 hO => ?_, hb⟩
 rcases hn b hO with h1 | h1
 ·exact ha b hb2 h1
 ·have := (own_block_lt ho hb2).2; omega
/-- A code is put behind the codes: the flow is as it was. -/
theorem FlowS.code {lo : Nat} {W W' : World} {p bb : Nat} {gv : Value} {xs : List Value} {ev fv uv : Value} {s : PP} {v v' : Value} (h : FlowS lo W p bb gv xs ev fv uv s) (ha : ∀ b, v.ownBlock = some b → ¬ FO p bb xs ev fv uv b) (hg : W.grownBy W' v.ownBlock) (hw : ∀ b, v'.ownBlock = some b → v.ownBlock = some b ∨ W.heap.size ≤ b) :
  FlowS lo W' p bb gv xs ev fv uv s ∧ (∀ b, v'.ownBlock = some b → ¬ FO p bb xs ev fv uv b) := by
 refine ⟨h.keep hg.size fun b hb => hg.block b (h.old hb) (fun e => ha b e.symm hb), fun b hb hO => ?_⟩
 rcases hw b hb with h1 | h1
 ·exact ha b h1 hO
 ·have := h.old hO; omega
/-- A row of tokens has turned (it grew, or another lies in its place); its head is written. -/
theorem FlowS.putRow {lo : Nat} {U w2 : World} {p bb k : Nat} {gv : Value} {xs : List Value} {ev fv uv v' : Value} {s : PP} {L : List (Int × Int × Int)} (h : FlowS lo U p bb gv xs ev fv uv s) (hk : k < s.bx.length) (hO : kTk.Own (bb + 1) w2 v' L) (hB : Below lo U w2) (hG : U.grownBy w2 (el xs k).ownBlock) (hw : ∀ b, v'.ownBlock = some b → (el xs k).ownBlock = some b ∨ U.heap.size ≤ b) :
  FX lo p gv (FO p bb xs ev fv uv) U (w2.setCell ⟨bb, k, none⟩ v') bb (xs.set k v') ev fv uv { s with bx := s.bx.set k L } := by
 have hp := h.box.size;have hbb := h.hnd.size;have hxk : k < xs.length := by rw [h.hnd.len]; exact hk
 have kp : w2.heap[p]? = U.heap[p]? := hG.block p hp (fun e => h.px k hk e.symm);have hpw : ∀ j, j < (s.bx.set k L).length → (el (xs.set k v') j).ownBlock ≠ some p := fun j hj => by
  rw [List.length_set] at hj
  by_cases e : j = k
  ·subst e;rw [el_set_same hxk];intro hb
   rcases hw p hb with h1 | h1
   ·exact h.px j hk h1
   ·omega
  ·rw [el_set_far e]; exact h.px j hj
 have hnd3 : HandsT bb (w2.setCell ⟨bb, k, none⟩ v') (xs.set k v') (s.bx.set k L) := h.hnd.put hk hO hG hw;have hbx3 := (h.box.keep hG.size kp).other (a := ⟨bb, k, none⟩) (fun e => h.pbb e.symm) v';have hkeep : ∀ b, b < U.heap.size → b ≠ bb → (el xs k).ownBlock ≠ some b → (w2.setCell ⟨bb, k, none⟩ v').heap[b]? = U.heap[b]? := fun b h1 h3 h4 => by
  rw [Below.heap_setCell _ _ _ _ h3];exact hG.block b h1 (fun e => h4 e.symm)
 refine ⟨h.turn ?_ hnd3 (fun b hb => ?_) hpw, fun b hb => ?_, hB.setCell (p := ⟨bb, k, none⟩) h.lob _, fun b hb hO => ?_⟩
 ·rw [List.length_set]; exact hbx3
 ·obtain ⟨a1, a2, a3, a4⟩ := h.apart hb;exact hkeep b a1 a3 (a4 k hk)
 ·rcases hb with hb | hb | ⟨j, hj, hb⟩ | hb | hb | hb
  ·exact .inl (.inl hb)
  ·exact .inl (.inr (.inl hb))
  ·rw [List.length_set] at hj
   by_cases e : j = k
   ·subst e;rw [el_set_same hxk] at hb
    rcases hw b hb with h1 | h1
    ·exact .inl (.inr (.inr (.inl ⟨j, hj, h1⟩)))
    ·exact .inr h1
   ·rw [el_set_far e] at hb;exact .inl (.inr (.inr (.inl ⟨j, hj, hb⟩)))
  ·exact .inl (.inr (.inr (.inr (.inl hb))))
  ·exact .inl (.inr (.inr (.inr (.inr (.inl hb)))))
  ·exact .inl (.inr (.inr (.inr (.inr (.inr hb)))))
 ·exact hkeep b hb (fun e => hO (.inr (.inl e))) (fun e => hO (.inr (.inr (.inl ⟨k, hxk, e⟩))))
/-- A block between is written: the flow is as it was. -/
theorem FX.set3 {lo : Nat} {W V W1 : World} {p bb bb2 : Nat} {gv : Value} {xs xs2 : List Value} {ev fv uv ev2 fv2 uv2 : Value} {s s2 : PP} (h : FlowS lo W p bb gv xs ev fv uv s) (hb : Below W.heap.size W V) (h2 : FX lo p gv (FO p bb xs ev fv uv) V W1 bb2 xs2 ev2 fv2 uv2 s2) {q : Nat} (h1 : W.heap.size ≤ q) (hq : q < V.heap.size) (u0 u1 u2 : Value) :
  FX lo p gv (FO p bb xs ev fv uv) W (((W1.setCell ⟨q, 0, none⟩ u0).setCell ⟨q, 1, none⟩ u1).setCell ⟨q, 2, none⟩ u2) bb2 xs2 ev2 fv2 uv2 s2 := by
 have hn : ¬ FO p bb2 xs2 ev2 fv2 uv2 q := fun e => by
  rcases h2.old q e with h3 | h3
  ·exact h.far h1 h3
  ·omega
 have hlo : lo ≤ q := Nat.le_trans h.lo_le h1;have hz := hb.size;have h3 := FX.start h hb h2;refine ⟨((h3.flow.setFar (a := ⟨q, 0, none⟩) hn u0).setFar (a := ⟨q, 1, none⟩) hn u1).setFar (a := ⟨q, 2, none⟩) hn u2, h3.old, ((h3.low.setCell (p := ⟨q, 0, none⟩) hlo _).setCell (p := ⟨q, 1, none⟩) hlo _).setCell (p := ⟨q, 2, none⟩) hlo _, fun b h4 h5 => ?_⟩;have hbq : b ≠ q := by omega
 rw [Below.heap_setCell _ _ _ _ hbq, Below.heap_setCell _ _ _ _ hbq, Below.heap_setCell _ _ _ _ hbq];exact h3.kept b h4 h5
end
section
open Go.RowKit

set_option maxRecDepth 100000 in
set_option maxHeartbeats 2000000 in
theorem firstS_any (lo : Nat) (W : World) (p bb : Nat) (gv : Value) (xs : List Value) (ev fv uv : Value) (s : PP) (k : Nat) (t1 t2 t3 : Int) (r : List (Int × Int × Int)) (h : FlowS lo W p bb gv xs ev fv uv s) (hk : k < s.bx.length) (hr : el s.bx k = (t1, t2, t3) :: r) (ht : totT s.bx ≤ 100000) :
  Calls Tryz.prog 96 #[.pointer (some ⟨p, 0, none⟩), .int .i64 (k : Int)] W fun e W' => e = .returned (.agg #[.int .i64 t1, .int .i64 t2, .int .i64 t3]) ∧ FStepS lo p gv (FO p bb xs ev fv uv) W W' { s with bx := s.bx.set k r } := by
 have hp := h.box.size;have hbb := h.hnd.size;have hxk : k < xs.length := by rw [h.hnd.len]; exact hk
 have hTe := totT_el hk;obtain ⟨ho, hc, hsl, hcn, hFr⟩ := h.hnd.slice hk;rw [hr] at hsl hFr hTe;obtain ⟨g, rfl, hg1, hg2, hg3, hgo⟩ := hFr.at (by simp);have hIn := hFr.in;have hcap : r.length + 1 ≤ hc := by have := hFr.cap; simpa using this
 simp only [List.length_cons] at hsl hTe;have hb0 := below2 W (.cells #[.int .i64 0, .int .i64 0, .int .i64 0] 112) (.cells #[.int .i64 t1, .int .i64 t2, .int .i64 t3] 112);have F0 := h.later hb0;have T0 := (Bx.new (w := W) [.int .i64 0, .int .i64 0, .int .i64 0] 112 rfl).alloc (.cells #[.int .i64 t1, .int .i64 t2, .int .i64 t3] 112);have T1 := Bx.new (w := W.alloc (.cells #[.int .i64 0, .int .i64 0, .int .i64 0] 112)) [.int .i64 t1, .int .i64 t2, .int .i64 t3] 112 rfl;obtain ⟨V, hV⟩ : ∃ V, V = (W.alloc (.cells #[.int .i64 0, .int .i64 0, .int .i64 0] 112)).alloc (.cells #[.int .i64 t1, .int .i64 t2, .int .i64 t3] 112) := ⟨_, rfl⟩;have hsz1 : (W.alloc (.cells #[.int .i64 0, .int .i64 0, .int .i64 0] 112)).heap.size = W.heap.size + 1 := by simp
 rw [← hV] at hb0 F0 T0 T1;rw [hsz1] at T1;have hI0 := hIn.later hb0;have HV := hid hV;have c4 := F0.box.c 4 rfl;have ck := (F0.head hk).1;rw [hsl] at ck;have hki : (k : Int) < (s.bx.length : Int) := by omega
 have hVs : V.heap.size = W.heap.size + 2 := by rw [hV]; simp
 have HVs := hid hVs;have HF0 := hid F0;have HB0 := hid hb0;have HT0 := hid T0;have HT1 := hid T1;have hle1 : (1 : Int) ≤ (r.length : Int) + 1 := by omega
 have hI1 : kTk.In V.heap.size V (if hc = 1 then some ⟨g, 0, none⟩ else some ⟨g, 3, none⟩) r := by
  by_cases h0 : r.length = 0
  ·exact .inl (List.length_eq_zero_iff.1 h0)
  ·rw [if_neg (by omega)];obtain ⟨b, off, e, hb, hcs⟩ := kTk_at hI0 (k := 0) (by simp)
   simp at e
   obtain ⟨rfl, rfl⟩ := e;refine .inr ⟨g, 3, rfl, hb, fun j hj i hi => ?_⟩;have hcj := hcs (j + 1) (by simp; omega);have ej : el ((t1, t2, t3) :: r) (j + 1) = el r j := by simp [el]
   rw [ej] at hcj;have hi' : i < 3 := hi;have e0 : 0 + (j + 1) * 3 = 3 + j * 3 := by omega
   rw [e0] at hcj
   rcases (show i = 0 ∨ i = 1 ∨ i = 2 from by omega) with rfl | rfl | rfl
   ·exact hcj.1
   ·exact hcj.2.1
   ·exact hcj.2.2
 have c4w := h.box.c 4 rfl;have ckw := (h.head hk).1;rw [hsl] at ckw;obtain ⟨b0, off0, e0, hbl, hcs⟩ := kTk_at hIn (k := 0) (by simp)
 simp at e0
 obtain ⟨rfl, rfl⟩ := e0;have d0 : W.cell? ⟨g, 0, none⟩ = some (.int .i64 t1) := (hcs 0 (by simp)).1;have d1 : W.cell? ⟨g, 1, none⟩ = some (.int .i64 t2) := (hcs 0 (by simp)).2.1;have d2 : W.cell? ⟨g, 2, none⟩ = some (.int .i64 t3) := (hcs 0 (by simp)).2.2;have hr1 : (0 : Int) < ((r.length + 1 : Nat) : Int) := by omega
 have HI1 := hid hI1;have HCK := hid (And.intro c4 ck);have HSL := hid hsl;clear hV hb0 F0 T0 T1 hI1 hI0 hIn hFr hgo hcs hsz1 c4 ck hVs hsl;go_enter Tryz.func96, Tryz.ntmps96;go_wp2;rw [← HV.out];clear c4w ckw d0 d1 d2;refine wp_walks (zl := [18]) (S := fun Y => Y.cell? ⟨p, 4, none⟩ = some (.slice (some ⟨bb, 0, none⟩) s.bx.length s.bx.length) ∧ Y.cell? ⟨bb, k, none⟩ = some (.slice (some ⟨g, 0, none⟩) (r.length + 1) hc)) (by kernel_rfl) HCK.out (fun hH => ?_);refine Walks.tk 0 hH ?_;refine Walks.tk 1 hH ?_;refine Walks.tk 2 hH ?_;refine Walks.tk 3 hH ?_;refine Walks.tk 4 hH ?_;refine Walks.tk 5 hH ?_;refine Walks.tk 7 hH ?_;refine Walks.tk 8 hH ?_;refine Walks.tk 9 hH ?_;refine Walks.tk 10 hH ?_;refine Walks.tk 11 hH ?_;refine Walks.tk 12 hH ?_;refine Walks.tk 13 hH ?_;refine Walks.tk 14 hH ?_;refine Walks.tk 15 hH ?_;refine Walks.on 6 fun K hK => ?_
 go_simp;obtain ⟨U, hU⟩ : ∃ U, U = (V.alloc (.cells #[] 112)).drew := ⟨_, rfl⟩;rw [← hU];have hbU : Below V.heap.size V U := by rw [hU]; exact (below1 V _).drew
 have hOU : kTk.Own (bb + 1) U (.slice (some ⟨V.heap.size, 0, none⟩) 0 0) [] := by rw [hU]; exact (Kind.Own.new kTk (bb + 1) V (by have := HVs.out; omega)).below (Below.refl _ _).drew
 have CU : U.cell? ⟨p, 4, none⟩ = some (.slice (some ⟨bb, 0, none⟩) s.bx.length s.bx.length) ∧ U.cell? ⟨bb, k, none⟩ = some (.slice (some ⟨g, 0, none⟩) (r.length + 1) hc) := by
  have hz := HVs.out;exact ⟨(hbU.cell (p := ⟨p, 4, none⟩) (by dsimp only; omega)).trans HCK.out.1, (hbU.cell (p := ⟨bb, k, none⟩) (by dsimp only; omega)).trans HCK.out.2⟩
 have hIU := HI1.out.later hbU;refine hK.out _ _ (fun _ => CU) (fun _ => ?_);clear hK K hU;refine Walks.on 16 fun K hK => ?_
 refine Kind.appZ kTk_ok U (by rfl) (.tmp 22) (.tmp 31) (by rfl) (bb + 1) (.slice (some ⟨V.heap.size, 0, none⟩) 0 0) [] (by rfl) hOU (by have := hbU.size; have := HVs.out; omega) (if hc = 1 then some ⟨g, 0, none⟩ else some ⟨g, 3, none⟩) r r.length (hc - 1) (by first | rfl | kernel_rfl | (go_simp; done) | (go_simp; rfl)) rfl (by split <;> simp) _ hIU (by simp; omega) ?_;intro v' w2 hO2 hB2 hG2 hw2;rw [List.nil_append] at hO2;obtain ⟨vo, vc, hv', _, _⟩ := hO2.fresh;have hb2 : Below V.heap.size V w2 := by
  have hz := hbU.size;refine ⟨hG2.os.trans hbU.os, hG2.tape.trans hbU.tape, hG2.output.trans hbU.output, Nat.le_trans hz hG2.size, fun b hb => (hG2.block b (by omega) (fun e => ?_)).trans (hbU.block b hb)⟩
  simp [Value.ownBlock] at e
  omega
 have C2 : w2.cell? ⟨p, 4, none⟩ = some (.slice (some ⟨bb, 0, none⟩) s.bx.length s.bx.length) ∧ w2.cell? ⟨bb, k, none⟩ = some (.slice (some ⟨g, 0, none⟩) (r.length + 1) hc) := by
  have hz := HVs.out;exact ⟨(hb2.cell (p := ⟨p, 4, none⟩) (by dsimp only; omega)).trans HCK.out.1, (hb2.cell (p := ⟨bb, k, none⟩) (by dsimp only; omega)).trans HCK.out.2⟩
 have F2 := HF0.out.later hb2;have cB := C2.2;have fB := (F2.head hk).2;have hw3 : ∀ b, v'.ownBlock = some b → V.heap.size ≤ b := fun b hb => by
  rcases hw2 b hb with h1 | h1
  ·simp [Value.ownBlock] at h1; omega
  ·have := hbU.size; omega
 have HFX := hid (FX.set3 h HB0.out (HF0.out.putRow hk (L := r) hO2 (hb2.mono (by have := HF0.out.lo_le; exact this)) ⟨hb2.os, hb2.tape, hb2.output, hb2.size, fun b h1 _ => hb2.block b h1⟩ (fun b hb => .inr (hw3 b hb))) (q := W.heap.size) (Nat.le_refl _) (by have := HVs.out; omega) (.int .i64 t1) (.int .i64 t2) (.int .i64 t3));have HT2 := hid (HT0.out.later hb2);have HT3 := hid (HT1.out.later hb2);refine hK.out _ _ (fun _ => C2) (fun _ => ?_);clear hK K;refine Walks.tk 17 C2 ?_;refine Walks.on 18 fun K hK => ?_
 rw [hv'] at HFX;rw [hv'];go_simp;refine hK.out _ _ (fun h => absurd h (by decide)) (fun _ => ?_);refine Walks.done (by kernel_rfl) ?_ _;clear hK K;have hqb : bb ≠ W.heap.size ∧ bb ≠ W.heap.size + 1 := by omega
 have x0 := (HT3.out.other (a := ⟨bb, k, none⟩) hqb.2 (.slice vo r.length vc)).c 0 rfl;have x1 := (HT3.out.other (a := ⟨bb, k, none⟩) hqb.2 (.slice vo r.length vc)).c 1 rfl;have x2 := (HT3.out.other (a := ⟨bb, k, none⟩) hqb.2 (.slice vo r.length vc)).c 2 rfl;have y0 := (HT2.out.other (a := ⟨bb, k, none⟩) hqb.1 (.slice vo r.length vc)).c 0 rfl;have y1 := (HT2.out.other (a := ⟨bb, k, none⟩) hqb.1 (.slice vo r.length vc)).c 1 rfl;have y2 := (HT2.out.other (a := ⟨bb, k, none⟩) hqb.1 (.slice vo r.length vc)).c 2 rfl;have z0 := (HT2.out.other (a := ⟨bb, k, none⟩) hqb.1 (.slice vo r.length vc)).f 0 rfl;have z1 := (HT2.out.other (a := ⟨bb, k, none⟩) hqb.1 (.slice vo r.length vc)).f 1 rfl;have z2 := (HT2.out.other (a := ⟨bb, k, none⟩) hqb.1 (.slice vo r.length vc)).f 2 rfl;obtain ⟨w3, h3⟩ : ∃ w3, w3 = w2.setCell ⟨bb, k, none⟩ (.slice vo r.length vc) := ⟨_, rfl⟩;rw [← h3] at x0 x1 x2 y0 y1 y2 z0 z1 z2 HFX ⊢;clear h3 cB fB C2 hO2 hB2 hG2 hw2 hb2 F2 HT2 HT3;go_wp2
 all_goals exact bodyPost_ret (v := .agg #[.int .i64 t1, .int .i64 t2, .int .i64 t3]) (by simp [results, Tryz.results96, go_sem, y0, y1, y2]) rfl ⟨rfl, HFX.out.step⟩
end
end Go.Proofs.YtllmpinmbajpgaaGreatDoor
