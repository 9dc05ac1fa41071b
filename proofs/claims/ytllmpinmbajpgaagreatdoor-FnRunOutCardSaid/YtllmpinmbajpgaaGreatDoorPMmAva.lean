
/- What is emitted, as the program says it: emitsOf. No conditions but those written. The program's account of an item. No conditions but those written. -/
import Derived.Test.YtllmpinmbajpgaaGreatDoorPMjMk
import Derived.Test.YtllmpinmbajpgaaGreatDoorPFoRz
import Derived.Test.YtllmpinmbajpgaaGreatDoorPZhTr3
import Derived.Test.YtllmpinmbajpgaaGreatDoorPCvaMi
import Derived.Test.YtllmpinmbajpgaaGreatDoorPYtYb
namespace Go.Proofs.YtllmpinmbajpgaaGreatDoor
section
open Go.RowKit

/-- A row of ints that lies apart from all that emitsOf writes. -/
structure ApR (g : Nat) (W : World) (xs : List Value) (n : Nat) (ev : Value) (qo : Option Addr) (q : List Int) : Prop where
 row : kI.In W.heap.size W qo q
 off : 0 < q.length → ∀ b o, qo = some ⟨b, o, none⟩ → b ≠ g ∧ ev.ownBlock ≠ some b ∧ ∀ j, j < n → (el xs j).ownBlock ≠ some b
theorem ApR.later {g n : Nat} {W W' : World} {xs : List Value} {ev : Value} {qo : Option Addr} {q : List Int} (h : ApR g W xs n ev qo q) (hb : Below W.heap.size W W') : ApR g W' xs n ev qo q := ⟨h.row.later hb, h.off⟩
theorem ApR.new {g : Nat} {W W' : World} {xs : List Value} {I : List (List Int)} {ev : Value} {em : List (Int × Int)} {qo : Option Addr} {qc : Nat} {q : List Int} (h : EmI g W xs I ev em) (hF : kI.Fresh W.heap.size W'.heap.size W' qo qc q) : ApR g W' xs I.length ev qo q := by
 refine ⟨hF.in, fun h0 b o e => ?_⟩
 rcases hF with h1 | ⟨g5, e5, _, ho5⟩
 ·rw [h1] at h0; simp at h0
 ·rw [e] at e5
  simp at e5
  have h3 := (owns_lt ho5).1;refine ⟨fun e' => ?_, fun e' => ?_, fun j hj e' => ?_⟩
  ·have := h.hands.size; omega
  ·have := (own_block_lt h.em e').2; omega
  ·have := (own_block_lt (h.hands.row j hj) e').2; omega
theorem in_blocks {n : Nat} {W W' : World} {qo : Option Addr} {q : List Int} (hz : kI.In W.heap.size W qo q) (hs : W.heap.size ≤ n) (hk : 0 < q.length → ∀ b o, qo = some ⟨b, o, none⟩ → b < W.heap.size → W'.heap[b]? = W.heap[b]?) : kI.In n W' qo q := by
 rcases Nat.eq_zero_or_pos q.length with h0 | h0
 ·exact .inl (List.length_eq_zero_iff.1 h0)
 rcases hz with h | ⟨b, off, e, hb, hc⟩
 ·exact .inl h
 ·exact .inr ⟨b, off, e, Nat.lt_of_lt_of_le hb hs, fun j hj i hi => (World.cell?_of_block (a := ⟨b, off + j * kI.sz + i, none⟩) (hk h0 b off e hb)).trans (hc j hj i hi)⟩
theorem ApR.put {g t n : Nat} {W W' : World} {xs : List Value} {ev v : Value} {qo : Option Addr} {q : List Int} (h : ApR g W xs n ev qo q) (ht : t < n) (hx : t < xs.length) (hG : W.grownBy W' (el xs t).ownBlock) (hw : ∀ b, v.ownBlock = some b → (el xs t).ownBlock = some b ∨ W.heap.size ≤ b) : ApR g (W'.setCell ⟨g, t, none⟩ v) (xs.set t v) n ev qo q := by
 refine ⟨in_blocks h.row (by have := hG.size; simpa [World.setCell] using this) fun h0 b o e hb => ?_, fun h0 b o e => ?_⟩
 ·have ha := h.off h0 b o e;rw [Below.heap_setCell _ _ _ _ (by exact ha.1)];exact hG.block b hb fun e' => ha.2.2 t ht e'.symm
 ·have ha := h.off h0 b o e;refine ⟨ha.1, ha.2.1, fun j hj => ?_⟩
  by_cases e1 : j = t
  ·subst e1;rw [el_set_same hx];intro hvb
   rcases hw b hvb with h1 | h1
   ·exact ha.2.2 j ht h1
   ·rcases h.row with h2 | ⟨b', o', e', hb', _⟩
    ·rw [h2] at h0; simp at h0
    ·cases e.symm.trans e'; omega
  ·rw [el_set_far e1]; exact ha.2.2 j hj
theorem ApR.emit {g n : Nat} {W W' : World} {xs : List Value} {ev ev' : Value} {qo : Option Addr} {q : List Int} (h : ApR g W xs n ev qo q) (hG : W.grownBy W' ev.ownBlock) (hw : ∀ b, ev'.ownBlock = some b → ev.ownBlock = some b ∨ W.heap.size ≤ b) : ApR g W' xs n ev' qo q := by
 refine ⟨in_blocks h.row hG.size fun h0 b o e hb => hG.block b hb fun e' => (h.off h0 b o e).2.1 e'.symm, fun h0 b o e => ⟨(h.off h0 b o e).1, fun e' => ?_, (h.off h0 b o e).2.2⟩⟩
 rcases hw b e' with h1 | h1
 ·exact (h.off h0 b o e).2.1 h1
 ·rcases h.row with h2 | ⟨b', o', e2, hb', _⟩
  ·rw [h2] at h0; simp at h0
  ·cases e.symm.trans e2; omega
/-- How a whole node is read. -/
def NW (n : Nat) (W : World) (ao : Option Addr) (gs : List PNode) : Prop := ∀ k, k < gs.length → ∃ b off nm cp nxo nxc, ao = some ⟨b, off, none⟩ ∧ b < n ∧ W.cell? ⟨b, off + k * 6, none⟩ = some (.string nm) ∧ W.cell? ⟨b, off + k * 6 + 1, none⟩ = some (.int .i64 (el gs k).2.1) ∧ W.cell? ⟨b, off + k * 6 + 2, none⟩ = some (.int .i64 (el gs k).2.2.1) ∧ W.cell? ⟨b, off + k * 6 + 3, none⟩ = some (.int .i64 (el gs k).2.2.2.1) ∧ W.cell? ⟨b, off + k * 6 + 4, none⟩ = some (.int .i64 cp) ∧ W.cell? ⟨b, off + k * 6 + 5, none⟩ = some (.slice nxo (nxP gs k).length nxc) ∧ kI.In n W nxo (nxP gs k)
theorem nw_of {n : Nat} {W : World} {ao : Option Addr} {ts : List LNode} (hz : DIn dNode n W ao ts) : NW n W ao (ts.map valNode) := fun k hk => by
 rw [val_len] at hk;obtain ⟨b, off, e, hb, hc⟩ := hNode_at hz.1 hk;have d := hc k hk;have hin := hz.2 k hk;have hev : nxP (ts.map valNode) k = (el ts k).2.2.2.2.2.2.2 := by rw [nxP, el_val hk]; rfl
 rw [hev, el_val hk];exact ⟨b, off, _, _, _, _, e, hb, d.1, d.2.1, d.2.2.1, d.2.2.2.1, d.2.2.2.2.1, d.2.2.2.2.2, hin⟩
theorem in_low {n : Nat} {W W' : World} {qo : Option Addr} {q : List Int} (hz : kI.In n W qo q) (hb : Below n W W') : kI.In n W' qo q := by
 rcases hz with h | ⟨b', o', e', hb', hc'⟩
 ·exact .inl h
 ·exact .inr ⟨b', o', e', hb', fun j hj i hi => (hb.cell (p := ⟨b', _, none⟩) hb').trans (hc' j hj i hi)⟩
theorem NW.below {n : Nat} {W W' : World} {ao : Option Addr} {gs : List PNode} (h : NW n W ao gs) (hb : Below n W W') : NW n W' ao gs := fun k hk => by
 obtain ⟨b, off, nm, cp, nxo, nxc, e, hbn, c0, c1, c2, c3, c4, c5, hi⟩ := h k hk;exact ⟨b, off, nm, cp, nxo, nxc, e, hbn, (hb.cell (p := ⟨b, _, none⟩) hbn).trans c0, (hb.cell (p := ⟨b, _, none⟩) hbn).trans c1, (hb.cell (p := ⟨b, _, none⟩) hbn).trans c2, (hb.cell (p := ⟨b, _, none⟩) hbn).trans c3, (hb.cell (p := ⟨b, _, none⟩) hbn).trans c4, (hb.cell (p := ⟨b, _, none⟩) hbn).trans c5, in_low hi hb⟩
theorem Hands.headAt {g k : Nat} {W : World} {xs : List Value} {ls : List (List Int)} (h : Hands g W xs ls) (hk : k < ls.length) : W.cell? ⟨g, k, none⟩ = some (el xs k) ∧ W.frozen? ⟨g, k, none⟩ = false := by
 have hx : k < xs.length := by rw [h.len]; exact hk
 refine ⟨(h.head.cellAt k (by omega)).trans ?_, h.head.frozenAt k⟩
 simp [el, hx]
theorem Hands.midAt {g k : Nat} {W W' : World} {xs : List Value} {ls : List (List Int)} (h : Hands g W xs ls) (hk : k < ls.length) (hG : W.grownBy W' (el xs k).ownBlock) : W'.cell? ⟨g, k, none⟩ = some (el xs k) ∧ W'.frozen? ⟨g, k, none⟩ = false := by
 have hx : k < xs.length := by rw [h.len]; exact hk
 have hm := h.mid hk hG;refine ⟨(hm.cellAt k (by omega)).trans ?_, hm.frozenAt k⟩
 simp [el, hx]
theorem own_oneI {lo : Nat} {W : World} {z : Int} (h : lo ≤ W.heap.size) : kI.Own lo (W.alloc (.cells #[.int .i64 z] 3)) (.slice (some ⟨W.heap.size, 0, none⟩) 1 1) [z] := by
 rcases fresh_one (z := z) h with h1 | ⟨g5, e5, _, ho5⟩
 ·simp at h1
 ·simp at e5
  subst e5;exact ho5
theorem Tryz.info30 : (Tryz.prog.info? 30).map (fun i => (i.zero, i.size, i.bytes)) = some (some (.slice none 0 0), 1, 24) := by kernel_rfl
set_option maxRecDepth 100000 in
set_option maxHeartbeats 8000000 in
theorem emitsOf_is (ao : Option Addr) (cap : Nat) (ts : List LNode) (w : World) (k0 : Nat) (v0 : Int) (hE : EdgesIn (ts.map valNode)) (hR : ¬ (orderP (ts.map valNode)).length < (ts.map valNode).length) (hS : GoodSts (ts.map valNode)) (hk0 : k0 < ts.length) (hv0 : valB v0 = true) (hw : widP (ts.map valNode) ≤ 100000) (hF : FitN ts) (hz : DIn dNode w.heap.size w ao ts) :
  Calls Tryz.prog 30 #[.slice ao ts.length cap, .int .i64 (k0 : Int), .int .i64 v0] w (AnsEm w (emitP (ts.map valNode) k0 v0)) := by
 obtain ⟨i0, hi, hz0, hz1, hz2⟩ := info_parts Tryz.info30;have hgl : (ts.map valNode).length = ts.length := val_len ts;have h10 : ts.length ≤ 10 := by have := hE.many; omega
 have HO := hid (orderP_ordd hR);have HNW := hid (nw_of hz);have HORD := hid (fun (W : World) (hW : Below w.heap.size w W) => orderIn_any ao cap ts W (by omega) hF (hz.later dNode_ok hW));have HW := hid (Int.le_trans (wdP_le (gs := ts.map valNode) (k := k0) (by omega)) hw);have HS := hid hS;have HE := hid hE;have HP : Hid (emitP (ts.map valNode) k0 v0 = (emitAt (ts.map valNode) (orderP (ts.map valNode)) (emit0 (ts.map valNode).length k0 v0)).2) := rfl;obtain ⟨P, hP⟩ : ∃ P, P = emitP (ts.map valNode) k0 v0 := ⟨_, rfl⟩;rw [← hP] at HP ⊢;clear hP hz hw hS hE hR hF
 generalize orderP (ts.map valNode) = R at HO HORD HW HP
 generalize ts.map valNode = gs at hgl HO HNW HW HS HE HP
 have hRl : R.length ≤ 10 := by rw [HO.out.len, hgl]; exact h10
 obtain ⟨s0, hs0⟩ : ∃ s0, s0 = emit0 gs.length k0 v0 := ⟨_, rfl⟩;have HAT : Hid (∀ t k i : Nat, t < R.length → el R t = (k : Int) → k < gs.length → At gs R s0 t k i (sT gs (emitAt gs (R.take t) s0) k i)) := fun t k i ht ek hk => by rw [hs0]; exact at_is HO.out HE.out HS.out (by omega) hv0 HW.out ht ek hk
 have HS0 : Hid (s0 = ((List.replicate ts.length []).set k0 [v0], [])) := by rw [Hid, hs0, hgl]; rfl
 rw [← hs0] at HP;clear hs0;have hki : (k0 : Int) < (ts.length : Int) := by omega
 go_enter Tryz.func30, Tryz.ntmps30;go_wp2_with (at_make; refine wpList_make_full _ rfl _ _ 119 rfl w.heap.size 30 i0 (.slice none 0 0) 1 Tryz.underlying119 hi hz0 hz1 .i64 .i64 _ _ ts.length rfl rfl rfl rfl (by rw [hz2]; omega) (by unfold maxLen; omega) (Nat.le_refl _) ?_; intro wA hown hgrow; have hBA : Below w.heap.size w wA := (Below.refl _ _).grown hgrow (Nat.le_refl _) (fun k e => by cases e); obtain ⟨xsA, HAA⟩ := hands_made hown; have HA := hid HAA; have cA := ((HAA.later (below1 wA (.cells #[.int .i64 v0] 3))).headAt (k := k0) (by simpa using hk0)).1; have fA := ((HAA.later (below1 wA (.cells #[.int .i64 v0] 3))).headAt (k := k0) (by simpa using hk0)).2; clear hown hgrow HAA);obtain ⟨wB, hWB⟩ : ∃ wB, wB = (wA.alloc (.cells #[.int .i64 v0] 3)).setCell ⟨w.heap.size, k0, none⟩ (.slice (some ⟨wA.heap.size, 0, none⟩) 1 1) := ⟨_, rfl⟩;rw [← hWB];have hBB : Below w.heap.size w wB := by rw [hWB]; exact (Below.allocS hBA _).setCell (p := ⟨w.heap.size, k0, none⟩) (Nat.le_refl _) _
 obtain ⟨xsB, HEB⟩ : ∃ xsB, Hid (EmI w.heap.size wB xsB s0.1 (.slice none 0 0) s0.2) := by
  have hg := HA.out.size;have hE0 : EmI w.heap.size wA xsA (List.replicate ts.length []) (.slice none 0 0) [] := ⟨HA.out, Kind.Own.nil _ _ _, fun _ _ b h => by simp [Value.ownBlock] at h⟩;have hp := hE0.put (t := k0) (W' := wA.alloc (.cells #[.int .i64 v0] 3)) (by simpa using hk0) (own_oneI (z := v0) (by omega)) ((World.grownBy_alloc wA (.cells #[.int .i64 v0] 3) _)) (fun b hb => .inr (by simp [Value.ownBlock] at hb; omega));refine ⟨xsA.set k0 (.slice (some ⟨wA.heap.size, 0, none⟩) 1 1), ?_⟩;rw [HS0.out, hWB];exact hp
 have hlB := HS0.out;clear hWB hBA HA cA fA hlB;refine (HORD.out wB hBB).mono ?_;rintro e w1 ⟨⟨ro, rc, rfl, hFR⟩, hb1⟩;have HEB1 := hid (HEB.out.later hb1);have HRR := hid (ApR.new HEB.out hFR);have hB1 : Below w.heap.size w w1 := hBB.trans (hb1.mono hBB.size);have hls : s0.1.length = gs.length := by rw [HS0.out, hgl]; simp
 clear hFR hb1 HEB hBB;dsimp only;rw [hls] at HRR;clear hki HORD hi hz0 hz1 hz2 hv0;go_wp2
 go_loopw [8, 27] (fun u j wr => ∃ (t : Nat) (xs : List Value), j = .int .i64 (t : Int) ∧ t ≤ R.length ∧ Hid (EmI w.heap.size wr xs (emitAt gs (R.take t) s0).1 u (emitAt gs (R.take t) s0).2) ∧ Hid (ApR w.heap.size wr xs gs.length u ro R) ∧ Below w.heap.size w wr) (fun _ j _ => R.length - (intOf j).toNat)
 case atStart => exact ⟨0, xsB, rfl, Nat.zero_le _, (by rw [List.take_zero]; exact HEB1), HRR, hB1⟩
 case round =>
  rename World => wo
  obtain ⟨t, xs, rfl, ht, hEm, hAR, hB⟩ := hrel;clear HEB1 HRR hB1
  by_cases htr : t < R.length
  ·obtain ⟨k, hk, ek⟩ := HO.out.rng _ (el_mem htr);have HEK := hid ek;have HAK := hid (fun i => HAT.out t k i htr ek hk);have HSU := hid (emitAt_succ (gs := gs) s0 htr ek);obtain ⟨bq, oq, rfl, hbq, hcq⟩ := ints_at hAR.out.row htr;have cR := hcq t htr;rw [ek] at cR;obtain ⟨s, hs⟩ : ∃ s, s = emitAt gs (R.take t) s0 := ⟨_, rfl⟩;have hsl : s.1.length = gs.length := by rw [hs, emitAt_len, hls]
   rw [← hs] at HAK HSU hEm;have HROW : Hid (∀ i, At gs R s0 t k i (sT gs s k i) ∧ el (sT gs s k i).1 k = el s.1 k) := fun i => ⟨HAK.out i, by rw [(HAK.out i).row, hs]⟩
   have HSL := hid hsl;clear hcq ek hs HAK HAT;obtain ⟨lo, lc, hxk, _, _⟩ := hEm.out.hands.slice (j := k) (by omega);have cH := (hEm.out.hands.headAt (k := k) (by omega)).1;rw [hxk] at cH;have HXK := hid hxk;have HAL := hid (sT_all (gs := gs) s k);have HLE : Hid (∀ i, i < (el s.1 k).length → sT gs s k (i + 1) = stepV gs k (sT gs s k i) (el (el s.1 k) i)) := fun i hi => sT_succ s k hi
   obtain ⟨L, hL⟩ : ∃ L, L = el s.1 k := ⟨_, rfl⟩;rw [← hL] at cH HXK HAL HLE HROW;have hkt : (k : Int) < (ts.length : Int) := by omega
   have htr' : (t : Int) < (R.length : Int) := by omega
   have hLL : L.length ≤ 100000 := by
    have := (HROW.out 0).1.own;rw [(HROW.out 0).2] at this;exact this
   clear hxk hL hsl;go_wp2
   go_loopw [8, 36] (fun u j2 wr2 => ∃ (i : Nat) (xs2 : List Value) (ev : Value), ev = u ∧ j2 = .int .i64 (i : Int) ∧ i ≤ L.length ∧ Hid (EmI w.heap.size wr2 xs2 (sT gs s k i).1 ev (sT gs s k i).2) ∧ Hid (el xs2 k = .slice lo L.length lc) ∧ Hid (ApR w.heap.size wr2 xs2 gs.length ev (some ⟨bq, oq, none⟩) R) ∧ Below w.heap.size w wr2) (fun _ j2 _ => L.length - (intOf j2).toNat)
   case atStart => exact ⟨0, xs, _, rfl, rfl, Nat.zero_le _, (by rw [sT_zero]; exact hEm), HXK, hAR, hB⟩
   case round =>
    rename World => wm
    obtain ⟨i, xs2, ev, rfl, rfl, hi, hEm2, hXK2, hAR2, hB2⟩ := hrel
    by_cases hiL : i < L.length
    ·have hiL' : (i : Int) < (L.length : Int) := by omega
     have hrow := hEm2.out.hands.row k (by rw [(HROW.out i).1.len]; exact hk);rw [hXK2.out, (HROW.out i).2] at hrow;obtain ⟨lo', lc', e', _, hIn⟩ := hrow.in;obtain ⟨rfl, rfl⟩ : lo = lo' ∧ lc = lc' := by simp at e'; exact e'
     obtain ⟨bl, ol, rfl, hbl, hcl⟩ := ints_at hIn hiL;have cL := hcl i hiL;have HX := hid ((HROW.out i).1.val k (el L i) (by rw [(HROW.out i).2]; exact el_mem hiL));have HST := hid (HLE.out i hiL);have HA1 := hid (HROW.out (i + 1)).1
     generalize el L i = x at cL HX HST
     clear hcl hrow hIn e';obtain ⟨b, off, nm, cp, nxo, nxc, rfl, hb, c0, c1, c2, c3, c4, c5, hI⟩ := (HNW.out.below hB2) k hk;have HC := hid (letThrough_is (el gs k).2.1 (el gs k).2.2.1 (el gs k).2.2.2.1 x wm (HS.out k hk) HX.out);rw [← outM_S] at HC;have hql : (outM gs k x).length ≤ 3 := by
      have h1 := outM_len (HS.out k hk) x;have h2 := (factI_rng (el gs k).2.1 (el gs k).2.2.1 (el gs k).2.2.2.1).2
      omega
     rw [stepV] at HST;have hnl : (nxP gs k).length ≤ 10 := HE.out.few k hk;have HPL := hid (HE.out.rng k hk);have HSF := hid (HROW.out i).1.self
     generalize (el gs k).2.1 = kd at c1 HC
     generalize (el gs k).2.2.1 = sa at c2 HC
     generalize (el gs k).2.2.2.1 = sb at c3 HC
     have HWD := hid HA1.out.wide;rw [HST.out] at HWD
     generalize outM gs k x = q at HC hql HST HWD
     generalize nxP gs k = nx at c5 hI HST HWD hnl HPL HSF
     have HLN := hid (HROW.out i).1.len;have HEMB := hid (HROW.out i).1.em
     generalize sT gs s k i = S at hEm2 HST HWD HLN HEMB
     obtain ⟨I, em⟩ := S;dsimp only at hEm2 HST HWD HLN HEMB;have HI := hid hI;clear hI HA1;go_wp2_with fail;refine HC.out.mono ?_;rintro e w2 ⟨⟨qo, qc, rfl, hno, hFQ⟩, hb2⟩;have HEm := hid (hEm2.out.later hb2);have HAQ := hid (ApR.new hEm2.out hFQ);rw [HLN.out] at HAQ;have HAR := hid (hAR2.out.later hb2);have hBw : Below w.heap.size w w2 := hB2.trans (hb2.mono hB2.size);have hbn : b < wm.heap.size := Nat.lt_of_lt_of_le hb hB2.size;have d0 := (hb2.cell (p := ⟨b, off + k * 6, none⟩) hbn).trans c0;have d1 := (hb2.cell (p := ⟨b, off + k * 6 + 1, none⟩) hbn).trans c1;have d2 := (hb2.cell (p := ⟨b, off + k * 6 + 2, none⟩) hbn).trans c2;have d3 := (hb2.cell (p := ⟨b, off + k * 6 + 3, none⟩) hbn).trans c3;have d4 := (hb2.cell (p := ⟨b, off + k * 6 + 4, none⟩) hbn).trans c4;have d5 := (hb2.cell (p := ⟨b, off + k * 6 + 5, none⟩) hbn).trans c5;have HI2 := hid (in_low HI.out (hb2.mono hB2.size));clear hFQ HC c0 c1 c2 c3 c4 c5 cL hEm2 hAR2 HI hb2;dsimp only;go_wp2
     go_loopw [53] (fun j3 wr3 => ∃ (m : Nat) (xs3 : List Value), j3 = .int .i64 (m : Int) ∧ m ≤ nx.length ∧ Hid (EmI w.heap.size wr3 xs3 (intoAll q (nx.take m) I) ev em) ∧ Hid (el xs3 k = .slice (some ⟨bl, ol, none⟩) L.length lc) ∧ Hid (ApR w.heap.size wr3 xs3 gs.length ev (some ⟨bq, oq, none⟩) R) ∧ Hid (ApR w.heap.size wr3 xs3 gs.length ev qo q) ∧ Below w.heap.size w wr3 ∧ Below w.heap.size w2 wr3) (fun j3 _ => nx.length - (intOf j3).toNat)
     case atStart => exact ⟨0, xs2, rfl, Nat.zero_le _, (by rw [List.take_zero]; exact HEm), hXK2, HAR, HAQ, hBw, Below.refl _ _⟩
     case round =>
      rename World => wi
      obtain ⟨m, xs3, rfl, hm, hEm3, hXK3, hAR3, hAQ3, hB3, hBB3⟩ := hrel;have hgw := hEm3.out.hands.size
      by_cases hmn : m < nx.length
      ·have hmn' : (m : Int) < (nx.length : Int) := by omega
       obtain ⟨nb, no, rfl, hnb, hnc⟩ := ints_at (in_low HI2.out hBB3) hmn;have cn := hnc m hmn;obtain ⟨j, hj, hyj⟩ := HPL.out (el nx m) (el_mem hmn);have HJM : Hid ((j : Int) ∈ nx) := by rw [Hid, ← hyj]; exact el_mem hmn
       have HSC := hid (intoAll_succ q hmn I);have HGR : Hid ((el (intoAll q (nx.take m) I) j).length ≤ 100000) := by
        have h1 := HWD.out j HJM.out;have h2 : intoAll q nx I = intoAll q (nx.drop m) (intoAll q (nx.take m) I) := by rw [← intoAll_app, List.take_append_drop]
        rw [h2] at h1;exact Nat.le_trans (intoAll_grows q (nx.drop m) _ j (fun y hy => by rw [intoAll_len, HLN.out]; exact HPL.out y (List.mem_of_mem_drop hy))) h1
       rw [hyj, Int.toNat_natCast] at HSC;rw [hyj] at cn;have hli : (intoAll q (nx.take m) I).length = gs.length := by rw [intoAll_len]; exact HLN.out
       generalize intoAll q (nx.take m) I = I' at hEm3 HSC HGR hli
       obtain ⟨ho, hc, hxj, hnoj, _⟩ := hEm3.out.hands.slice (j := j) (by omega);have cJ := (hEm3.out.hands.headAt (k := j) (by omega)).1;have ORJ := hid (hEm3.out.hands.row j (by omega));have hjk : k ≠ j := fun e => HSF.out (by rw [e]; exact HJM.out)
       have HXJ := hid hxj;rw [hxj] at cJ;have hjt : (j : Int) < (ts.length : Int) := by omega
       have hgr := HGR.out;have HJK := hid hjk;clear hnc hyj hxj hjk;go_wp2_with (at_builtin; refine Kind.appN kI_ok wi rfl (.tmp 62) (.tmp 63) rfl (w.heap.size + 1) (.slice ho (el I' j).length hc) (el I' j) rfl (by rw [← HXJ.out]; exact ORJ.out) (by omega) qo q q.length qc rfl rfl hno _ hAQ3.out.row (by omega) ?_; intro v4 w4 hO4 hb4 hG4 hn4; rw [← HXJ.out] at hG4 hn4; have hmid := hEm3.out.hands.midAt (k := j) (by omega) hG4; have cJ4 := hmid.1; have fJ4 := hmid.2; have HO4 := hid hO4; have HG4 := hid hG4; have HN4 := hid hn4; have HB4 := hid hb4; obtain ⟨vo4, vc4, rfl⟩ := own_slice hO4; rw [List.length_append] at HO4 HN4; clear hO4 hG4 hn4 hmid hb4);go_roundw
       case rel =>
        have hxl : j < xs3.length := by rw [hEm3.out.hands.len]; omega
        refine ⟨m + 1, xs3.set j _, by go_num, by omega, (by rw [HSC.out]; exact hEm3.out.put (by omega) HO4.out HG4.out HN4.out), (by rw [el_set_far HJK.out]; exact hXK3), hAR3.out.put hj hxl HG4.out HN4.out, hAQ3.out.put hj hxl HG4.out HN4.out, ?_, ?_⟩
        ·exact (hB3.trans (HB4.out.mono (by omega))).setCell (p := ⟨w.heap.size, j, none⟩) (Nat.le_refl _) _
        ·exact (hBB3.trans (HB4.out.mono (by omega))).setCell (p := ⟨w.heap.size, j, none⟩) (Nat.le_refl _) _
       case measure => simp [intOf]; omega
      ·obtain rfl : m = nx.length := by omega
       rw [List.take_length] at hEm3;have hie := isEnd_is nm kd sa sb cp nxo nx.length nxc wi;clear hmn;have e0 := (hBB3.cell (p := ⟨b, off + k * 6, none⟩) hb).trans d0;have e1 := (hBB3.cell (p := ⟨b, off + k * 6 + 1, none⟩) hb).trans d1;have e2 := (hBB3.cell (p := ⟨b, off + k * 6 + 2, none⟩) hb).trans d2;have e3 := (hBB3.cell (p := ⟨b, off + k * 6 + 3, none⟩) hb).trans d3;have e4 := (hBB3.cell (p := ⟨b, off + k * 6 + 4, none⟩) hb).trans d4;have e5 := (hBB3.cell (p := ⟨b, off + k * 6 + 5, none⟩) hb).trans d5
       by_cases h0 : nx.length = 0
       ·have h0' : ((nx.length : Int) == 0) = true := by simp [h0]
        rw [if_pos h0] at HST;rw [h0'] at hie;have HIE := hid hie;clear hie h0 h0';go_wp2_with fail;refine HIE.out.mono ?_;rintro e w5 ⟨rfl, hb5⟩;have HE5 := hid (hEm3.out.later hb5);have HR5 := hid (hAR3.out.later hb5);have HQ5 := hid (hAQ3.out.later hb5);have hB5 : Below w.heap.size w w5 := hB3.trans (hb5.mono hB3.size);have HCE := hid (emitsAt_is (k : Int) qo qc q w5 (by omega) HQ5.out.row);have hg5 := HE5.out.hands.size;have hemb := HEMB.out;clear hb5 hEm3 hAR3 hAQ3;dsimp only;go_wp2_with fail;refine HCE.out.mono ?_;rintro e w6 ⟨⟨go6, gc6, rfl, hno6, hF6⟩, hb6⟩;have HE6 := hid (HE5.out.later hb6);have HR6 := hid (HR5.out.later hb6);have hB6 : Below w.heap.size w w6 := hB5.trans (hb6.mono hB5.size);have HF6 := hid hF6.in;have hs6 := hb6.size;have hlq : (q.map fun x => ((k : Int), x)).length = q.length := by simp
        clear hF6 hb6 HE5 HR5 HCE
        generalize (q.map fun x => ((k : Int), x)) = em6 at HF6 hlq HST
        dsimp only;go_wp2_with (at_builtin; refine Kind.appN kE_ok w6 rfl (.tmp 72) (.tmp 75) rfl (w.heap.size + 1) ev em rfl HE6.out.em (by omega) go6 em6 em6.length gc6 rfl rfl hno6 _ HF6.out (by omega) ?_; intro v7 w7 hO7 hb7 hG7 hn7; have HO7 := hid hO7; have HG7 := hid hG7; have HN7 := hid hn7; have HB7 := hid hb7; clear hO7 hb7 hG7 hn7);go_roundw
        case rel => exact ⟨i + 1, xs3, _, rfl, by go_num, by omega, (by rw [HST.out]; exact HE6.out.emit HO7.out HG7.out HN7.out), hXK3, HR6.out.emit HG7.out HN7.out, hB6.trans (HB7.out.mono (by omega))⟩
        case measure => simp [intOf]; omega
       ·have h0' : ((nx.length : Int) == 0) = false := by simp [h0]
        rw [if_neg h0] at HST;rw [h0'] at hie;have HIE := hid hie;clear hie h0 h0';go_wp2_with fail;refine HIE.out.mono ?_;rintro e w5 ⟨rfl, hb5⟩;dsimp only;go_wp2;go_roundw
        case rel => exact ⟨i + 1, xs3, ev, rfl, by go_num, by omega, (by rw [HST.out]; exact hEm3.out.later hb5), hXK3, hAR3.out.later hb5, hB3.trans (hb5.mono hB3.size)⟩
        case measure => simp [intOf]; omega
    ·obtain rfl : i = L.length := by omega
     rw [HAL.out, ← HSU.out] at hEm2;clear hiL;go_wp2;go_roundw
     case rel => exact ⟨t + 1, xs2, by go_num, by omega, hEm2, hAR2, hB2⟩
     case measure => simp [intOf]; omega
  ·obtain rfl : t = R.length := by omega
   rw [List.take_length, ← HP.out] at hEm;clear htr;go_wp2;go_ret;obtain ⟨go, gc, rfl, hno, hF⟩ := hEm.out.em.fresh;exact ⟨⟨go, gc, rfl, hno, hF.wide (by omega) (Nat.le_refl _)⟩, hB⟩
end
section
open Go.RowKit

section
variable {E : Nat → Int → List (Int × Int)} {i : Int} {s : PP}
theorem emL_succ {em : List (Int × Int × Int)} {m : Nat} (h : m < em.length) : emL i (em.take (m + 1)) = emL i (em.take m) ++ (if (el em m).1 = i then [((el em m).2.1, (el em m).2.2)] else []) := flat_take _ h
theorem boxL_succ {l : List (Int × Int × Int)} {k m : Nat} (h : m < l.length) : boxL E i k (l.take (m + 1)) = boxL E i k (l.take m) ++ (if (el l m).1 = i then E k (el l m).2.1 else []) := flat_take _ h
theorem faL_succ {fa : List (Int × Int × Int × Int)} {m : Nat} (h : m < fa.length) : faL E i (fa.take (m + 1)) = faL E i (fa.take m) ++ (if (el fa m).1 = i then E (el fa m).2.1.toNat (el fa m).2.2.1 else []) := flat_take _ h
theorem bxsL_succ {bx : List (List (Int × Int × Int))} {k : Nat} : bxsL E i bx (k + 1) = bxsL E i bx k ++ boxL E i k (el bx k) := by
 rw [bxsL, List.range_succ, List.flatMap_append]; simp [bxsL]
theorem bxsL_le {bx : List (List (Int × Int × Int))} : ∀ {n k : Nat}, k ≤ n → (bxsL E i bx k).length ≤ (bxsL E i bx n).length
  | 0, k, h => by obtain rfl : k = 0 := by omega
                  exact Nat.le_refl _
  | n + 1, k, h => by
    by_cases e : k = n + 1
    · subst e; exact Nat.le_refl _
    · have := bxsL_le (bx := bx) (n := n) (k := k) (by omega)
      rw [bxsL_succ, List.length_append]; omega
/-- The account up to a token, up to a lost one. -/
def pre3 (E : Nat → Int → List (Int × Int)) (i : Int) (s : PP) (k m : Nat) : List (Int × Int) := emL i s.em ++ bxsL E i s.bx k ++ boxL E i k ((el s.bx k).take m)
def pre4 (E : Nat → Int → List (Int × Int)) (i : Int) (s : PP) (m : Nat) : List (Int × Int) := emL i s.em ++ bxsL E i s.bx s.bx.length ++ faL E i (s.fa.take m)
theorem pre3_zero (k : Nat) : pre3 E i s k 0 = emL i s.em ++ bxsL E i s.bx k := by simp [pre3, boxL]
theorem pre3_all (k : Nat) : pre3 E i s k (el s.bx k).length = emL i s.em ++ bxsL E i s.bx (k + 1) := by rw [pre3, List.take_length, bxsL_succ, List.append_assoc]
theorem pre3_succ {k m : Nat} (h : m < (el s.bx k).length) : pre3 E i s k (m + 1) = pre3 E i s k m ++ (if (el (el s.bx k) m).1 = i then E k (el (el s.bx k) m).2.1 else []) := by rw [pre3, pre3, boxL_succ h]; simp only [List.append_assoc]
theorem pre4_zero : pre4 E i s 0 = emL i s.em ++ bxsL E i s.bx s.bx.length := by simp [pre4, faL]
theorem pre4_succ {m : Nat} (h : m < s.fa.length) : pre4 E i s (m + 1) = pre4 E i s m ++ (if (el s.fa m).1 = i then E (el s.fa m).2.1.toNat (el s.fa m).2.2.1 else []) := by rw [pre4, pre4, faL_succ h]; simp only [List.append_assoc]
theorem pre4_all : pre4 E i s s.fa.length = accL E i s := by rw [pre4, List.take_length]; rfl
theorem em_le (hA : (accL E i s).length ≤ 400) (m : Nat) : (emL i (s.em.take m)).length ≤ 400 := by
 have h := flat_le (fun e : Int × Int × Int => if e.1 = i then [(e.2.1, e.2.2)] else []) s.em m
 unfold accL at hA
 simp only [List.length_append] at hA
 change (emL i (s.em.take m)).length ≤ (emL i s.em).length at h
 omega
theorem pre3_le (hA : (accL E i s).length ≤ 400) {k : Nat} (hk : k < s.bx.length) (m : Nat) : (pre3 E i s k m).length ≤ 400 := by
 have h := flat_le (fun t : Int × Int × Int => if t.1 = i then E k t.2.1 else []) (el s.bx k) m;have h2 := bxsL_le (E := E) (i := i) (bx := s.bx) (n := s.bx.length) (k := k + 1) (by omega);rw [bxsL_succ, List.length_append] at h2
 unfold accL at hA
 unfold pre3
 simp only [List.length_append] at hA ⊢
 change (boxL E i k ((el s.bx k).take m)).length ≤ (boxL E i k (el s.bx k)).length at h
 omega
theorem pre4_le (hA : (accL E i s).length ≤ 400) (m : Nat) : (pre4 E i s m).length ≤ 400 := by
 have h := flat_le (fun e : Int × Int × Int × Int => if e.1 = i then E e.2.1.toNat e.2.2.1 else []) s.fa m
 unfold accL at hA
 unfold pre4
 simp only [List.length_append] at hA ⊢
 change (faL E i (s.fa.take m)).length ≤ (faL E i s.fa).length at h
 omega
end
set_option maxRecDepth 100000 in
set_option maxHeartbeats 8000000 in
theorem accountOf_any (lo : Nat) (W : World) (p bb gb goff gc : Nat) (ts : List LNode) (sv : Value) (xs : List Value) (ev fv uv : Value) (s : PP) (item : Int) (h : Flow lo W p bb (.slice (some ⟨gb, goff, none⟩) ts.length gc) sv xs ev fv uv s) (hn : s.bx.length = ts.length) (hz : DIn dNode W.heap.size W (some ⟨gb, goff, none⟩) ts) (hF : FitN ts) (hG : GoodE (ts.map valNode)) (hR : ¬ (orderP (ts.map valNode)).length < (ts.map valNode).length) (hw : widP (ts.map valNode) ≤ 100000) (hI : InvS (ts.map valNode) s) (hL : LostI (ts.map valNode) s.fa) (hA : (accL (emitP (ts.map valNode)) item s).length ≤ 400) (hbig : s.em.length ≤ 1000000 ∧ s.fa.length ≤ 1000000 ∧ totT s.bx ≤ 1000000) :
  Calls Tryz.prog 27 #[.pointer (some ⟨p, 0, none⟩), .int .i64 item] W fun e W' => (∃ v, e = .returned v ∧ kE.Own W.heap.size W' v (accL (emitP (ts.map valNode)) item s)) ∧ Below W.heap.size W W' := by
 have hp := h.box.size;have hbb := h.hnd.size;have c0 := h.box.c 0 rfl;have c5 := h.box.c 5 rfl;have c6 := h.box.c 6 rfl;have c7 := h.box.c 7 rfl;obtain ⟨eo, ec, he, _, hEI⟩ := h.emo.in;obtain ⟨fo, fc, hf, _, hFI⟩ := h.fao.in;rw [he] at c6;rw [hf] at c7;have HC := hid (And.intro c0 (And.intro c5 c7));have HEI := hid hEI;have HFI := hid hFI;have HH := hid h;have HI := hid hI;have HLO := hid hL;have HA := hid hA;have HBG := hid hbig;have hmany : s.bx.length ≤ 10 := by have := hG.edg.many; rw [List.length_map] at this; omega
 have HNE := hid hn;have hn1 : s.bx.length ≤ ts.length := by omega
 have hn2 : ts.length ≤ s.bx.length := by omega
 have HEM : Hid (∀ (k : Nat) (v : Int) (V : World), k < ts.length → valB v = true → Below W.heap.size W V → Calls Tryz.prog 30 #[(.slice (some ⟨gb, goff, none⟩) ts.length gc), .int .i64 (k : Int), .int .i64 v] V (AnsEm V (emitP (ts.map valNode) k v))) := fun k v V hk hv hV =>
  emitsOf_is (some ⟨gb, goff, none⟩) gc ts V k v hG.edg hR hG.st hk hv hw hF (hz.later dNode_ok hV)
 clear h hn hI hL hA hbig he hf hEI hFI hz hF hw hR c5 c7;go_enter Tryz.func27, Tryz.ntmps27;go_wp2;clear c0 c6
 go_loopw [5, 20] (fun u i wr => ∃ (m : Nat) (v : Value), v = u ∧ i = .int .i64 (m : Int) ∧ m ≤ s.em.length ∧ Hid (kE.Own W.heap.size wr v (emL item (s.em.take m))) ∧ Hid (Below W.heap.size W wr)) (fun _ i _ => s.em.length - (intOf i).toNat)
 case atStart => exact ⟨0, _, rfl, rfl, Nat.zero_le _, Kind.Own.nil _ _ _, Below.refl _ _⟩
 case round =>
  obtain ⟨m, v, rfl, rfl, hm, hO, hB⟩ := hrel
  by_cases hlt : m < s.em.length
  ·have hmi : (m : Int) < (s.em.length : Int) := by omega
   have hmb : m ≤ 1000000 := by have := HBG.out.1; omega
   obtain ⟨b, off, rfl, hb, hc⟩ := kOu_at HEI.out hlt;obtain ⟨d0, d1, d2⟩ := hc m hlt;have e0 := (hB.out.cell (p := ⟨b, off + m * 3, none⟩) hb).trans d0;have e1 := (hB.out.cell (p := ⟨b, off + m * 3 + 1, none⟩) hb).trans d1;have e2 := (hB.out.cell (p := ⟨b, off + m * 3 + 2, none⟩) hb).trans d2;have hwz := hB.out.size;have hbw : b < wr.heap.size := Nat.lt_of_lt_of_le hb hwz;have HS := hid (emL_succ (i := item) hlt);have hle := em_le HA.out m;obtain ⟨⟨t1, t2, t3⟩, et⟩ : ∃ t, t = el s.em m := ⟨_, rfl⟩;rw [← et] at e0 e1 e2 HS;dsimp only at e0 e1 e2 HS;clear d0 d1 d2 hc et
   by_cases h1 : t1 = item
   ·rw [if_pos h1] at HS;have hd1 : (t1 == item) = true := by simpa using h1
    obtain ⟨X, hX⟩ : ∃ X, X = (wr.alloc (.cells #[.int .i64 t1, .int .i64 t2, .int .i64 t3] 53)).alloc (.cells #[.int .i64 t2, .int .i64 t3] 55) := ⟨_, rfl⟩;have hbX : Below wr.heap.size wr X := by rw [hX]; exact below2 _ _ _
    have hNX : kE.In X.heap.size X (some ⟨wr.heap.size + 1, 0, none⟩) [(t2, t3)] := by
     have hx : Bx X (wr.heap.size + 1) [.int .i64 t2, .int .i64 t3] := by
      have := Bx.new (w := wr.alloc (.cells #[.int .i64 t1, .int .i64 t2, .int .i64 t3] 53)) [.int .i64 t2, .int .i64 t3] 55 rfl;rw [show (wr.alloc (.cells #[.int .i64 t1, .int .i64 t2, .int .i64 t3] 53)).heap.size = wr.heap.size + 1 by simp] at this;rw [hX]; exact this
     exact emits_mk hx.size (hx.c 0 rfl) (hx.c 1 rfl)
    have HX := hid hX;have HOX := hid (hO.out.below hbX);have HN := hid hNX;have HBX := hid (hB.out.trans (hbX.mono hwz));have hlX : W.heap.size ≤ X.heap.size := HBX.out.size;clear hX hbX hNX hO hB h1;go_wp2_with (at_builtin; rw [← HX.out]; refine Kind.appN kE_ok X rfl (.tmp 28) (.tmp 34) rfl W.heap.size v (emL item (s.em.take m)) rfl HOX.out hlX (some ⟨wr.heap.size + 1, 0, none⟩) [(t2, t3)] 1 1 rfl rfl (by simp) _ HN.out (by rw [List.length_singleton]; omega) ?_; intro v' w5 hO5 hB5 hG5 hw5; have HO5 := hid hO5; have HB5 := hid (HBX.out.trans (hB5.mono (Nat.le_refl _))); clear hO5 hB5 hG5 hw5);go_roundw
    case rel => exact ⟨m + 1, v', rfl, by go_num, by omega, by rw [HS.out]; exact HO5.out, HB5⟩
    case measure => simp [intOf]; omega
   ·rw [if_neg h1, List.append_nil] at HS;have hd1 : (t1 == item) = false := by simpa using h1
    clear h1;go_wp2;go_roundw
    case rel => exact ⟨m + 1, _, rfl, by go_num, by omega, by rw [HS.out]; exact hO.out.below (below1 _ _), hB.out.trans ((below1 _ _).mono hwz)⟩
    case measure => simp [intOf]; omega
  ·obtain rfl : m = s.em.length := by omega
   rw [List.take_length] at hO;have x5 := (hB.out.cell (p := ⟨p, 5, none⟩) hp).trans HC.out.2.1;obtain ⟨w1, hw1⟩ : ∃ w1, w1 = wr := ⟨_, rfl⟩;rw [← hw1] at hO hB x5 ⊢;clear hw1 wr;go_wp2;clear x5
   go_loopw [5, 43] (fun u i wr => ∃ (k : Nat) (v : Value), v = u ∧ i = .int .i64 (k : Int) ∧ k ≤ s.bx.length ∧ Hid (kE.Own W.heap.size wr v (emL item s.em ++ bxsL (emitP (ts.map valNode)) item s.bx k)) ∧ Hid (Below W.heap.size W wr)) (fun _ i _ => s.bx.length - (intOf i).toNat)
   case atStart => exact ⟨0, _, rfl, rfl, Nat.zero_le _, by rw [show bxsL (emitP (ts.map valNode)) item s.bx 0 = [] from rfl, List.append_nil]; exact hO, hB⟩
   case round =>
    obtain ⟨k, v, rfl, rfl, hk, hO, hB⟩ := hrel
    rename World => wq
    by_cases hlt : k < s.bx.length
    ·have hki : (k : Int) < (s.bx.length : Int) := by omega
     have hkt : k < ts.length := by omega
     have FW := HH.out.later hB.out;have ck := (FW.head hlt).1;obtain ⟨ho, hc, hsl, hq1, hq2⟩ := FW.hnd.slice hlt;obtain ⟨ho2, hc2, hsl2, hq3, hq4⟩ := HH.out.hnd.slice hlt;rw [hsl] at hsl2;obtain ⟨rfl, rfl⟩ : ho = ho2 ∧ hc = hc2 := by simp at hsl2; exact hsl2
     rw [hsl] at ck;have HRI := hid hq4.in;have htl := totT_el hlt;obtain ⟨L, hL⟩ : ∃ L, L = el s.bx k := ⟨_, rfl⟩;rw [← hL] at ck HRI htl;have HLL := hid hL;have hLb : L.length ≤ 1000000 := by have := HBG.out.2.2; omega
     clear FW hsl hsl2 hq1 hq2 hq3 hq4 hL;go_wp2;clear ck
     go_loopw [5, 50] (fun u i wr => ∃ (m : Nat) (v : Value), v = u ∧ i = .int .i64 (m : Int) ∧ m ≤ L.length ∧ Hid (kE.Own W.heap.size wr v (pre3 (emitP (ts.map valNode)) item s k m)) ∧ Hid (Below W.heap.size W wr)) (fun _ i _ => L.length - (intOf i).toNat)
     case atStart => exact ⟨0, _, rfl, rfl, Nat.zero_le _, by rw [pre3_zero]; exact hO, hB⟩
     case round =>
      obtain ⟨m, v, rfl, rfl, hm, hO, hB⟩ := hrel
      by_cases hlt2 : m < L.length
      ·have hmi : (m : Int) < (L.length : Int) := by omega
       obtain ⟨b, off, rfl, hb, hc⟩ := kTk_at HRI.out hlt2;obtain ⟨d0, d1, d2⟩ := hc m hlt2;have e0 := (hB.out.cell (p := ⟨b, off + m * 3, none⟩) hb).trans d0;have e1 := (hB.out.cell (p := ⟨b, off + m * 3 + 1, none⟩) hb).trans d1;have e2 := (hB.out.cell (p := ⟨b, off + m * 3 + 2, none⟩) hb).trans d2;have hwz := hB.out.size;have hbw : b < wr.heap.size := Nat.lt_of_lt_of_le hb hwz;have HS := hid (pre3_succ (E := (emitP (ts.map valNode))) (i := item) (s := s) (k := k) (m := m) (by rw [← HLL.out]; exact hlt2));have hvv := HI.out.val k (el L m) (by rw [← HLL.out]; exact el_mem hlt2);rw [← HLL.out] at HS;obtain ⟨⟨t1, t2, t3⟩, et⟩ : ∃ t, t = el L m := ⟨_, rfl⟩;rw [← et] at e0 e1 e2 HS hvv;dsimp only at e0 e1 e2 HS hvv;clear d0 d1 d2 hc et
       by_cases h1 : t1 = item
       ·rw [if_pos h1] at HS;have hd1 : (t1 == item) = true := by simpa using h1
        have hb0 := below1 wr (.cells #[.int .i64 t1, .int .i64 t2, .int .i64 t3] 112);have T0 := Bx.new (w := wr) [.int .i64 t1, .int .i64 t2, .int .i64 t3] 112 rfl;obtain ⟨V, hV⟩ : ∃ V, V = wr.alloc (.cells #[.int .i64 t1, .int .i64 t2, .int .i64 t3] 112) := ⟨_, rfl⟩;rw [← hV] at hb0 T0;have HV := hid hV;have HOV := hid (hO.out.below hb0);have HBV := hid (hB.out.trans (hb0.mono hwz));have hbV : wr.heap.size < V.heap.size := T0.size;obtain ⟨EM, hEM⟩ : ∃ EM, EM = emitP (ts.map valNode) k t2 := ⟨_, rfl⟩;have HLE : Hid ((pre3 (emitP (ts.map valNode)) item s k m ++ EM).length ≤ 400) := by rw [Hid, hEM, ← HS.out]; exact pre3_le HA.out hlt _
        have HEC := hid (fun V => HEM.out k t2 V hkt hvv);rw [← hEM] at HS HEC;have HSS : Hid (∀ (Y : World), Below V.heap.size V Y → Y.cell? ⟨p, 0, none⟩ = some (.slice (some ⟨gb, goff, none⟩) ts.length gc) ∧ Y.cell? ⟨wr.heap.size, 1, none⟩ = some (.int .i64 t2)) := fun Y hY => ⟨((HBV.out.trans (hY.mono HBV.out.size)).cell (p := ⟨p, 0, none⟩) hp).trans HC.out.1, (T0.later hY).c 1 rfl⟩
        have SV := hid (HSS.out V (Below.refl _ _));have HSG : Hid (∀ (Y Z : World), (Y.cell? ⟨p, 0, none⟩ = some (.slice (some ⟨gb, goff, none⟩) ts.length gc) ∧ Y.cell? ⟨wr.heap.size, 1, none⟩ = some (.int .i64 t2)) → V.heap.size ≤ Y.heap.size → Y.grownBy Z v.ownBlock → Z.cell? ⟨p, 0, none⟩ = some (.slice (some ⟨gb, goff, none⟩) ts.length gc) ∧ Z.cell? ⟨wr.heap.size, 1, none⟩ = some (.int .i64 t2)) := fun Y Z hY hzY hg => by
         have hvp : v.ownBlock ≠ some p := fun e => by have := (own_block_lt hO.out e).1; omega
         have hvt : v.ownBlock ≠ some wr.heap.size := fun e => by have := (own_block_lt hO.out e).2; omega
         exact ⟨(World.cell?_of_block (a := ⟨p, 0, none⟩) (hg.block p (by omega) (fun e => hvp e.symm))).trans hY.1, (World.cell?_of_block (a := ⟨wr.heap.size, 1, none⟩) (hg.block wr.heap.size (by omega) (fun e => hvt e.symm))).trans hY.2⟩
        clear hV hb0 T0 hO hB h1 hEM;go_wp2_with fail;rw [← HV.out];refine wp_walks (zl := []) (S := fun Y => Y.cell? ⟨p, 0, none⟩ = some (.slice (some ⟨gb, goff, none⟩) ts.length gc) ∧ Y.cell? ⟨wr.heap.size, 1, none⟩ = some (.int .i64 t2)) (by kernel_rfl) SV.out (fun hH => ?_);refine Walks.tk 0 hH ?_;refine Walks.tk 1 hH ?_;refine Walks.tk 2 hH ?_;refine Walks.tk 3 hH ?_;refine Walks.tk 4 hH ?_;refine Walks.tk 5 hH ?_;refine Walks.tk 6 hH ?_;refine Walks.tk 7 hH ?_;refine Walks.on 8 fun K hK => ?_
        go_simp;refine (HEC.out V.drew HBV.out.drew).mono ?_;rintro e w2 ⟨⟨go, gc2, rfl, hno, hfr⟩, hb20⟩;have HB2 := hid (HBV.out.drew.trans (hb20.mono (show W.heap.size ≤ V.drew.heap.size from HBV.out.size)));have S2 := HSS.out w2 ((Below.refl V.heap.size V).drew.trans hb20);have hz2 : V.heap.size ≤ w2.heap.size := hb20.size;have HON := hid ((HOV.out.below (Below.refl _ _).drew).below hb20);have HIN := hid hfr.in;clear hb20 hfr;refine hK.out _ _ (fun _ => S2) (fun _ => ?_);clear hK K;refine Walks.on 9 fun K hK => ?_
        refine Kind.appZ kE_ok w2 (by rfl) (.tmp 58) (.tmp 66) (by rfl) W.heap.size v (pre3 (emitP (ts.map valNode)) item s k m) (by rfl) HON.out HB2.out.size go EM EM.length gc2 (by rfl) rfl hno _ HIN.out (by have := HLE.out; rw [← List.length_append]; omega) ?_;intro v' w5 hO5 hB5 hG5 hw5;have S5 := HSG.out w2 w5 S2 hz2 hG5;have HO5 := hid hO5;have HB5 := hid (HB2.out.trans (hB5.mono (Nat.le_refl _)));clear hO5 hB5 hG5 hw5;refine hK.out _ _ (fun _ => S5) (fun _ => ?_);clear hK K;refine Walks.on 10 fun K hK => ?_
        go_simp;refine hK.out _ _ (fun _ => S5) (fun _ => ?_);clear hK K;refine Walks.done (by kernel_rfl) ?_ _;go_wp2;go_roundw
        case rel => exact ⟨m + 1, v', rfl, by go_num, by omega, by rw [HS.out]; exact HO5.out, HB5⟩
        case measure => simp [intOf]; omega
       ·rw [if_neg h1, List.append_nil] at HS;have hd1 : (t1 == item) = false := by simpa using h1
        clear h1;go_wp2;go_roundw
        case rel => exact ⟨m + 1, _, rfl, by go_num, by omega, by rw [HS.out]; exact hO.out.below (below1 _ _), hB.out.trans ((below1 _ _).mono hwz)⟩
        case measure => simp [intOf]; omega
      ·obtain rfl : m = L.length := by omega
       have HO2 : Hid (kE.Own W.heap.size wr v (emL item s.em ++ bxsL (emitP (ts.map valNode)) item s.bx (k + 1))) := by
        have h9 := hO.out;rw [HLL.out, pre3_all] at h9;exact h9
       go_wp2;go_roundw
       case rel => exact ⟨k + 1, v, rfl, by go_num, by omega, HO2, hB⟩
       case measure => simp [intOf]; omega
    ·obtain rfl : k = s.bx.length := by omega
     have x7 := (hB.out.cell (p := ⟨p, 7, none⟩) hp).trans HC.out.2.2;obtain ⟨w2, hw2⟩ : ∃ w2, w2 = wq := ⟨_, rfl⟩;rw [← hw2] at hO hB x7 ⊢;clear hw2 wq;go_wp2;clear x7
     go_loopw [5, 76] (fun u i wr => ∃ (m : Nat) (v : Value), v = u ∧ i = .int .i64 (m : Int) ∧ m ≤ s.fa.length ∧ Hid (kE.Own W.heap.size wr v (pre4 (emitP (ts.map valNode)) item s m)) ∧ Hid (Below W.heap.size W wr)) (fun _ i _ => s.fa.length - (intOf i).toNat)
     case atStart => exact ⟨0, _, rfl, rfl, Nat.zero_le _, by rw [pre4_zero]; exact hO, hB⟩
     case round =>
      obtain ⟨m, v, rfl, rfl, hm, hO, hB⟩ := hrel
      by_cases hlt2 : m < s.fa.length
      ·have hmi : (m : Int) < (s.fa.length : Int) := by omega
       have hmb : m ≤ 1000000 := by have := HBG.out.2.1; omega
       obtain ⟨b, off, rfl, hb, hc⟩ := kLo_at HFI.out hlt2;obtain ⟨d0, d1, d2, d3⟩ := hc m hlt2;have e0 := (hB.out.cell (p := ⟨b, off + m * 4, none⟩) hb).trans d0;have e1 := (hB.out.cell (p := ⟨b, off + m * 4 + 1, none⟩) hb).trans d1;have e2 := (hB.out.cell (p := ⟨b, off + m * 4 + 2, none⟩) hb).trans d2;have e3 := (hB.out.cell (p := ⟨b, off + m * 4 + 3, none⟩) hb).trans d3;have hwz := hB.out.size;have hbw : b < wr.heap.size := Nat.lt_of_lt_of_le hb hwz;have HS := hid (pre4_succ (E := (emitP (ts.map valNode))) (i := item) (s := s) (m := m) hlt2);obtain ⟨⟨j, hj, hje⟩, hvv⟩ := HLO.out (el s.fa m) (el_mem hlt2);rw [List.length_map] at hj;obtain ⟨⟨t1, t2, t3, t4⟩, et⟩ : ∃ t, t = el s.fa m := ⟨_, rfl⟩;rw [← et] at e0 e1 e2 e3 HS hvv hje;dsimp only at e0 e1 e2 e3 HS hvv hje;subst hje;clear d0 d1 d2 d3 hc et
       by_cases h1 : t1 = item
       ·rw [if_pos h1, Int.toNat_natCast] at HS;have hd1 : (t1 == item) = true := by simpa using h1
        have hb0 := below1 wr (.cells #[.int .i64 t1, .int .i64 (j : Int), .int .i64 t3, .int .i64 t4] 57);have T0 := Bx.new (w := wr) [.int .i64 t1, .int .i64 (j : Int), .int .i64 t3, .int .i64 t4] 57 rfl;obtain ⟨V, hV⟩ : ∃ V, V = wr.alloc (.cells #[.int .i64 t1, .int .i64 (j : Int), .int .i64 t3, .int .i64 t4] 57) := ⟨_, rfl⟩;rw [← hV] at hb0 T0;have HV := hid hV;have HOV := hid (hO.out.below hb0);have HBV := hid (hB.out.trans (hb0.mono hwz));have hbV : wr.heap.size < V.heap.size := T0.size;obtain ⟨EM, hEM⟩ : ∃ EM, EM = emitP (ts.map valNode) j t3 := ⟨_, rfl⟩;have HLE : Hid ((pre4 (emitP (ts.map valNode)) item s m ++ EM).length ≤ 400) := by rw [Hid, hEM, ← HS.out]; exact pre4_le HA.out _
        have HEC := hid (fun V => HEM.out j t3 V hj hvv);rw [← hEM] at HS HEC;have HSS : Hid (∀ (Y : World), Below V.heap.size V Y → Y.cell? ⟨p, 0, none⟩ = some (.slice (some ⟨gb, goff, none⟩) ts.length gc) ∧ Y.cell? ⟨wr.heap.size, 1, none⟩ = some (.int .i64 (j : Int)) ∧ Y.cell? ⟨wr.heap.size, 2, none⟩ = some (.int .i64 t3)) := fun Y hY => ⟨((HBV.out.trans (hY.mono HBV.out.size)).cell (p := ⟨p, 0, none⟩) hp).trans HC.out.1, (T0.later hY).c 1 rfl, (T0.later hY).c 2 rfl⟩
        have SV := hid (HSS.out V (Below.refl _ _));have HSG : Hid (∀ (Y Z : World), (Y.cell? ⟨p, 0, none⟩ = some (.slice (some ⟨gb, goff, none⟩) ts.length gc) ∧ Y.cell? ⟨wr.heap.size, 1, none⟩ = some (.int .i64 (j : Int)) ∧ Y.cell? ⟨wr.heap.size, 2, none⟩ = some (.int .i64 t3)) → V.heap.size ≤ Y.heap.size → Y.grownBy Z v.ownBlock → Z.cell? ⟨p, 0, none⟩ = some (.slice (some ⟨gb, goff, none⟩) ts.length gc) ∧ Z.cell? ⟨wr.heap.size, 1, none⟩ = some (.int .i64 (j : Int)) ∧ Z.cell? ⟨wr.heap.size, 2, none⟩ = some (.int .i64 t3)) := fun Y Z hY hzY hg => by
         have hvp : v.ownBlock ≠ some p := fun e => by have := (own_block_lt hO.out e).1; omega
         have hvt : v.ownBlock ≠ some wr.heap.size := fun e => by have := (own_block_lt hO.out e).2; omega
         exact ⟨(World.cell?_of_block (a := ⟨p, 0, none⟩) (hg.block p (by omega) (fun e => hvp e.symm))).trans hY.1, (World.cell?_of_block (a := ⟨wr.heap.size, 1, none⟩) (hg.block wr.heap.size (by omega) (fun e => hvt e.symm))).trans hY.2.1, (World.cell?_of_block (a := ⟨wr.heap.size, 2, none⟩) (hg.block wr.heap.size (by omega) (fun e => hvt e.symm))).trans hY.2.2⟩
        clear hV hb0 T0 hO hB h1 hEM;go_wp2_with fail;rw [← HV.out];refine wp_walks (zl := []) (S := fun Y => Y.cell? ⟨p, 0, none⟩ = some (.slice (some ⟨gb, goff, none⟩) ts.length gc) ∧ Y.cell? ⟨wr.heap.size, 1, none⟩ = some (.int .i64 (j : Int)) ∧ Y.cell? ⟨wr.heap.size, 2, none⟩ = some (.int .i64 t3)) (by kernel_rfl) SV.out (fun hH => ?_);refine Walks.tk 0 hH ?_;refine Walks.tk 1 hH ?_;refine Walks.tk 2 hH ?_;refine Walks.tk 3 hH ?_;refine Walks.tk 4 hH ?_;refine Walks.tk 5 hH ?_;refine Walks.tk 6 hH ?_;refine Walks.tk 7 hH ?_;refine Walks.tk 8 hH ?_;refine Walks.on 9 fun K hK => ?_
        go_simp;refine (HEC.out V.drew HBV.out.drew).mono ?_;rintro e w2 ⟨⟨go, gc2, rfl, hno, hfr⟩, hb20⟩;have HB2 := hid (HBV.out.drew.trans (hb20.mono (show W.heap.size ≤ V.drew.heap.size from HBV.out.size)));have S2 := HSS.out w2 ((Below.refl V.heap.size V).drew.trans hb20);have hz2 : V.heap.size ≤ w2.heap.size := hb20.size;have HON := hid ((HOV.out.below (Below.refl _ _).drew).below hb20);have HIN := hid hfr.in;clear hb20 hfr;refine hK.out _ _ (fun _ => S2) (fun _ => ?_);clear hK K;refine Walks.on 10 fun K hK => ?_
        refine Kind.appZ kE_ok w2 (by rfl) (.tmp 84) (.tmp 93) (by rfl) W.heap.size v (pre4 (emitP (ts.map valNode)) item s m) (by rfl) HON.out HB2.out.size go EM EM.length gc2 (by rfl) rfl hno _ HIN.out (by have := HLE.out; rw [← List.length_append]; omega) ?_;intro v' w5 hO5 hB5 hG5 hw5;have S5 := HSG.out w2 w5 S2 hz2 hG5;have HO5 := hid hO5;have HB5 := hid (HB2.out.trans (hB5.mono (Nat.le_refl _)));clear hO5 hB5 hG5 hw5;refine hK.out _ _ (fun _ => S5) (fun _ => ?_);clear hK K;refine Walks.on 11 fun K hK => ?_
        go_simp;refine hK.out _ _ (fun _ => S5) (fun _ => ?_);clear hK K;refine Walks.done (by kernel_rfl) ?_ _;go_wp2;go_roundw
        case rel => exact ⟨m + 1, v', rfl, by go_num, by omega, by rw [HS.out]; exact HO5.out, HB5⟩
        case measure => simp [intOf]; omega
       ·rw [if_neg h1, List.append_nil] at HS;have hd1 : (t1 == item) = false := by simpa using h1
        clear h1;go_wp2;go_roundw
        case rel => exact ⟨m + 1, _, rfl, by go_num, by omega, by rw [HS.out]; exact hO.out.below (below1 _ _), hB.out.trans ((below1 _ _).mono hwz)⟩
        case measure => simp [intOf]; omega
      ·obtain rfl : m = s.fa.length := by omega
       rw [pre4_all] at hO;go_wp2;go_ret;exact ⟨⟨_, rfl, hO.out⟩, hB.out⟩
end
end Go.Proofs.YtllmpinmbajpgaaGreatDoor
