
/- What an item's account of a pipe run out gathers, plainly; an append of a row that may be nil. No conditions but those written. Running out: the specification. No conditions but those written. Stepping the last that can: the program. No conditions but those written. Running out: the program. No conditions but those written. -/
import Derived.Test.YtllmpinmbajpgaaGreatDoorPMnHs
import Derived.Test.YtllmpinmbajpgaaGreatDoorPRnbMvk
import Derived.Test.YtllmpinmbajpgaaGreatDoorPMmAva
import Derived.Test.YtllmpinmbajpgaaGreatDoorPSpiRna
import Derived.Test.YtllmpinmbajpgaaGreatDoorPDppMf
import Derived.Test.YtllmpinmbajpgaaGreatDoorPWyYs
namespace Go.Proofs.YtllmpinmbajpgaaGreatDoor
section
open Go.RowKit

theorem sortR_le {l : List (Int × Int)} (h : (sortR l).2 = true) : l.length ≤ 400 := by
 unfold sortR at h
 split at h
 ·simp at h
 ·omega
theorem meanR_nn {gs : List PNode} {k v : Int} (h : (meanR gs k v).2 = true) : 0 ≤ k := by
 unfold meanR at h
 split at h
 ·rename_i hc; exact hc.2.1
 ·simp at h
theorem em_pre (i : Int) (em : List (Int × Int × Int)) (m : Nat) : (emL i (em.take m)).length ≤ (emL i em).length := flat_le (fun e : Int × Int × Int => if e.1 = i then [(e.2.1, e.2.2)] else []) em m
theorem fa_pre (E : Nat → Int → List (Int × Int)) (i : Int) (fa : List (Int × Int × Int × Int)) (m : Nat) : (faL E i (fa.take m)).length ≤ (faL E i fa).length := flat_le (fun e : Int × Int × Int × Int => if e.1 = i then E e.2.1.toNat e.2.2.1 else []) fa m
/-- What the run-out account of item i has gathered behind m of the lost ones. -/
def allQ (gs : List PNode) (s : PP) (i : Int) (m : Nat) : List (Int × Int) := emL i s.em ++ faL (fun k v => (meanR gs (k : Int) v).1) i (s.fa.take m)
theorem allQ_zero (gs : List PNode) (s : PP) (i : Int) : allQ gs s i 0 = emL i s.em := by simp [allQ, faL]
theorem allQ_all (gs : List PNode) (s : PP) (i : Int) : allQ gs s i s.fa.length = emL i s.em ++ faL (fun k v => (meanR gs (k : Int) v).1) i s.fa := by rw [allQ, List.take_length]
theorem allQ_succ {gs : List PNode} {s : PP} {i : Int} {m : Nat} (h : m < s.fa.length) : allQ gs s i (m + 1) = allQ gs s i m ++ (if (el s.fa m).1 = i then (meanR gs ((el s.fa m).2.1.toNat : Int) (el s.fa m).2.2.1).1 else []) := by
 rw [allQ, allQ, faL_succ h, List.append_assoc]
theorem allQ_le (gs : List PNode) (s : PP) (i : Int) (m : Nat) : (allQ gs s i m).length ≤ (emL i s.em ++ faL (fun k v => (meanR gs (k : Int) v).1) i s.fa).length := by
 have := fa_pre (fun k v => (meanR gs (k : Int) v).1) i s.fa m;rw [allQ, List.length_append, List.length_append]; omega
theorem run_append_noneE {P : Program} {w : World} (base : Nat) (t ty e : TypeId) (i : TypeInfo) (size c : Nat) (ht : P.underlying t = some (.slice e)) (hi : P.info? e = some i) (v : Value) (n : Nat) (xs : List Value) (hown : w.ownsRow base e size v n xs) :
  (Builtin.append_ #[t, t] ty #[v, .slice none 0 c]).run P w = .ok v w := by
 rcases hown.2 with ⟨rfl, rfl⟩ | ⟨g, cap, cur, rfl, _, _, hnc, _⟩
 ·simp [Builtin.append_, run_underlying ht, sizeOf, typeInfo, hi, Builtin.lenOf, Builtin.firstCells]
 ·simp [Builtin.append_, run_underlying ht, sizeOf, typeInfo, hi, Builtin.lenOf, Builtin.firstCells, hnc, storeCells]
theorem Kind.appE {α : Type} {K : Kind α} [Inhabited α] (hK : K.Ok) {ops : Array Oper} {rest : List Oper} {o : Oper} {a : Act} {Q : Exit → Act → World → Prop} (W : World) (hg : o.guard = none) (s x : Operand) (hop : o.op = Op.call { callee := Callee.builtin Builtin.append, args := #[s, x], argTypes := #[K.st, K.st] })
  (lo : Nat) (v : Value) (xs : List α) (hs : a.eval s = v) (hown : K.Own lo W v xs) (hlo : lo ≤ W.heap.size)
  (ao : Option Addr) (ys : List α) (m c : Nat) (hx : a.eval x = .slice ao m c) (hm : ys.length = m) (n : Nat) (hz : K.In n W ao ys) (hl : xs.length + ys.length ≤ 4194304)
  (hk : ∀ v' w', K.Own lo w' v' (xs ++ ys) → Below lo W w' → wpList Tryz.prog ops Q rest (a.put o.dst v') w') :
  wpList Tryz.prog ops Q (o :: rest) a W := by
 cases ao with
 | none =>
  obtain ⟨i0, z0, hin, hz0, hz1, hz2, hz3⟩ := hK.info;have hy : ys = [] := by rcases hz with h | ⟨b, off, e, _⟩; exact h; cases e
  subst hy;subst hm;have hrun := run_append_noneE (P := Tryz.prog) (w := W) lo K.st o.type K.ty i0 K.sz c hK.und hin v xs.length (K.flat xs) hown;refine wpList_plain hg fun K' hK' => ?_
  unfold Oper.wp
  simp [execOp, hop, resolve, invoke, builtin, hs, hx, hrun, Result.andThen]
  exact hK' _ _ (hk v W (by simpa using hown) (Below.refl _ _))
 | some ad => exact Kind.appN hK W hg s x hop lo v xs hs hown hlo (some ad) ys m c hx hm (fun e => by cases e) n hz hl fun v' w' h1 h2 _ _ => hk v' w' h1 h2
end
section
open Go.RowKit

theorem Kind.Fresh.ownR {α : Type} {K : Kind α} {lo hi : Nat} {W : World} {tq : Option Addr} {tc : Nat} {xs : List α} (h : K.Fresh lo hi W tq tc xs) (hn : 0 < xs.length) : K.Own lo W (.slice tq xs.length tc) xs := by
 obtain ⟨g, e, _, _, _, ho⟩ := h.at hn;subst e; exact ho
/-- What runOut answers. -/
def AnsRn (lo p : Nat) (gv : Value) (gs : List PNode) (s : PP) (K : Nat) (W : World) (e : Ending) (W' : World) : Prop :=
 ∃ bb xs ev fv uv, e = .returned (.int .i64 (K : Int)) ∧ FlowS lo W' p bb gv xs ev fv uv (itS gs K { s with cl := true }) ∧ Below lo W W'
set_option maxRecDepth 100000 in
set_option maxHeartbeats 8000000 in
theorem runS_any (lo : Nat) (W : World) (p bb gb goff gc : Nat) (ts : List LNode) (xs : List Value) (ev fv uv : Value) (s : PP) (K : Nat) (h : FlowS lo W p bb (.slice (some ⟨gb, goff, none⟩) ts.length gc) xs ev fv uv s) (hz : DIn dNode lo W (some ⟨gb, goff, none⟩) ts) (h1 : 0 < ts.length) (hG : GoodE (ts.map valNode)) (hR : Ordd (ts.map valNode) (orderP (ts.map valNode))) (hI : RunI (ts.map valNode) 40000 9000 { s with cl := true }) (hK : Halts (ts.map valNode) { s with cl := true } K) (hK2 : K ≤ 1000000000000000000) :
  Calls Tryz.prog 32 #[.pointer (some ⟨p, 0, none⟩)] W (AnsRn lo p (.slice (some ⟨gb, goff, none⟩) ts.length gc) (ts.map valNode) s K W) := by
 have hlo : lo ≤ W.heap.size := h.lo_le;have hp := h.box.size;have hmany : ts.length ≤ 10 := by have := hG.edg.many; rw [List.length_map] at this; exact this
 obtain ⟨gs, hgs⟩ : ∃ gs, gs = ts.map valNode := ⟨_, rfl⟩;have hgl : gs.length = ts.length := by rw [hgs, val_len]
 have HFC := hid (h.putCl true);obtain ⟨V, hV⟩ : ∃ V, V = W.setCell ⟨p, 3, none⟩ (.bool true) := ⟨_, rfl⟩;rw [← hV] at HFC;have HV := hid hV;have c3 := h.box.c 3 rfl;have f3 := h.box.f 3 rfl;have c0 := h.box.c 0 rfl;have hzV := hz.below dNode_ok HFC.out.low;have HZ := hid hz;have hnl : ¬ (orderP (ts.map valNode)).length < (ts.map valNode).length := by have := hR.len; omega
 have HO := hid (l11Order_is (some ⟨gb, goff, none⟩) gc ts V hG.edg hnl (hzV.up dNode_ok HFC.out.flow.lo_le));have HG := hid hG;have HR := hid hR;have HI := hid (fun n => hI.it hG hR n);have HK := hid hK;rw [← hgs] at HO HG HR HI HK ⊢;have HGS := hid hgs;obtain ⟨s0, hs0⟩ : ∃ s0 : PP, s0 = { s with cl := true } := ⟨_, rfl⟩;have HS0 := hid hs0;rw [← hs0] at HFC HI HK;have hRl : (orderP gs).length = ts.length := by rw [HR.out.len, hgl]
 clear hV hz hzV hnl hG hR hI hK hgs hs0;go_enter Tryz.func32, Tryz.ntmps32;go_wp2_with fail;rw [← HV.out];refine HO.out.mono ?_;rintro e w1 ⟨⟨go, qc, rfl, hF1⟩, hb1⟩;clear c0 c3 f3;have HB1 := hid (HFC.out.low.trans (hb1.mono HFC.out.flow.lo_le));have HO1 := hid ((hF1.ownR (by omega)).mono HFC.out.flow.lo_le);have HA1 : Hid (∀ b, (Value.slice go (orderP gs).length qc).ownBlock = some b → ¬ FO p bb xs ev fv uv b) := fun b hb hO => by
  obtain ⟨g, e, hlg, _⟩ := hF1.at (by omega);subst e;have : g = b := by simpa [Value.ownBlock] using hb
  have := HFC.out.flow.old hO
  omega
 have HF1 := hid (HFC.out.flow.later hb1);clear hF1 hb1 HO;go_wp2
 go_loopw [4] (fun i wr => ∃ (k bb : Nat) (xs : List Value) (ev fv uv : Value), i = .int .i64 (k : Int) ∧ k ≤ K ∧ Hid (FlowS lo wr p bb (.slice (some ⟨gb, goff, none⟩) ts.length gc) xs ev fv uv (itS gs k s0)) ∧ Hid (kI.Own lo wr (.slice go (orderP gs).length qc) (orderP gs)) ∧ Hid (∀ b, (Value.slice go (orderP gs).length qc).ownBlock = some b → ¬ FO p bb xs ev fv uv b) ∧ Hid (Below lo W wr)) (fun i _ => K - (intOf i).toNat)
 case atStart => exact ⟨0, bb, xs, ev, fv, uv, rfl, Nat.zero_le _, HF1, HO1, HA1, HB1⟩
 case round =>
  clear HF1 HO1 HA1 HB1 HFC HV;obtain ⟨k, bb, xs, ev, fv, uv, rfl, hk, hF, hO, hA, hB⟩ := hrel;have HRI := hid (HI.out k);have hlen := HRI.out.len;have htc := tot_cap HG.out HRI.out.inv hlen;have HL := hid (liveM_any lo wr p bb _ xs ev fv uv _ hF.out (by omega) (by omega))
  by_cases hlt : k < K
  ·have hne := HK.out.go k hlt;have HLT := hid (last_true HG.out HR.out HRI.out hne);have HNX : Hid (itS gs (k + 1) s0 = (lastS gs (orderP gs).reverse (itS gs k s0)).2) := rfl;obtain ⟨sk, hsk⟩ : ∃ sk, sk = itS gs k s0 := ⟨_, rfl⟩;rw [← hsk] at hF HRI HL HLT HNX hne htc hlen;have htp : 0 < totT sk.bx := by omega
   have hlen1 : sk.bx.length ≤ ts.length := by omega
   have hlen2 : ts.length ≤ sk.bx.length := by omega
   clear hsk hne htc hlen;have HRL := hid hRl;have hr1 : (orderP gs).length ≤ ts.length := by omega
   have hr2 : ts.length ≤ (orderP gs).length := by omega
   clear hRl;go_wp2_with fail;refine HL.out.mono ?_;rintro e w2 ⟨rfl, hb2⟩;have HF2 := hid (hF.out.later hb2);have HO2 := hid (hO.out.below hb2);have HB2 := hid (hB.out.trans (hb2.mono hF.out.lo_le));clear hb2 hF hO hB HL;go_wp2
   go_loopw [4, 5] (fun u i wq => ∃ (m bb : Nat) (xs : List Value) (ev fv uv : Value), u = .int .i64 (k : Int) ∧ i = .int .i64 ((m : Int) - 1) ∧ m ≤ ts.length ∧ Hid (lastS gs ((orderP gs).reverse.drop (ts.length - m)) sk = lastS gs (orderP gs).reverse sk) ∧ Hid (FlowS lo wq p bb (.slice (some ⟨gb, goff, none⟩) ts.length gc) xs ev fv uv sk) ∧ Hid (kI.Own lo wq (.slice go (orderP gs).length qc) (orderP gs)) ∧ Hid (∀ b, (Value.slice go (orderP gs).length qc).ownBlock = some b → ¬ FO p bb xs ev fv uv b) ∧ Hid (Below lo W wq)) (fun _ i _ => (intOf i + 1).toNat)
   case atStart => exact ⟨ts.length, bb, xs, ev, fv, uv, rfl, rfl, Nat.le_refl _, by rw [Hid, Nat.sub_self, List.drop_zero], HF2, HO2, hA, HB2⟩
   case round =>
    clear HF2 HO2 hA HB2
    rename World => wq
    obtain ⟨m, bb, xs, ev, fv, uv, rfl, rfl, hm, hS, hF, hO, hA, hB⟩ := hrel
    cases m with
    | zero =>
     exfalso
     have h2 := hS.out;rw [List.drop_eq_nil_of_le (by rw [List.length_reverse, HRL.out]; omega)] at h2;have h3 := HLT.out;rw [← h2] at h3
     cases h3
    | succ m =>
     obtain ⟨co, cc, e, _, hCI⟩ := hO.out.in;obtain ⟨rfl, rfl⟩ : go = co ∧ qc = cc := by simp at e; exact e
     have hmr : m < (orderP gs).length := by omega
     obtain ⟨cb, coff, rfl, hcb, hcc⟩ := ints_at hCI (k := m) (by omega);have ec := hcc m (by omega);obtain ⟨j, hj, ej⟩ := HR.out.rng (el (orderP gs) m) (el_mem hmr);rw [ej] at ec;have hjt : j < ts.length := by omega
     have hel : el (orderP gs).reverse (ts.length - (m + 1)) = (j : Int) := by rw [el_reverse (by omega), ← ej]; congr 1; omega
     have hdr : (orderP gs).reverse.drop (ts.length - (m + 1)) = (j : Int) :: (orderP gs).reverse.drop (ts.length - m) := by
      have hlr : ts.length - (m + 1) < (orderP gs).reverse.length := by rw [List.length_reverse]; omega
      rw [List.drop_eq_getElem_cons hlr, ← el_at hlr, hel, show ts.length - (m + 1) + 1 = ts.length - m by omega]
     have hS2 := hS.out;rw [hdr, lastS] at hS2;have HS2 := hid hS2;have hjs : j < sk.bx.length := by omega
     have hji : (j : Int) < (sk.bx.length : Int) := by omega
     have c4 := hF.out.box.c 4 rfl;have ck := (hF.out.head hjs).1;obtain ⟨ho, hc, hsl, _, _⟩ := hF.out.hnd.slice hjs;rw [hsl] at ck;have hpq := hF.out.box.size;have hbq := hF.out.hnd.size;clear hsl hS hS2 hdr hel ej hcc hCI e
     cases hbx : el sk.bx j with
     | nil =>
      rw [hbx] at ck;dsimp only [List.length_nil] at ck;have hR5 : stepR gs sk (j : Int) = (5, sk) := by rw [stepR, if_pos ⟨by omega, by omega⟩, Int.toNat_natCast, hbx]
      have hS3 := HS2.out;rw [hR5, if_neg (show ¬ (5 : Int) = 0 by decide)] at hS3;have HS3 := hid hS3;clear hS3 hR5 hbx;go_wp2_with fail;go_roundw
      case rel => exact ⟨m, bb, xs, ev, fv, uv, rfl, rfl, by omega, HS3, hF, hO, hA, hB⟩
      case measure => simp [intOf]
     | cons t r =>
      obtain ⟨t1, t2, t3⟩ := t;obtain ⟨n, hbn⟩ := HRI.out.bnd;have htr := HRI.out.tr j (t1, t2, t3) (by rw [hbx]; simp);have hvv := HRI.out.inv.val j (t1, t2, t3) (by rw [hbx]; simp);have hem := HRI.out.em;have hfa := HRI.out.fa2;have hwn : 0 ≤ bxsF (fun k _ => wdP gs (orderP gs) k) sk.bx := bxsF_nn fun i t hi _ => by have := wdP_one HR.out HG.out.edg HG.out.st (show i < gs.length by omega); omega
      have htc := tot_cap HG.out HRI.out.inv HRI.out.len;dsimp only at htr hvv;have hst := stepS_any lo wq p bb gb goff gc ts xs ev fv uv sk j t1 t2 t3 r hF.out (by omega) hjt hbx (HZ.out.below dNode_ok hB.out) (by rw [← HGS.out]; exact HG.out) hvv (by omega) (by omega) (by have := hbn.fu; omega) hbn.ti0 hbn.ti1 htr.1 (by omega);rw [← HGS.out] at hst;have HST := hid hst;rw [hbx] at ck;have hne2 : (0 : Int) < ((((t1, t2, t3) :: r).length : Nat) : Int) := by rw [List.length_cons]; omega
      have hne3 : 0 < r.length + 1 := by omega
      clear hst htr hvv hem hfa hwn htc hbn hbx;obtain ⟨cd, hcd⟩ : ∃ cd, cd = (stepR gs sk (j : Int)).1 := ⟨_, rfl⟩
      by_cases h0 : cd = 0
      ·have HNX2 : Hid (itS gs (k + 1) s0 = (stepR gs sk (j : Int)).2) := by
        have h2 := HS2.out;rw [← hcd, if_pos h0] at h2;rw [Hid, HNX.out, ← h2]
       rw [← hcd, h0] at HST;clear hcd h0;go_wp2_with fail;refine HST.out.mono ?_;rintro e w4 ⟨rfl, hs4⟩;obtain ⟨bb4, xs4, ev4, fv4, uv4, F4, O4, A4, B4⟩ := hs4.codes hO.out hA.out;have HF4 := hid F4;have HO4 := hid O4;have HA4 := hid A4;have HB4 := hid (hB.out.trans B4);clear hs4 F4 O4 A4 B4 HST c4 ck ec;go_wp2;go_roundw
       case rel => exact ⟨k + 1, bb4, xs4, ev4, fv4, uv4, by go_num, by omega, by rw [HNX2.out]; exact HF4, HO4, HA4, HB4⟩
       case measure => simp [intOf]; omega
      ·have HNO := hid (step_no (gs := gs) (s := sk) (m := (j : Int)) (by rw [← hcd]; exact h0));have HS3 : Hid (lastS gs ((orderP gs).reverse.drop (ts.length - m)) sk = lastS gs (orderP gs).reverse sk) := by
        have h2 := HS2.out
        rwa [← hcd, if_neg h0] at h2
       rw [← hcd, HNO.out] at HST;have hd0 : (cd == 0) = false := by simpa using h0
       clear hcd h0;go_wp2_with fail;refine HST.out.mono ?_;rintro e w4 ⟨rfl, hs4⟩;obtain ⟨bb4, xs4, ev4, fv4, uv4, F4, O4, A4, B4⟩ := hs4.codes hO.out hA.out;have HF4 := hid F4;have HO4 := hid O4;have HA4 := hid A4;have HB4 := hid (hB.out.trans B4);clear hs4 F4 O4 A4 B4 HST c4 ck ec;go_wp2;go_roundw
       case rel => exact ⟨m, bb4, xs4, ev4, fv4, uv4, rfl, rfl, by omega, HS3, HF4, HO4, HA4, HB4⟩
       case measure => simp [intOf]
  ·obtain rfl : k = K := by omega
   have hd := HK.out.stop;obtain ⟨sk, hsk⟩ : ∃ sk, sk = itS gs k s0 := ⟨_, rfl⟩;have HSK := hid hsk;rw [← hsk] at hF HRI HL hd;rw [hd] at HL;clear hsk hd htc hlen;go_wp2_with fail;refine HL.out.mono ?_;rintro e w2 ⟨rfl, hb2⟩;have HF2 := hid (hF.out.later hb2);have HB2 := hid (hB.out.trans (hb2.mono hF.out.lo_le));clear hb2 hF hO hB HL;go_wp2;go_ret;exact ⟨bb, xs, ev, fv, uv, rfl, by rw [← HS0.out, ← HSK.out]; exact HF2.out, HB2.out⟩
end
section
open Go.RowKit Go.Shelf

theorem lastS_none {gs : List PNode} {s : PP} : ∀ {l : List Int}, (∀ i, i < l.length → (stepR gs s (el l i)).1 ≠ 0) → lastS gs l s = (false, s)
 | [], _ => rfl
 | x :: r, h => by
  have h0 := h 0 (by simp);rw [el_zero] at h0;rw [lastS, if_neg h0];exact lastS_none fun i hi => by have := h (i + 1) (by simp; omega); rwa [el_cons] at this
theorem lastS_at {gs : List PNode} {s : PP} : ∀ {l : List Int} {k : Nat}, k < l.length → (∀ i, i < k → (stepR gs s (el l i)).1 ≠ 0) → (stepR gs s (el l k)).1 = 0 → lastS gs l s = (true, (stepR gs s (el l k)).2)
 | [], _, h, _, _ => by simp at h
 | x :: r, 0, _, _, h0 => by rw [el_zero] at h0 ⊢; rw [lastS, if_pos h0]
 | x :: r, k + 1, hk, h, h0 => by
  have h1 := h 0 (by omega);rw [el_zero] at h1;rw [el_cons] at h0 ⊢;rw [lastS, if_neg h1];exact lastS_at (by simpa using hk) (fun i hi => by have := h (i + 1) (by omega); rwa [el_cons] at this) h0
theorem own_cellsR {α : Type} {K : Kind α} {lo : Nat} {W : World} {v : Value} {xs : List α} (h : K.Own lo W v xs) {b : Nat} (hb : v.ownBlock = some b) : ∃ o : Obj, W.heap[b]? = some o ∧ o.isCells = true := by
 rcases h.2 with ⟨e, _⟩ | ⟨g, cap, cur, e, hg, hh, _⟩
 ·subst e; simp [Value.ownBlock] at hb
 ·subst e; simp [Value.ownBlock] at hb; subst hb; exact ⟨_, hh, rfl⟩
theorem Flow.cells {lo : Nat} {W : World} {p bb : Nat} {gv sv : Value} {xs : List Value} {ev fv uv : Value} {s : PP} (h : Flow lo W p bb gv sv xs ev fv uv s) {b : Nat} (hb : FO p bb xs ev fv uv b) : ∃ o : Obj, W.heap[b]? = some o ∧ o.isCells = true := by
 rcases hb with rfl | rfl | ⟨j, hj, hb⟩ | hb | hb | hb
 ·exact cells_of_cell (h.box.c 0 rfl)
 ·rcases h.hnd.head.2 with ⟨e, _⟩ | ⟨g, cap, cur, e, hg, hh, _⟩
  ·cases e
  ·obtain ⟨rfl, _⟩ : _ = g ∧ _ := by simp at e; exact e
   exact ⟨_, hh, rfl⟩
 ·exact own_cellsR (h.hnd.row j (by rw [← h.hnd.len]; exact hj)) hb
 ·exact own_cellsR h.emo hb
 ·exact own_cellsR h.fao hb
 ·exact own_cellsR h.fuo hb
/-- A step with its rows named. -/
structure FY (lo p : Nat) (gv sv : Value) (O : Nat → Prop) (W W' : World) (bb : Nat) (xs : List Value) (ev fv uv : Value) (s : PP) : Prop where
 flow : Flow lo W' p bb gv sv xs ev fv uv s
 old : ∀ b, FO p bb xs ev fv uv b → O b ∨ W.heap.size ≤ b
 low : Below lo W W'
 kept : ∀ b, b < W.heap.size → ¬ O b → W'.heap[b]? = W.heap[b]?
theorem FY.step {lo p : Nat} {gv sv : Value} {O : Nat → Prop} {W W' : World} {bb : Nat} {xs : List Value} {ev fv uv : Value} {s : PP} (h : FY lo p gv sv O W W' bb xs ev fv uv s) : FStep lo p gv sv O W W' s :=
 ⟨_, ⟨bb, xs, ev, fv, uv, h.flow, fun _ hb => hb⟩, h.old, h.low, h.kept⟩
theorem FStep.fy {lo p : Nat} {gv sv : Value} {O : Nat → Prop} {W W' : World} {s : PP} (h : FStep lo p gv sv O W W' s) : ∃ bb xs ev fv uv, FY lo p gv sv O W W' bb xs ev fv uv s := by
 obtain ⟨O', ⟨bb, xs, ev, fv, uv, F, hF⟩, hs, hb, hk⟩ := h;exact ⟨bb, xs, ev, fv, uv, F, fun b h1 => hs b (hF b h1), hb, hk⟩
theorem FY.refl {lo p : Nat} {gv sv : Value} {W : World} {bb : Nat} {xs : List Value} {ev fv uv : Value} {s : PP} (h : Flow lo W p bb gv sv xs ev fv uv s) : FY lo p gv sv (FO p bb xs ev fv uv) W W bb xs ev fv uv s :=
 ⟨h, fun _ hb => .inl hb, Below.refl _ _, fun _ _ _ => rfl⟩
theorem Flow.lo_le {lo p : Nat} {gv sv : Value} {W : World} {bb : Nat} {xs : List Value} {ev fv uv : Value} {s : PP} (h : Flow lo W p bb gv sv xs ev fv uv s) : lo ≤ W.heap.size := Nat.le_of_lt (Nat.lt_of_le_of_lt h.lop h.box.size)
theorem FY.later {lo p : Nat} {gv sv : Value} {O : Nat → Prop} {W W1 V : World} {bb : Nat} {xs : List Value} {ev fv uv : Value} {s : PP} (h : FY lo p gv sv O W W1 bb xs ev fv uv s) (hb : Below W1.heap.size W1 V) : FY lo p gv sv O W V bb xs ev fv uv s :=
 ⟨h.flow.later hb, h.old, h.low.trans (hb.mono h.flow.lo_le), fun b h1 h2 => (hb.block b (Nat.lt_of_lt_of_le h1 h.low.size)).trans (h.kept b h1 h2)⟩
theorem FY.trans {lo p : Nat} {gv sv : Value} {O : Nat → Prop} {W W1 W2 : World} {bb bb2 : Nat} {xs xs2 : List Value} {ev fv uv ev2 fv2 uv2 : Value} {s s2 : PP} (h : FY lo p gv sv O W W1 bb xs ev fv uv s) (h2 : FY lo p gv sv (FO p bb xs ev fv uv) W1 W2 bb2 xs2 ev2 fv2 uv2 s2) : FY lo p gv sv O W W2 bb2 xs2 ev2 fv2 uv2 s2 := by
 have hz := h.low.size;refine ⟨h2.flow, fun b h1 => ?_, h.low.trans h2.low, fun b h1 h3 => ?_⟩
 ·rcases h2.old b h1 with h4 | h4
  ·exact h.old b h4
  ·exact .inr (by omega)
 ·have hn : ¬ FO p bb xs ev fv uv b := fun h4 => by
   rcases h.old b h4 with h5 | h5
   ·exact h3 h5
   ·omega
  exact (h2.kept b (by omega) hn).trans (h.kept b h1 h3)
/-- Only cells are turned. -/
theorem FY.others {lo p : Nat} {gv sv : Value} {W W' : World} {bb bb2 : Nat} {xs xs2 : List Value} {ev fv uv ev2 fv2 uv2 : Value} {s s2 : PP} (hF : Flow lo W p bb gv sv xs ev fv uv s) (h : FY lo p gv sv (FO p bb xs ev fv uv) W W' bb2 xs2 ev2 fv2 uv2 s2) : KeepsOthers W W' :=
 ⟨h.low.size, fun k o h1 ho => (h.kept k (Array.getElem?_eq_some_iff.1 h1).1 (fun hO => by
  obtain ⟨o2, h2, hc⟩ := hF.cells hO;rw [h1] at h2; cases h2; rw [ho] at hc; cases hc)).trans h1⟩
/-- Where something that is no cells turns, beyond. -/
theorem FY.grown {lo p S : Nat} {gv sv : Value} {O : Nat → Prop} {W W1 V : World} {bb : Nat} {xs : List Value} {ev fv uv : Value} {s : PP} {row : Option Nat} (h : FY lo p gv sv O W W1 bb xs ev fv uv s) (hS : W.heap.size ≤ S) (hl : lo ≤ S) (hg : W1.grownBy V row) (hr : ∀ r, row = some r → S ≤ r ∧ ∃ o : Obj, W1.heap[r]? = some o ∧ o.isCells = false) : FY lo p gv sv O W V bb xs ev fv uv s := by
 have hsz := h.low.size;refine ⟨h.flow.keep hg.size fun b hb => by obtain ⟨o, ho, hc⟩ := h.flow.cells hb; exact grownBy_keeps_cells hg (fun r e => (hr r e).2) ho hc, h.old, ?_, fun b h1 h2 => ?_⟩
 ·exact h.low.grown hg h.flow.lo_le fun k e => by have := (hr k e).1; omega
 ·exact (hg.block b (by omega) fun e => by have := (hr b e.symm).1; omega).trans (h.kept b h1 h2)
/-- Between two rounds. -/
structure LInv (gs : List PNode) (R : List Int) (lo p : Nat) (gv sv : Value) (O : Nat → Prop) (W0 : World) (s : PP) (B b Bs S : Nat) (pre : List Nat) (W : World) : Prop where
 fy : ∃ bb xs ev fv uv, FY lo p gv sv O W0 W bb xs ev fv uv s ∧ ∀ x, (x = B ∨ x = B + 1 ∨ x = b ∨ x = Bs) → ¬ FO p bb xs ev fv uv x
 box : Bx W B [.pointer (some ⟨p, 0, none⟩)]
 res : Bx W (B + 1) [.bool false]
 no : ∀ i ∈ pre, (stepR gs s (el R.reverse i)).1 ≠ 0
 siz : S ≤ W.heap.size
/-- Where a round has left. -/
structure LRet (gs : List PNode) (R : List Int) (lo p : Nat) (gv sv : Value) (O : Nat → Prop) (W0 : World) (s : PP) (B : Nat) (c : Code) (pre : List Nat) (W : World) : Prop where
 ret : c = .ret
 spot : ∃ pre0 x, pre = pre0 ++ [x] ∧ (∀ i ∈ pre0, (stepR gs s (el R.reverse i)).1 ≠ 0) ∧ (stepR gs s (el R.reverse x)).1 = 0 ∧ ∃ bb xs ev fv uv, FY lo p gv sv O W0 W bb xs ev fv uv (stepR gs s (el R.reverse x)).2
 res : Bx W (B + 1) [.bool true]
theorem LInv.kept {gs : List PNode} {R : List Int} {lo p : Nat} {gv sv : Value} {O : Nat → Prop} {W0 : World} {s : PP} {B b Bs S S2 : Nat} {pre : List Nat} {W W' : World} {row : Option Nat} (h : LInv gs R lo p gv sv O W0 s B b Bs S pre W) (h1 : W0.heap.size ≤ S2) (h2 : lo ≤ S2) (hg : W.grownBy W' row) (hr : ∀ r, row = some r → S2 ≤ r ∧ ∃ o : Obj, W.heap[r]? = some o ∧ o.isCells = false) : LInv gs R lo p gv sv O W0 s B b Bs S pre W' := by
 obtain ⟨bb, xs, ev, fv, uv, hf, hn⟩ := h.fy;exact ⟨⟨bb, xs, ev, fv, uv, hf.grown h1 h2 hg hr, hn⟩, h.box.kept hg (fun r e => (hr r e).2), h.res.kept hg (fun r e => (hr r e).2), h.no, Nat.le_trans h.siz hg.size⟩
theorem LRet.kept {gs : List PNode} {R : List Int} {lo p : Nat} {gv sv : Value} {O : Nat → Prop} {W0 : World} {s : PP} {B S2 : Nat} {c : Code} {pre : List Nat} {W W' : World} {row : Option Nat} (h : LRet gs R lo p gv sv O W0 s B c pre W) (h1 : W0.heap.size ≤ S2) (h2 : lo ≤ S2) (hg : W.grownBy W' row) (hr : ∀ r, row = some r → S2 ≤ r ∧ ∃ o : Obj, W.heap[r]? = some o ∧ o.isCells = false) : LRet gs R lo p gv sv O W0 s B c pre W' := by
 obtain ⟨pre0, x, e, hno, h0, bb, xs, ev, fv, uv, hf⟩ := h.spot;exact ⟨h.ret, ⟨pre0, x, e, hno, h0, bb, xs, ev, fv, uv, hf.grown h1 h2 hg hr⟩, h.res.kept hg (fun r e => (hr r e).2)⟩
theorem FY.setNew {lo p : Nat} {gv sv : Value} {O : Nat → Prop} {W W1 : World} {bb : Nat} {xs : List Value} {ev fv uv : Value} {s : PP} (h : FY lo p gv sv O W W1 bb xs ev fv uv s) (hlo : lo ≤ W.heap.size) {a : Addr} (ha : ¬ FO p bb xs ev fv uv a.block) (h2 : W.heap.size ≤ a.block) (u : Value) : FY lo p gv sv O W (W1.setCell a u) bb xs ev fv uv s :=
 ⟨h.flow.keep (KeepsOthers.setCell _ _ _).size fun b hb => Below.heap_setCell _ _ _ _ (fun e => ha (by rw [← e]; exact hb)), h.old, h.low.setCell (p := a) (by omega) u, fun b h3 h4 => (Below.heap_setCell _ _ _ _ (by omega)).trans (h.kept b h3 h4)⟩
attribute [local go_sem] Oper.semAt_some
set_option maxRecDepth 100000 in
set_option maxHeartbeats 8000000 in
theorem stepLast_any (lo : Nat) (W : World) (p bb gb goff gc : Nat) (ts : List LNode) (sv : Value) (xs : List Value) (ev fv uv : Value) (s : PP) (go : Option Addr) (qc : Nat) (R : List Int) (h : Flow lo W p bb (.slice (some ⟨gb, goff, none⟩) ts.length gc) sv xs ev fv uv s) (hz : DIn dNode lo W (some ⟨gb, goff, none⟩) ts) (h1 : 0 < ts.length) (hG : GoodE (ts.map valNode)) (hR : Ordd (ts.map valNode) R) (hR0 : Ordd (ts.map valNode) (orderP (ts.map valNode))) (hI : RunI (ts.map valNode) 40000 9000 s) (hO : kI.Own lo W (.slice go R.length qc) R) (hA : ∀ b, (Value.slice go R.length qc).ownBlock = some b → ¬ FO p bb xs ev fv uv b) :
  Calls Tryz.prog 62 #[.pointer (some ⟨p, 0, none⟩), .slice go R.length qc] W fun e W' => e = .returned (.bool (lastS (ts.map valNode) R.reverse s).1) ∧ FStep lo p (.slice (some ⟨gb, goff, none⟩) ts.length gc) sv (FO p bb xs ev fv uv) W W' (lastS (ts.map valNode) R.reverse s).2 := by
 have hmany : ts.length ≤ 10 := by have := hG.edg.many; rw [List.length_map] at this; exact this
 have hRl : R.length = ts.length := by rw [hR.len, val_len]
 have hlo : lo ≤ W.heap.size := h.lo_le;have hp := h.box.size;obtain ⟨n0, hbn⟩ := hI.bnd;have hlen := hI.len;rw [val_len] at hlen;have htc := tot_cap hG hI.inv hI.len;have hem := hI.em;have hfa := hI.fa2;have hwn : 0 ≤ bxsF (fun k _ => wdP (ts.map valNode) (orderP (ts.map valNode)) k) s.bx := bxsF_nn fun i t hi _ => by
  have hORD : Ordd (ts.map valNode) (orderP (ts.map valNode)) := hR0;have := wdP_one hORD hG.edg hG.st (show i < (ts.map valNode).length by rw [val_len]; omega); omega
 have HST : Hid (∀ (V : World) (bb : Nat) (xs : List Value) (ev fv uv : Value) (m : Int), Flow lo V p bb (.slice (some ⟨gb, goff, none⟩) ts.length gc) sv xs ev fv uv s → Below lo W V → Calls Tryz.prog 92 #[.pointer (some ⟨p, 0, none⟩), .agg #[.int .i64 2, .int .i64 m, .int .i64 0]] V fun e W' => e = .returned (.int .i64 (stepR (ts.map valNode) s m).1) ∧ FStep lo p (.slice (some ⟨gb, goff, none⟩) ts.length gc) sv (FO p bb xs ev fv uv) V W' (stepR (ts.map valNode) s m).2) := fun V bb xs ev fv uv m hF hb =>
  step_any lo V p bb gb goff gc ts sv xs ev fv uv s 2 m 0 hF hlen (hz.below dNode_ok hb) hG.edg (fun j hj => by have := hG.cap j (by rw [val_len]; exact hj); omega) (by omega) (by omega) (by have := hbn.fu; omega) hbn.ti0 hbn.ti1 (fun k t1 t2 t3 r e => by have := hI.tr k (t1, t2, t3) (by rw [e]; simp); dsimp only at this; omega)
 have HH := hid h;have HO := hid hO;have HA := hid hA;have hRr : ∀ x ∈ R.reverse, ∃ j : Nat, j < (ts.map valNode).length ∧ x = (j : Int) := fun x hx => hR.rng x (List.mem_reverse.1 hx)
 have HRR := hid hRr;obtain ⟨gs, hgs⟩ : ∃ gs, gs = ts.map valNode := ⟨_, rfl⟩;rw [← hgs] at HST HRR ⊢;have hgl : gs.length = ts.length := by rw [hgs, val_len]
 clear hRr hgs hwn hfa hem htc hlen hbn hI hR hG hz hO hA;refine (callsIn_wide (n := 6)).1 ?_;have hro : Fence.wide.round = none := rfl;refine callsIn_of_wp_marks Tryz.func62 rfl trivial ?_ hro;simp only [Tryz.ntmps62, List.size_toArray, List.length_cons, List.length_nil, Nat.reduceAdd, Nat.reduceSub, Array.replicate_succ, Array.replicate_zero, List.push_toArray, List.append_toArray, List.nil_append, List.cons_append];have HRL := hid hRl;have hr1 : 0 < R.length := by omega
 have hr2 : R.length ≤ 10 := by omega
 clear hRl
 gi_wp2_with fail
 refine ⟨trivial, ?_⟩;refine (callsIn_wide.2 (backward_any go R.length qc _)).mono ?_;rintro e w4 ⟨rfl, rfl⟩
 gi_wp2_with fail
 obtain ⟨W4, hW4⟩ : ∃ W4, W4 = (((W.alloc (.cells #[.pointer (some ⟨p, 0, none⟩)] 65)).alloc (.cells #[.bool false] 4)).alloc (.cells #[.slice go R.length qc] 30)) := ⟨_, rfl⟩;rw [← hW4];have HB4 : Hid (Below W.heap.size W W4) := by rw [Hid, hW4]; exact (below2 _ _ _).trans ((below1 _ _).mono (by simp; omega))
 have S4 : W4.heap.size = W.heap.size + 3 := by rw [hW4]; simp
 have C4 : W4.cell? ⟨W.heap.size + 2, 0, none⟩ = some (.slice go R.length qc) := by
  have := (Bx.new (w := (W.alloc (.cells #[.pointer (some ⟨p, 0, none⟩)] 65)).alloc (.cells #[.bool false] 4)) [.slice go R.length qc] 30 rfl).c 0 rfl;rw [hW4]; simpa using this
 have FR4 : Bx W4 (W.heap.size + 1) [.bool false] := by
  have := Bx.new (w := W.alloc (.cells #[.pointer (some ⟨p, 0, none⟩)] 65)) [.bool false] 4 rfl;have h2 := this.later (below1 _ (.cells #[.slice go R.length qc] 30));rw [hW4]; simpa using h2
 have FB4 : Bx W4 W.heap.size [.pointer (some ⟨p, 0, none⟩)] := by
  have := Bx.new (w := W) [.pointer (some ⟨p, 0, none⟩)] 65 rfl;have h2 := this.later (below2 _ (.cells #[.bool false] 4) (.cells #[.slice go R.length qc] 30));rw [hW4]; exact h2
 obtain ⟨b, off, rfl, hbW, hcs⟩ : ∃ b off, go = some ⟨b, off, none⟩ ∧ b < W.heap.size ∧ ∀ j, j < R.length → W.cell? ⟨b, off + j, none⟩ = some (.int .i64 (el R j)) := by
  obtain ⟨co, cc, e, _, hCI⟩ := HO.out.in;obtain ⟨rfl, rfl⟩ : go = co ∧ qc = cc := by simp at e; exact e
  obtain ⟨b, off, e2, hb, hc⟩ := ints_at hCI hr1;exact ⟨b, off, e2, hb, hc⟩
 have hbF : ¬ FO p bb xs ev fv uv b := HA.out b rfl;have hbI : R = [] ∨ ∃ o2, (some (⟨b, off, none⟩ : Addr)) = some ⟨b, o2, none⟩ ∧ b < W4.heap.size ∧ ∀ j, j < R.length → W4.cell? ⟨b, o2 + j, none⟩ = some (.int .i64 (el R j)) := .inr ⟨off, rfl, by omega, fun j hj => (HB4.out.cell (p := ⟨b, off + j, none⟩) hbW).trans (hcs j hj)⟩;have hinv0 : LInv gs R lo p (.slice (some ⟨gb, goff, none⟩) ts.length gc) sv (FO p bb xs ev fv uv) W s W.heap.size b (W.heap.size + 2) W4.heap.size [] W4 :=
  ⟨⟨bb, xs, ev, fv, uv, (FY.refl HH.out).later HB4.out, fun x hx => by
   rcases hx with rfl | rfl | rfl | rfl
   ·exact HH.out.far (Nat.le_refl _)
   ·exact HH.out.far (by omega)
   ·exact hbF
   ·exact HH.out.far (by omega)⟩, FB4, FR4, (fun i hi => by cases hi), Nat.le_refl _⟩
 clear hW4 FR4 FB4 hcs;refine wpIn_rangeFunc_ownG hro (by omega) (gf := 86) (lb := #[.pointer (some ⟨W.heap.size + 2, 0, none⟩)]) rfl trivial (enters_of Tryz.func86 (by kernel_rfl) rfl)
  (back_stops Fence.wide (6 - 1) trivial hro (by omega) (W.heap.size + 2) b (some ⟨b, off, none⟩) qc R (by omega) W4 (by omega) C4 hbI) Same2.trans (fun W' l o o' h1 h2 h3 h4 => ⟨sameB_put (by omega) W' l o o' h1 h2 h3 h4, sameB_put (by omega) W' l o o' h1 h2 h3 h4⟩) (Below.refl _ _) (fun _ => rfl)
  (fun pre W' => LInv gs R lo p (.slice (some ⟨gb, goff, none⟩) ts.length gc) sv (FO p bb xs ev fv uv) W s W.heap.size b (W.heap.size + 2) W4.heap.size pre W')
  (fun c pre W' => LRet gs R lo p (.slice (some ⟨gb, goff, none⟩) ts.length gc) sv (FO p bb xs ev fv uv) W s W.heap.size c pre W')
  (fun _ _ _ _ hs hg hr => hs.kept (S2 := W4.heap.size) (by omega) (by omega) hg hr)
  (fun _ _ _ _ _ hs hg hr => hs.kept (S2 := W4.heap.size) (by omega) (by omega) hg hr)
  hinv0
  (fun x => { tmps := #[.pointer (some ⟨p, 0, none⟩), .slice (some ⟨b, off, none⟩) R.length qc, .pointer (some ⟨W.heap.size, 0, none⟩), undef, .pointer (some ⟨W.heap.size + 1, 0, none⟩), undef, .int .i64 (el R.reverse x), .slice (some ⟨b, off, none⟩) R.length qc, .func (.func 86) #[] #[.pointer (some ⟨W.heap.size + 2, 0, none⟩)], .int .i64 ((R.length : Int) - 1 - (x : Int)), .int .i64 (el R.reverse x), undef, undef, undef, undef, undef], defers := [] }) ?assign ?body ?done ?stop
 case assign =>
  intro l x W K hK;simp only [bkA, tvI]
  gi_wp2
  exact hK
 case body =>
  rintro l pre x Wq hI hlen;have hmx : Tryz.prog.follows .mixedOrders = true := by kernel_rfl
  obtain ⟨k, hk, ek⟩ := el_rng HRR.out (by omega) x;obtain ⟨bb1, xs1, ev1, fv1, uv1, hfy, hno⟩ := hI.fy;have HFY := hid hfy;have HNO := hid hno;have g0 := hI.box.c 0 rfl;have r0 := hI.res.c 0 rfl;have rf := hI.res.f 0 rfl;have hsz := hI.siz;have HI := hid hI;have HSt := hid (fun V hb => HST.out V bb1 xs1 ev1 fv1 uv1 (k : Int) (HFY.out.flow.later hb) (HFY.out.low.trans (hb.mono HFY.out.flow.lo_le)));rw [ek];have HEK := hid ek;clear ek hfy hno hI;obtain ⟨cd, hcd⟩ : ∃ cd, cd = (stepR gs s (k : Int)).1 := ⟨_, rfl⟩;rw [← hcd] at HSt;have HSD := hid hcd;clear hcd
  by_cases h0 : cd = 0
  ·subst h0
   gi_wp2_with fail
   refine ⟨trivial, ?_⟩;refine (CallsIn.inRound l (callsIn_wide.2 (HSt.out Wq (Below.refl _ _)))).mono ?_;rintro e w5 ⟨rfl, hs5⟩;obtain ⟨bb5, xs5, ev5, fv5, uv5, F5⟩ := hs5.fy;have KO := hid (FY.others HFY.out.flow F5);have HT := hid (HFY.out.trans F5);have hkb : ∀ y, (y = W.heap.size ∨ y = W.heap.size + 1 ∨ y = b ∨ y = W.heap.size + 2) → w5.heap[y]? = Wq.heap[y]? := fun y hy => F5.kept y (by omega) (HNO.out y hy)
   have hnf : ∀ y, (y = W.heap.size ∨ y = W.heap.size + 1 ∨ y = b ∨ y = W.heap.size + 2) → ¬ FO p bb5 xs5 ev5 fv5 uv5 y := fun y hy hO => by
    rcases F5.old y hO with h4 | h4
    ·exact HNO.out y hy h4
    ·omega
   have HKB := hid hkb;have HNF := hid hnf;have B5 := hid (HI.out.box.keep F5.low.size (hkb _ (.inl rfl)));have R5 := hid (HI.out.res.keep F5.low.size (hkb _ (.inr (.inl rfl))));obtain ⟨r5, rf5, _⟩ := R5.out.x1;have hs5z := F5.low.size;clear hs5 F5 hkb hnf g0 r0 rf
   gi_wp2
   refine ⟨(KO.out.trans (KeepsOthers.setCell _ _ _)).from _, rfl, ⟨pre, x, rfl, HI.out.no, by rw [HEK.out]; exact HSD.out.symm, bb5, xs5, ev5, fv5, uv5, by rw [HEK.out]; exact HT.out.setNew hlo (HNF.out _ (.inr (.inl rfl))) (by simp only; omega) _⟩, R5.out.set 0 _⟩
  ·have hd0 : (cd == 0) = false := by simpa using h0
   have hsame := step_no (gs := gs) (s := s) (m := (k : Int)) (by rw [← HSD.out]; exact h0);have HSM := hid hsame;clear h0 hsame
   gi_wp2_with fail
   refine ⟨trivial, ?_⟩;refine (CallsIn.inRound l (callsIn_wide.2 (HSt.out Wq (Below.refl _ _)))).mono ?_;rintro e w5 ⟨rfl, hs5⟩;obtain ⟨bb5, xs5, ev5, fv5, uv5, F5⟩ := hs5.fy;have KO := hid (FY.others HFY.out.flow F5);have HT := hid (HFY.out.trans F5);have hkb : ∀ y, (y = W.heap.size ∨ y = W.heap.size + 1 ∨ y = b ∨ y = W.heap.size + 2) → w5.heap[y]? = Wq.heap[y]? := fun y hy => F5.kept y (by omega) (HNO.out y hy)
   have hnf : ∀ y, (y = W.heap.size ∨ y = W.heap.size + 1 ∨ y = b ∨ y = W.heap.size + 2) → ¬ FO p bb5 xs5 ev5 fv5 uv5 y := fun y hy hO => by
    rcases F5.old y hO with h4 | h4
    ·exact HNO.out y hy h4
    ·omega
   have HKB := hid hkb;have HNF := hid hnf;have B5 := hid (HI.out.box.keep F5.low.size (hkb _ (.inl rfl)));have R5 := hid (HI.out.res.keep F5.low.size (hkb _ (.inr (.inl rfl))));obtain ⟨r5, rf5, _⟩ := R5.out.x1;have hs5z := F5.low.size;clear hs5 F5 hkb hnf g0 r0 rf;rw [HSM.out] at HT
   gi_wp2
   refine ⟨KO.out.from _, ⟨HKB.out _ (.inr (.inr (.inl rfl))), HKB.out _ (.inr (.inr (.inr rfl)))⟩, ⟨bb5, xs5, ev5, fv5, uv5, HT.out, HNF.out⟩, B5.out, R5.out, fun i hi => ?_, by omega⟩
   rcases List.mem_append.1 hi with h1 | h1
   ·exact HI.out.no i h1
   ·rw [List.mem_singleton.1 h1, HEK.out, ← HSD.out];intro e; rw [e] at hd0; cases hd0
 case done =>
  rintro D ys W5 hD rfl hI hK;have r0 := hI.res.c 0 rfl;have rf := hI.res.f 0 rfl;have HI := hid hI;have HK := hid hK;clear hI hK
  gi_wp2
  have hK2 : (W5.setCell ⟨W.heap.size + 1, 0, none⟩ (.bool false)).heap[D]? = some (.deferred (some [])) := (Below.heap_setCell _ _ _ _ (by simp only; omega)).trans HK.out;refine ⟨by simp, .inl ⟨_, _, rfl, run_takeDeferred hK2, ?_⟩⟩;have hg := grownBy_putObj' (W5.setCell ⟨W.heap.size + 1, 0, none⟩ (.bool false)) D (.deferred none);have hrow : ∀ r, some D = some r → W4.heap.size ≤ r ∧ ∃ o : Obj, (W5.setCell ⟨W.heap.size + 1, 0, none⟩ (.bool false)).heap[r]? = some o ∧ o.isCells = false := fun r e => by cases e; exact ⟨hD, _, hK2, rfl⟩
  obtain ⟨bb5, xs5, ev5, fv5, uv5, hf, hn⟩ := HI.out.fy;have HFin := hid ((hf.setNew hlo (hn _ (.inr (.inl rfl))) (by simp only; omega) (.bool false)).grown (S := W4.heap.size) (by omega) (by omega) hg hrow);have hres := ((HI.out.res.set 0 (.bool false)).kept hg (fun r e => (hrow r e).2)).c 0 rfl;have HL := hid (lastS_none (gs := gs) (s := s) (l := R.reverse) fun i hi => HI.out.no i (List.mem_range.2 (by rw [List.length_reverse] at hi; exact hi)))
  generalize (W5.setCell ⟨W.heap.size + 1, 0, none⟩ (.bool false)).putObj D (.deferred none) = Wf at HFin hres ⊢
  clear hf hn r0 rf hg hrow hK2;refine ⟨.bool false, ?_, ?_⟩
  ·simp [results, Tryz.f62, go_sem, hres]
  ·rw [HL.out];exact ⟨rfl, HFin.out.step⟩
 case stop =>
  rintro D c pre W5 hD ⟨kk, hkk, hpre⟩ hI hK;obtain ⟨rfl, ⟨pre0, x, e, hno, h0, bb5, xs5, ev5, fv5, uv5, hf⟩, hres⟩ := hI
  gi_wp2
  refine ⟨by simp, .inl ⟨_, _, rfl, run_takeDeferred hK, ?_⟩⟩;have hg := grownBy_putObj' W5 D (.deferred none);have hrow : ∀ r, some D = some r → W4.heap.size ≤ r ∧ ∃ o : Obj, W5.heap[r]? = some o ∧ o.isCells = false := fun r e => by cases e; exact ⟨hD, _, hK, rfl⟩
  have HFin := hid (hf.grown (S := W4.heap.size) (by omega) (by omega) hg hrow);have hres2 := (hres.kept hg (fun r e => (hrow r e).2)).c 0 rfl;have HL : Hid (lastS gs R.reverse s = (true, (stepR gs s (el R.reverse x)).2)) := by
   rw [hpre] at e;obtain ⟨k2, rfl⟩ : ∃ k2, kk = k2 + 1 := by
    cases kk with
    | zero => simp at e
    | succ k2 => exact ⟨k2, rfl⟩
   rw [List.range_succ] at e;obtain ⟨e1, e2⟩ := List.append_inj' e rfl;obtain rfl : k2 = x := by simpa using e2
   exact lastS_at (by rw [List.length_reverse]; omega) (fun i hi => hno i (by rw [← e1]; exact List.mem_range.2 hi)) h0
  generalize W5.putObj D (.deferred none) = Wf at HFin hres2 ⊢
  clear hf hres hg hrow hK hno h0 e hpre;refine ⟨.bool true, ?_, ?_⟩
  ·simp [results, Tryz.f62, go_sem, hres2]
  ·rw [HL.out];exact ⟨rfl, HFin.out.step⟩
end
section
open Go.RowKit

theorem Flow.putClI {lo : Nat} {U : World} {p bb : Nat} {gv sv : Value} {xs : List Value} {ev fv uv : Value} {s : PP} (h : Flow lo U p bb gv sv xs ev fv uv s) (x : Bool) :
  FY lo p gv sv (FO p bb xs ev fv uv) U (U.setCell ⟨p, 4, none⟩ (.bool x)) bb xs ev fv uv { s with cl := x } := by
 have hkp : ∀ b, b ≠ p → (U.setCell ⟨p, 4, none⟩ (.bool x)).heap[b]? = U.heap[b]? := fun b h2 => Below.heap_setCell _ _ _ _ h2
 exact ⟨⟨h.box.set 4 _, h.hnd.keep (hkp bb (fun e => h.pbb e.symm)) (fun j hj b hb => hkp b (fun e => h.px j hj (by rw [← e]; exact hb))), own_keep h.emo fun b hb => hkp b (fun e => h.pe (by rw [← e]; exact hb)), own_keep h.fao fun b hb => hkp b (fun e => h.pf (by rw [← e]; exact hb)), own_keep h.fuo fun b hb => hkp b (fun e => h.pu (by rw [← e]; exact hb)), h.lop, h.lob, h.pbb, h.px, h.pe, h.pf, h.pu⟩, fun b hb => .inl hb, (Below.refl _ _).setCell (p := ⟨p, 4, none⟩) h.lop _, fun b _ hO => hkp b (fun e => hO (.inl e))⟩
theorem Kind.Fresh.ownI {α : Type} {K : Kind α} {lo hi : Nat} {W : World} {tq : Option Addr} {tc : Nat} {xs : List α} (h : K.Fresh lo hi W tq tc xs) (hn : 0 < xs.length) : K.Own lo W (.slice tq xs.length tc) xs := by
 obtain ⟨g, e, _, _, _, ho⟩ := h.at hn;subst e; exact ho
/-- What runOut answers. -/
def AnsRi (lo p : Nat) (gv sv : Value) (gs : List PNode) (s : PP) (K : Nat) (W : World) (e : Ending) (W' : World) : Prop :=
 ∃ bb xs ev fv uv, e = .returned (.int .i64 (K : Int)) ∧ Flow lo W' p bb gv sv xs ev fv uv (itS gs K { s with cl := true }) ∧ Below lo W W'
set_option maxRecDepth 100000 in
set_option maxHeartbeats 8000000 in
theorem runI_any (lo : Nat) (W : World) (p bb gb goff gc : Nat) (ts : List LNode) (sv : Value) (xs : List Value) (ev fv uv : Value) (s : PP) (K : Nat) (h : Flow lo W p bb (.slice (some ⟨gb, goff, none⟩) ts.length gc) sv xs ev fv uv s) (hz : DIn dNode lo W (some ⟨gb, goff, none⟩) ts) (hF : FitN ts) (h1 : 0 < ts.length) (hG : GoodE (ts.map valNode)) (hR : Ordd (ts.map valNode) (orderP (ts.map valNode))) (hI : RunI (ts.map valNode) 40000 9000 { s with cl := true }) (hK : Halts (ts.map valNode) { s with cl := true } K) (hK2 : K ≤ 1000000000000000000) :
  Calls Tryz.prog 31 #[.pointer (some ⟨p, 0, none⟩)] W (AnsRi lo p (.slice (some ⟨gb, goff, none⟩) ts.length gc) sv (ts.map valNode) s K W) := by
 have hlo : lo ≤ W.heap.size := h.lo_le;have hp := h.box.size;have hmany : ts.length ≤ 10 := by have := hG.edg.many; rw [List.length_map] at this; exact this
 obtain ⟨gs, hgs⟩ : ∃ gs, gs = ts.map valNode := ⟨_, rfl⟩;have hgl : gs.length = ts.length := by rw [hgs, val_len]
 have HFC := hid (h.putClI true);obtain ⟨V, hV⟩ : ∃ V, V = W.setCell ⟨p, 4, none⟩ (.bool true) := ⟨_, rfl⟩;rw [← hV] at HFC;have HV := hid hV;have c4 := h.box.c 4 rfl;have f4 := h.box.f 4 rfl;have c0 := h.box.c 0 rfl;have hzV := hz.below dNode_ok HFC.out.low;have HZ := hid hz;have HO := hid (orderIn_any (some ⟨gb, goff, none⟩) gc ts V (by omega) hF (hzV.up dNode_ok HFC.out.flow.lo_le));have HG := hid hG;have HR := hid hR;have HI := hid (fun n => hI.it hG hR n);have HK := hid hK;have HSL := hid (fun (V : World) (bb : Nat) (xs : List Value) (ev fv uv : Value) (s : PP) (go : Option Addr) (qc : Nat) (h : Flow lo V p bb (.slice (some ⟨gb, goff, none⟩) ts.length gc) sv xs ev fv uv s) (hb : Below lo W V) (hI : RunI (ts.map valNode) 40000 9000 s) hO hA => stepLast_any lo V p bb gb goff gc ts sv xs ev fv uv s go qc (orderP (ts.map valNode)) h (hz.below dNode_ok hb) h1 hG hR hR hI hO hA);rw [← hgs] at HO HG HR HI HK HSL ⊢;have HGS := hid hgs;obtain ⟨s0, hs0⟩ : ∃ s0 : PP, s0 = { s with cl := true } := ⟨_, rfl⟩;have HS0 := hid hs0;rw [← hs0] at HFC HI HK;have hRl : (orderP gs).length = ts.length := by rw [HR.out.len, hgl]
 have HRL := hid hRl;have hr1 : 0 < (orderP gs).length := by omega
 clear hV hz hzV hG hR hI hK hgs hs0 hF hRl;go_enter Tryz.func31, Tryz.ntmps31;go_wp2_with fail;rw [← HV.out];refine HO.out.mono ?_;rintro e w1 ⟨⟨go, qc, rfl, hF1⟩, hb1⟩;clear c0 c4 f4;have HB1 := hid (HFC.out.low.trans (hb1.mono HFC.out.flow.lo_le));have HO1 := hid ((hF1.ownI hr1).mono HFC.out.flow.lo_le);have HA1 : Hid (∀ b, (Value.slice go (orderP gs).length qc).ownBlock = some b → ¬ FO p bb xs ev fv uv b) := fun b hb hO => by
  obtain ⟨g, e, hlg, _⟩ := hF1.at hr1;subst e;have : g = b := by simpa [Value.ownBlock] using hb
  have := HFC.out.flow.old hO
  omega
 have HF1 := hid (HFC.out.flow.later hb1);clear hF1 hb1 HO;go_wp2
 go_loopw [4] (fun i wr => ∃ (k bb : Nat) (xs : List Value) (ev fv uv : Value), i = .int .i64 (k : Int) ∧ k ≤ K ∧ Hid (Flow lo wr p bb (.slice (some ⟨gb, goff, none⟩) ts.length gc) sv xs ev fv uv (itS gs k s0)) ∧ Hid (kI.Own lo wr (.slice go (orderP gs).length qc) (orderP gs)) ∧ Hid (∀ b, (Value.slice go (orderP gs).length qc).ownBlock = some b → ¬ FO p bb xs ev fv uv b) ∧ Hid (Below lo W wr)) (fun i _ => K - (intOf i).toNat)
 case atStart => exact ⟨0, bb, xs, ev, fv, uv, rfl, Nat.zero_le _, HF1, HO1, HA1, HB1⟩
 case round =>
  clear HF1 HO1 HA1 HB1 HFC HV;obtain ⟨k, bb, xs, ev, fv, uv, rfl, hk, hF, hO, hA, hB⟩ := hrel;have HRI := hid (HI.out k);have c9 := hF.out.box.c 9 rfl
  by_cases hlt : k < K
  ·have hne := HK.out.go k hlt;have hltt := last_true HG.out HR.out HRI.out hne;have HNX : Hid (itS gs (k + 1) s0 = (lastS gs (orderP gs).reverse (itS gs k s0)).2) := rfl;obtain ⟨sk, hsk⟩ : ∃ sk, sk = itS gs k s0 := ⟨_, rfl⟩;rw [← hsk] at hF HRI hltt HNX hne c9;have htp : 0 < totT sk.bx := by omega
   have hst := HSL.out wr bb xs ev fv uv sk go qc hF.out hB.out HRI.out hO.out hA.out;rw [hltt] at hst;have HST := hid hst;clear hsk hne hltt hst;go_wp2_with fail;refine (load_any p 9 _ wr c9).mono ?_;rintro e w2 ⟨rfl, hw2⟩;rw [hw2];clear hw2 w2;go_wp2_with fail;refine HST.out.mono ?_;rintro e w4 ⟨rfl, hs4⟩;obtain ⟨bb4, xs4, ev4, fv4, uv4, F4, O4, A4, B4⟩ := hs4.codes hO.out hA.out;have HF4 := hid F4;have HO4 := hid O4;have HA4 := hid A4;have HB4 := hid (hB.out.trans B4);clear hs4 F4 O4 A4 B4 HST c9;go_wp2;go_roundw
   case rel => exact ⟨k + 1, bb4, xs4, ev4, fv4, uv4, by go_num, by omega, by rw [HNX.out]; exact HF4, HO4, HA4, HB4⟩
   case measure => simp [intOf]; omega
  ·obtain rfl : k = K := by omega
   rw [HK.out.stop] at c9;go_wp2_with fail;refine (load_any p 9 _ wr c9).mono ?_;rintro e w2 ⟨rfl, hw2⟩;rw [hw2];clear hw2 w2 c9;go_wp2;go_ret;exact ⟨bb, xs, ev, fv, uv, rfl, by rw [← HS0.out]; exact hF.out, hB.out⟩
end
end Go.Proofs.YtllmpinmbajpgaaGreatDoor
