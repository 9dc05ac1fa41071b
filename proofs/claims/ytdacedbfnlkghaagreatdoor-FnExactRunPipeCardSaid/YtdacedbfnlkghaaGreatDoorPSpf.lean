
/- The specification's step of a node. No conditions but those written. -/
import Derived.Test.YtdacedbfnlkghaaGreatDoorPSpcSpe
import Derived.Test.YtdacedbfnlkghaaGreatDoorPYtSpb
namespace Go.Proofs.YtdacedbfnlkghaaGreatDoor
open Go.RowKit

set_option maxRecDepth 100000 in
set_option maxHeartbeats 16000000 in
theorem stepS_any (lo : Nat) (W : World) (p bb gb goff gc : Nat) (ts : List LNode) (xs : List Value) (ev fv uv : Value) (s : PP) (k : Nat) (t1 t2 t3 : Int) (r : List (Int × Int × Int)) (h : FlowS lo W p bb (.slice (some ⟨gb, goff, none⟩) ts.length gc) xs ev fv uv s) (hn : s.bx.length = ts.length) (hkt : k < ts.length) (hbx : el s.bx k = (t1, t2, t3) :: r) (hz : DIn dNode lo W (some ⟨gb, goff, none⟩) ts) (hG : GoodE (ts.map valNode)) (hv2 : valB t2 = true) (ht : totT s.bx + s.fa.length + 100 ≤ 100000) (hem : s.em.length + 100 ≤ 1000000) (hfu : s.fu.length ≤ 100) (h0 : 0 ≤ s.ti) (h1 : s.ti ≤ 1000000) (h3 : 0 ≤ t3) (h4 : t3 ≤ 1000) :
  Calls Tryz.prog 179 #[.pointer (some ⟨p, 0, none⟩), .int .i64 (k : Int)] W fun e W' => e = .returned (.int .i64 (stepR (ts.map valNode) s (k : Int)).1) ∧ FStepS lo p (.slice (some ⟨gb, goff, none⟩) ts.length gc) (FO p bb xs ev fv uv) W W' (stepR (ts.map valNode) s (k : Int)).2 := by
 have hlo : lo ≤ W.heap.size := h.lo_le;have hp := h.box.size;have hbb := h.hnd.size;have hk : k < s.bx.length := by omega
 have hkg : (k : Int) < (ts.length : Int) := by omega
 have hki : (k : Int) < (s.bx.length : Int) := by omega
 obtain ⟨b9, off9, e9, hb9, hc9⟩ := hNode_at hz.1 hkt;obtain ⟨rfl, rfl⟩ : gb = b9 ∧ goff = off9 := by simp at e9; exact e9
 obtain ⟨n0, n1, n2, n3, n4, n5⟩ := hc9 k hkt;have hin := hz.2 k hkt;have hst : stApp (ts.map valNode) k t2 = appR (el ts k).2.1 (el ts k).2.2.1 (el ts k).2.2.2.1 t2 := by rw [stApp, el_val hkt]; rfl
 have hnx : nxP (ts.map valNode) k = (el ts k).2.2.2.2.2.2.2 := by rw [nxP, el_val hkt]; rfl
 have hgd : goodSt (el ts k).2.1 (el ts k).2.2.1 (el ts k).2.2.2.1 = true := by have := hG.st k (by rw [List.length_map]; exact hkt); rw [el_val hkt] at this; exact this
 obtain ⟨⟨nm, kd, sa, sb, cp, ⟨nxo, nxc, nx⟩⟩, ex⟩ : ∃ v, v = el ts k := ⟨_, rfl⟩;rw [← ex] at n0 n1 n2 n3 n4 n5 hin hst hnx hgd;dsimp only at n0 n1 n2 n3 n4 n5 hst hnx hgd;have HNX : Hid (kI.In lo W nxo nx) := hin;have hrg : ∀ x ∈ nx, ∃ j : Nat, j < ts.length ∧ x = (j : Int) := fun x hx => by obtain ⟨j, hj, e⟩ := hG.edg.rng k (by rw [List.length_map]; exact hkt) x (by rw [hnx]; exact hx); rw [List.length_map] at hj; exact ⟨j, hj, e⟩
 have HRG := hid hrg;have hnl : nx.length ≤ 10 := by rw [← hnx]; exact hG.edg.few k (by rw [List.length_map]; exact hkt)
 have hmany : s.bx.length ≤ 10 := by have := hG.edg.many; rw [List.length_map] at this; omega
 have HCAP : Hid (∀ j, j < ts.length → W.cell? ⟨gb, goff + j * 6 + 4, none⟩ = some (.int .i64 (capP (ts.map valNode) j)) ∧ 3 ≤ capP (ts.map valNode) j ∧ capP (ts.map valNode) j ≤ 8) := fun j hj => by
  have e := hG.cap j (by rw [List.length_map]; exact hj);refine ⟨?_, e⟩;rw [show capP (ts.map valNode) j = (el ts j).2.2.2.2.1 from by rw [capP, el_val hj]; rfl];exact (hc9 j hj).2.2.2.2.1
 rw [appR_yes hgd hv2] at hst;have HAP := hid (fun w => l7Apply_any kd sa sb t2 w hgd hv2);have hol : (appSt kd sa sb t2).1.length ≤ 3 := appSt_len hgd
 rcases hA : appSt kd sa sb t2 with ⟨out, fl⟩
 rw [hA] at hst HAP hol;dsimp only at hol hst;have HRS := hid (stepR_at hk hbx hst);have HNP := hid hnx;obtain ⟨ho, hc, hsl, hq1, hFr⟩ := h.hnd.slice hk;rw [hbx] at hsl hFr;obtain ⟨g, rfl, hg1, hg2, hg3, hgo⟩ := hFr.at (by simp);simp only [List.length_cons] at hsl;have c0 := h.box.c 0 rfl;have c4 := h.box.c 4 rfl;have ck := (h.head hk).1;rw [hsl] at ck;have hr1 : (0 : Int) < ((r.length + 1 : Nat) : Int) := by omega
 have hn1 : s.bx.length ≤ ts.length := by omega
 have hn2 : ts.length ≤ s.bx.length := by omega
 have HNE := hid hn;clear hn;obtain ⟨b0, off0, e0, hbl, hcs⟩ := kTk_at hFr.in (k := 0) (by simp)
 simp at e0
 obtain ⟨rfl, rfl⟩ := e0;have d0 : W.cell? ⟨g, 0, none⟩ = some (.int .i64 t1) := (hcs 0 (by simp)).1;have d1 : W.cell? ⟨g, 1, none⟩ = some (.int .i64 t2) := (hcs 0 (by simp)).2.1;have d2 : W.cell? ⟨g, 2, none⟩ = some (.int .i64 t3) := (hcs 0 (by simp)).2.2;have hb0 := below2 W (.cells #[.string nm, .int .i64 kd, .int .i64 sa, .int .i64 sb, .int .i64 cp, .slice nxo nx.length nxc] 27) (.cells #[.int .i64 t1, .int .i64 t2, .int .i64 t3] 163);have N0 := (Bx.new (w := W) [.string nm, .int .i64 kd, .int .i64 sa, .int .i64 sb, .int .i64 cp, .slice nxo nx.length nxc] 27 rfl).alloc (.cells #[.int .i64 t1, .int .i64 t2, .int .i64 t3] 163);have hsz1 : (W.alloc (.cells #[.string nm, .int .i64 kd, .int .i64 sa, .int .i64 sb, .int .i64 cp, .slice nxo nx.length nxc] 27)).heap.size = W.heap.size + 1 := by simp
 have T0 := Bx.new (w := W.alloc (.cells #[.string nm, .int .i64 kd, .int .i64 sa, .int .i64 sb, .int .i64 cp, .slice nxo nx.length nxc] 27)) [.int .i64 t1, .int .i64 t2, .int .i64 t3] 163 rfl;obtain ⟨V, hV⟩ : ∃ V, V = (W.alloc (.cells #[.string nm, .int .i64 kd, .int .i64 sa, .int .i64 sb, .int .i64 cp, .slice nxo nx.length nxc] 27)).alloc (.cells #[.int .i64 t1, .int .i64 t2, .int .i64 t3] 163) := ⟨_, rfl⟩;rw [← hV] at hb0 N0 T0;rw [hsz1] at T0;have HV := hid hV;have HB0 := hid hb0;have HN0 := hid N0;have HT0 := hid T0;have m1 := N0.c 1 rfl;have m2 := N0.c 2 rfl;have m3 := N0.c 3 rfl;have u1' := T0.c 1 rfl;have hVs : V.heap.size = W.heap.size + 2 := by rw [hV]; simp
 have HVs := hid hVs;have HAV := hid (HAP.out V);clear hV hb0 N0 T0 hsz1 hVs hA hst hin hcs hFr hgo hsl hq1 ex e9 HAP hnx hrg hc9;go_enter Tryz.func179, Tryz.ntmps179;go_wp2_with fail;rw [← HV.out];refine HAV.out.mono ?_;rintro e w3 ⟨⟨o, c, rfl, hoc, hfr⟩, hb3⟩;have B3 : Below W.heap.size W w3 := HB0.out.trans (hb3.mono HB0.out.size);have HB3 := hid B3;have HF3 := hid (h.later B3);have HN3 := hid (HN0.out.later hb3);have HT3 := hid (HT0.out.later hb3);have HFR := hid hfr;have hV3 : V.heap.size ≤ w3.heap.size := hb3.size;clear B3 hfr hb3 HAV m1 m2 m3 u1' c0 c4 ck d0 d1 d2 n0 n1 n2 n3 n4 n5 HN0 HT0
 try dsimp only
 cases fl
 case true =>
  have HRf : Hid (stepR (ts.map valNode) s (k : Int) = (0, failP s k t1 t2 t3 r)) := HRS.out.trans (if_pos rfl);have HFF := hid (faultS_any lo w3 p bb _ xs ev fv uv s k t1 t2 t3 r HF3.out hk hbx hmany (by omega) hfu h0 h1 h3 h4);go_wp2_with fail;refine HFF.out.mono ?_;rintro e w4 ⟨rfl, hs4⟩;have HS4 := hid (FStepS.start h HB3.out hs4);clear hs4;go_wp2;go_ret;rw [HRf.out];exact ⟨rfl, HS4.out⟩
 case false =>
  have HR1 := hid (HRS.out.trans (if_neg (by simp)));have q5 := HN3.out.c 5 rfl;clear HRS;go_wp2;clear q5
  go_loopw [47] (fun i wr => ∃ m : Nat, m ≤ nx.length ∧ i = .int .i64 (m : Int) ∧ Hid (Below w3.heap.size w3 wr) ∧ Hid (∀ j, j < m → ¬ capP (ts.map valNode) (el nx j).toNat - ((el s.bx (el nx j).toNat).length : Int) < (out.length : Int))) (fun i _ => nx.length - (intOf i).toNat)
  case atStart => exact ⟨0, Nat.zero_le _, rfl, Below.refl _ _, fun j hj => absurd hj (Nat.not_lt_zero _)⟩
  case round =>
   obtain ⟨m, hm, rfl, hB, hA⟩ := hrel
   by_cases hlt : m < nx.length
   ·have hmi : (m : Int) < (nx.length : Int) := by omega
    obtain ⟨nb, noff, rfl, hnb, hnc⟩ := ints_at HNX.out hlt;have HBW := hid (HB3.out.trans (hB.out.mono HB3.out.size));obtain ⟨j, hj, hx⟩ := HRG.out (el nx m) (el_mem hlt);have cm := (HBW.out.cell (p := ⟨nb, noff + m, none⟩) (Nat.lt_of_lt_of_le hnb hlo)).trans (hnc m hlt);rw [hx] at cm;have HX := hid hx;have hjb : j < s.bx.length := by omega
    have hji : (j : Int) < (s.bx.length : Int) := by omega
    have hjg : (j : Int) < (ts.length : Int) := by omega
    have FW := h.later HBW.out;have x0 := FW.box.c 0 rfl;have x4 := FW.box.c 4 rfl;have xk := (FW.head hjb).1;obtain ⟨jo, jc, jsl, _, _⟩ := FW.hnd.slice hjb;rw [jsl] at xk;have hTe := totT_el hjb;have hcp := HCAP.out j hj;have xc := (HBW.out.cell (p := ⟨gb, goff + j * 6 + 4, none⟩) (Nat.lt_of_lt_of_le hb9 hlo)).trans hcp.1;have hc2 := hcp.2;have hA2 : Hid (∀ i, i < m → ¬ capP (ts.map valNode) (el nx i).toNat - ((el s.bx (el nx i).toNat).length : Int) < (out.length : Int)) := hA;have HJ : Hid (capP (ts.map valNode) (el nx m).toNat - ((el s.bx (el nx m).toNat).length : Int) = capP (ts.map valNode) j - ((el s.bx j).length : Int)) := by rw [Hid, hx, Int.toNat_natCast]
    have hw : IntKind.i64.wrap (capP (ts.map valNode) j - ((el s.bx j).length : Int)) = capP (ts.map valNode) j - ((el s.bx j).length : Int) := by rw [IntKind.wrap_i64]; omega
    clear hA FW hnc hx jsl hcp hTe
    generalize capP (ts.map valNode) j = cpj at xc hc2 HJ hw
    generalize (el s.bx j).length = lj at xk HJ hw
    by_cases hbl2 : cpj - (lj : Int) < (out.length : Int)
    ·have hd : decide (cpj - (lj : Int) < (out.length : Int)) = true := by simpa using hbl2
     go_wp2_with fail
     go_quiet (fail)
     go_wp2;go_ret;have hbk : blkP (ts.map valNode) s.bx k (out.length : Int) = true := by
      rw [blkP, List.any_eq_true, HNP.out];exact ⟨el nx m, el_mem hlt, by rw [HJ.out]; exact decide_eq_true hbl2⟩
     rw [HR1.out, if_pos hbk];exact ⟨rfl, FStepS.same h (below_draws HBW.out _)⟩
    ·have hd : decide (cpj - (lj : Int) < (out.length : Int)) = false := by simpa using hbl2
     go_wp2_with fail
     go_quiet (fail)
     go_wp2;go_roundw
     case rel => exact ⟨m + 1, by omega, by go_num, below_draws hB.out _, fun i hi => by
      rcases Nat.lt_succ_iff_lt_or_eq.1 hi with h8 | rfl
      ·have q := hA2.out i h8; omega
      ·have q := HJ.out; omega⟩
     case measure => simp [intOf]; omega
   ·obtain rfl : m = nx.length := by omega
    have hbk : ¬ blkP (ts.map valNode) s.bx k (out.length : Int) = true := by
     rw [blkP, List.any_eq_true, HNP.out];rintro ⟨x, hx, hd⟩;obtain ⟨j, hj, rfl⟩ := mem_el hx;exact hA.out j hj (of_decide_eq_true hd)
    have HR2 := hid (HR1.out.trans (if_neg hbk));have HB4 := hid (HB3.out.trans (hB.out.mono HB3.out.size));have HN4 := hid (HN3.out.later hB.out);have HT4 := hid (HT3.out.later hB.out);have HFR4 := hid (HFR.out.later hB.out);have h34 := hB.out.size;have HFI := hid (firstS_any lo wr p bb _ xs ev fv uv s k t1 t2 t3 r (h.later HB4.out) hk hbx (by omega));have hs0 := totT_set (ls := s.bx) (k := k) r hk;rw [hbx, List.length_cons] at hs0;obtain ⟨w4, hw4⟩ : ∃ w4, w4 = wr := ⟨_, rfl⟩;rw [← hw4] at HFI HFR4 HT4 HN4 HB4 h34 ⊢;clear HR1 hbk hA hB hw4 wr;go_wp2_with fail;refine HFI.out.mono ?_;rintro e w5 ⟨rfl, hs5⟩;obtain ⟨s1, hs1⟩ : ∃ s1 : PP, s1 = { s with bx := s.bx.set k r } := ⟨_, rfl⟩;rw [← hs1] at hs5 HR2;have e1 : s1.bx.length = ts.length := by rw [hs1]; exact (List.length_set ..).trans HNE.out
    have e2 : totT s1.bx + 1 = totT s.bx := by rw [hs1]; show totT (s.bx.set k r) + 1 = _; omega
    have e3 : s1.em.length = s.em.length := by rw [hs1]
    have HE := hid (And.intro e1 (And.intro e2 e3));obtain ⟨bb5, xs5, ev5, fv5, uv5, X5⟩ := hs5.fx;have HX5 := hid X5;clear hs5 HFI hs1 X5 e1 e2 e3 hs0;go_wp2
    go_loopw [78] (fun i wr => ∃ (m : Nat) (bb2 : Nat) (xs2 : List Value) (ev2 fv2 uv2 : Value), m ≤ out.length ∧ i = .int .i64 (m : Int) ∧ Hid (FX lo p (.slice (some ⟨gb, goff, none⟩) ts.length gc) (FO p bb xs ev fv uv) w4 wr bb2 xs2 ev2 fv2 uv2 (leadAll (ts.map valNode) k t1 (out.take m) s1))) (fun i _ => out.length - (intOf i).toNat)
    case atStart => exact ⟨0, _, _, _, _, _, Nat.zero_le _, rfl, HX5⟩
    case round =>
     obtain ⟨m, bb2, xs2, ev2, fv2, uv2, hm, rfl, hS⟩ := hrel
     rename World => wq
     by_cases hlt : m < out.length
     ·have hmi : (m : Int) < (out.length : Int) := by omega
      obtain ⟨g2, eg2, hg4, hg5, hg6, _⟩ := HFR4.out.at (by omega);obtain ⟨ob, ooff, eo, hob, honc⟩ := ints_at HFR4.out.in hlt;obtain ⟨rfl, rfl⟩ : g2 = ob ∧ 0 = ooff := by rw [eg2] at eo; simp at eo; exact eo
      subst eg2;have hfar0 : ∀ b, W.heap.size ≤ b → ¬ FO p bb xs ev fv uv b := fun b hb => h.far hb
      have hfar : Hid (∀ b, W.heap.size ≤ b → b < w4.heap.size → ¬ FO p bb2 xs2 ev2 fv2 uv2 b) := fun b h8 h9 hO => by
       rcases hS.out.old b hO with h7 | h7
       ·exact h.far h8 h7
       ·omega
      have hV0 := HVs.out;have kn := hS.out.kept g2 hg6 (h.far (by omega));have km := hS.out.kept W.heap.size (by omega) (h.far (Nat.le_refl _));have kt := hS.out.kept (W.heap.size + 1) (by omega) (h.far (by omega));have c9 := honc m hlt;rw [Nat.zero_add] at c9;have cm := (World.cell?_of_block (a := ⟨g2, m, none⟩) kn).trans c9;have qn5 := (World.cell?_of_block (a := ⟨W.heap.size, 5, none⟩) km).trans (HN4.out.c 5 rfl);have qt0 := (World.cell?_of_block (a := ⟨W.heap.size + 1, 0, none⟩) kt).trans (HT4.out.c 0 rfl);obtain ⟨v, hv⟩ : ∃ v, v = el out m := ⟨_, rfl⟩;rw [← hv] at cm;have HT := hid (take_succ_el hlt);rw [← hv] at HT;obtain ⟨sm, hsm⟩ : ∃ sm, sm = leadAll (ts.map valNode) k t1 (out.take m) s1 := ⟨_, rfl⟩;have HSN : Hid (leadAll (ts.map valNode) k t1 (out.take (m + 1)) s1 = leadR (ts.map valNode) sm k t1 v) := by rw [Hid, HT.out, leadAll_snoc, hsm]
      have a11 : sm.bx.length ≤ ts.length := by rw [hsm, leadAll_len, HE.out.1]; exact Nat.le_refl _
      have a12 : ts.length ≤ sm.bx.length := by rw [hsm, leadAll_len, HE.out.1]; exact Nat.le_refl _
      have a2 : totT sm.bx ≤ totT s1.bx + 30 := by
       have q := leadAll_tot t1 (by rw [List.length_map]; exact hkt) hG.edg (out.take m) s1 (by rw [List.length_map]; exact HE.out.1);have hlm : (out.take m).length = m := by simp; omega
       rw [hsm]; omega
      have a3 : sm.em.length ≤ s.em.length + 3 := by
       have q := leadAll_em (ts.map valNode) k t1 (out.take m) s1;have hlm : (out.take m).length = m := by simp; omega
       have q3 := HE.out.2.2;rw [hsm]; omega
      have a4 : totT sm.bx ≤ 99999 := by have q := HE.out.2.1; omega
      rw [← hsm] at hS;clear hfar0 kn km kt honc hv hsm HT a2 c9
      by_cases h00 : nx.length = 0
      ·have HL0 : Hid (leadR (ts.map valNode) sm k t1 v = { sm with em := sm.em ++ [(t1, (k : Int), v)] }) := by rw [Hid, leadR, HNP.out, if_pos h00]
       rw [h00] at qn5;have H00 := hid h00;obtain ⟨eao, eac, hev, hen, _⟩ := hS.out.flow.emo.fresh;have c5 := hS.out.flow.box.c 5 rfl;rw [hev] at c5;have hpq := hS.out.flow.box.size;have hloq := hS.out.flow.lo_le;have hnw : ev2.ownBlock ≠ some (W.heap.size + 1) := fun e => hfar.out _ (by omega) (by omega) (.inr (.inr (.inr (.inl e))))
       have hnp : ev2.ownBlock ≠ some p := hS.out.flow.pe;have HEV := hid hev;have hwq : W.heap.size + 1 < wq.heap.size := by have := hS.out.low.size; omega
       rw [hev] at hnw hnp
       try dsimp only at hnw hnp
       have HX0 := hid hS.out;clear hev hS h00;go_wp2_with fail;refine wp_walks (zl := [16]) (S := fun Y => Y.cell? ⟨p, 5, none⟩ = some (.slice eao sm.em.length eac) ∧ Y.cell? ⟨(W.heap.size + 1), 0, none⟩ = some (.int .i64 t1)) (by kernel_rfl) ⟨c5, qt0⟩ (fun hH => ?_);refine Walks.tk 0 hH ?_;refine Walks.tk 1 hH ?_;refine Walks.tk 2 hH ?_;refine Walks.tk 3 hH ?_;refine Walks.tk 4 hH ?_;refine Walks.tk 5 hH ?_;refine Walks.tk 6 hH ?_;refine Walks.tk 7 hH ?_;refine Walks.tk 8 hH ?_;refine Walks.tk 9 hH ?_;refine Walks.tk 10 hH ?_;refine Walks.on 11 fun K hK => ?_
       go_simp;obtain ⟨U, hU⟩ : ∃ U, U = (wq.alloc (.cells #[.int .i64 t1, .int .i64 (k : Int), .int .i64 v] 138)).drew := ⟨_, rfl⟩;rw [← hU];have hbU : Below wq.heap.size wq U := by rw [hU]; exact (below1 wq _).drew
       have hN : kOu.In U.heap.size U (some ⟨wq.heap.size, 0, none⟩) [(t1, (k : Int), v)] := by
        have hx : Bx U wq.heap.size [.int .i64 t1, .int .i64 (k : Int), .int .i64 v] := by rw [hU]; exact (Bx.new (w := wq) [.int .i64 t1, .int .i64 (k : Int), .int .i64 v] 138 rfl).drew
        exact kOu_one hx.size (hx.c 0 rfl) (hx.c 1 rfl) (hx.c 2 rfl)
       have hUs := hbU.size;have SU : U.cell? ⟨p, 5, none⟩ = some (.slice eao sm.em.length eac) ∧ U.cell? ⟨(W.heap.size + 1), 0, none⟩ = some (.int .i64 t1) := ⟨(hbU.cell (p := ⟨p, 5, none⟩) hpq).trans c5, (hbU.cell (p := ⟨(W.heap.size + 1), 0, none⟩) hwq).trans qt0⟩;refine hK.out _ _ (fun _ => SU) (fun _ => ?_);clear hK K hU;have hOU : kOu.Own lo U (.slice eao sm.em.length eac) sm.em := by rw [← HEV.out]; exact (HX0.out.later hbU).flow.emo
       refine Walks.on 12 fun K hK => ?_
       refine Kind.appZ kOu_ok U (by rfl) (.tmp 91) (.tmp 97) (by rfl) lo (.slice eao sm.em.length eac) sm.em (by rfl) hOU (by omega) (some ⟨wq.heap.size, 0, none⟩) [(t1, (k : Int), v)] 1 1 (by rfl) rfl (by simp) _ hN (by rw [List.length_singleton]; omega) ?_;intro v' w6 hO2 hB2 hG2 hw2;obtain ⟨L2, hL2⟩ : ∃ L2, L2 = sm.em ++ [(t1, (k : Int), v)] := ⟨_, rfl⟩;rw [← hL2] at hO2;have HL2 := hid hL2;clear hL2;obtain ⟨vo, vc, hv', _, _⟩ := hO2.fresh;have S2 : w6.cell? ⟨p, 5, none⟩ = some (.slice eao sm.em.length eac) ∧ w6.cell? ⟨(W.heap.size + 1), 0, none⟩ = some (.int .i64 t1) := ⟨(World.cell?_of_block (a := ⟨p, 5, none⟩) (hG2.block p (Nat.lt_of_lt_of_le hpq hUs) (fun e => hnp e.symm))).trans SU.1, (World.cell?_of_block (a := ⟨(W.heap.size + 1), 0, none⟩) (hG2.block (W.heap.size + 1) (Nat.lt_of_lt_of_le hwq hUs) (fun e => hnw e.symm))).trans SU.2⟩;refine hK.out _ _ (fun _ => S2) (fun _ => ?_);clear hK K;refine Walks.on 13 fun K hK => ?_
       go_simp;refine hK.out _ _ (fun _ => S2) (fun _ => ?_);clear hK K;refine Walks.on 14 fun K hK => ?_
       go_simp;refine hK.out _ _ (fun _ => S2) (fun _ => ?_);clear hK K;refine Walks.tk 15 S2 ?_;refine Walks.on 16 fun K hK => ?_
       have FU := (HX0.out.later hbU).flow;have f5 : w6.frozen? ⟨p, 5, none⟩ = false := (World.frozen?_of_block (a := ⟨p, 5, none⟩) (hG2.block p (Nat.lt_of_lt_of_le hpq hUs) (fun e => hnp e.symm))).trans (FU.box.f 5 rfl);have HX2 := hid ((HX0.out.later hbU).trans (FU.putEm hO2 hB2 (by rw [HEV.out]; exact hG2) (by rw [HEV.out]; exact hw2)));have c52 := S2.1;rw [hv'] at HX2
       (try rw [hv'])
       go_simp;refine hK.out _ _ (fun h => absurd h (by decide)) (fun _ => ?_);refine Walks.done (by kernel_rfl) ?_ _;clear hK K;obtain ⟨w7, h7⟩ : ∃ w7, w7 = w6.setCell ⟨p, 5, none⟩ (.slice vo L2.length vc) := ⟨_, rfl⟩;rw [← h7] at HX2 ⊢;rw [HL2.out, ← HL0.out, ← HSN.out] at HX2;have km := HX2.out.kept W.heap.size (by omega) (h.far (Nat.le_refl _));have qn5' := (World.cell?_of_block (a := ⟨W.heap.size, 5, none⟩) km).trans (HN4.out.c 5 rfl);rw [H00.out] at qn5';clear h7 FU S2 SU hOU hN hbU hO2 hB2 hG2 hw2 f5 c52 c5 qn5 qt0 cm km HX0;go_wp2
       go_loopw [105] (fun i wr => i = .int .i64 0 ∧ Hid (FX lo p (.slice (some ⟨gb, goff, none⟩) ts.length gc) (FO p bb xs ev fv uv) w4 wr _ _ _ _ _ (leadAll (ts.map valNode) k t1 (out.take (m + 1)) s1))) (fun _ _ => 0)
       case atStart => exact ⟨rfl, HX2⟩
       case round =>
        obtain ⟨rfl, hS⟩ := hrel;go_wp2;go_roundw
        case rel => exact ⟨m + 1, _, _, _, _, _, by omega, by go_num, hS⟩
        case measure => simp [intOf]; omega
      ·have HL0 : Hid (leadR (ts.map valNode) sm k t1 v = { sm with bx := putsTo (t1, v, 0) sm.bx nx }) := by rw [Hid, leadR, HNP.out, if_neg h00]
       have hd0 : ((nx.length : Int) == 0) = false := by simpa using h00
       go_wp2
       go_loopw [105] (fun i wr => ∃ (q : Nat) (bb3 : Nat) (xs3 : List Value) (ev3 fv3 uv3 : Value), q ≤ nx.length ∧ i = .int .i64 (q : Int) ∧ Hid (FX lo p (.slice (some ⟨gb, goff, none⟩) ts.length gc) (FO p bb xs ev fv uv) w4 wr bb3 xs3 ev3 fv3 uv3 { sm with bx := putsTo (t1, v, 0) sm.bx (nx.take q) })) (fun i _ => nx.length - (intOf i).toNat)
       case atStart => exact ⟨0, _, _, _, _, _, Nat.zero_le _, rfl, hS⟩
       case round =>
        obtain ⟨q, bb3, xs3, ev3, fv3, uv3, hq, rfl, hS3⟩ := hrel
        by_cases hlq : q < nx.length
        ·have hqi : (q : Int) < (nx.length : Int) := by omega
         obtain ⟨nb, noff, rfl, hnb, hnc⟩ := ints_at HNX.out hlq;have cq := (hS3.out.low.cell (p := ⟨nb, noff + q, none⟩) hnb).trans ((HB4.out.cell (p := ⟨nb, noff + q, none⟩) (Nat.lt_of_lt_of_le hnb hlo)).trans (hnc q hlq));obtain ⟨j, hj, hx⟩ := HRG.out (el nx q) (el_mem hlq);rw [hx] at cq;have HTQ := hid (take_succ_el hlq);rw [hx] at HTQ;have hpl := putsTo_len (t1, v, 0) (nx.take q) sm.bx;have hpt := putsTo_tot (t1, v, 0) (nx.take q) sm.bx (fun x hx => by obtain ⟨i, hi, e⟩ := HRG.out x (List.mem_of_mem_take hx); exact ⟨i, by omega, e⟩);have hlm : (nx.take q).length = q := by simp; omega
         obtain ⟨sq, hsq⟩ : ∃ sq : PP, sq = { sm with bx := putsTo (t1, v, 0) sm.bx (nx.take q) } := ⟨_, rfl⟩;have hjb : j < sq.bx.length := by rw [hsq]; dsimp only; omega
         have hji : (j : Int) < (sq.bx.length : Int) := by omega
         have htq : totT sq.bx ≤ 100009 := by rw [hsq]; dsimp only; omega
         have HNQ : Hid ({ sq with bx := sq.bx.set j (el sq.bx j ++ [(t1, v, 0)]) } = ({ sm with bx := putsTo (t1, v, 0) sm.bx (nx.take (q + 1)) } : PP)) := by
          rw [Hid, HTQ.out, putsTo_snoc, Int.toNat_natCast, hsq]
         rw [← hsq] at hS3;have hTe := totT_el hjb;have FQ := hS3.out.flow;have c4 := FQ.box.c 4 rfl;have ck := (FQ.head hjb).1;obtain ⟨ho3, hc3, hsl3, hn3, _⟩ := FQ.hnd.slice hjb;rw [hsl3] at ck;have hpq := FQ.box.size;have hbq := FQ.hnd.size;have hx3 : j < xs3.length := by rw [FQ.hnd.len]; exact hjb
         have hnw : (el xs3 j).ownBlock ≠ some (W.heap.size + 1) := fun e => by
          rcases hS3.out.old _ (.inr (.inr (.inl ⟨j, hx3, e⟩))) with h7 | h7
          ·exact h.far (by omega) h7
          ·omega
         have hnp : (el xs3 j).ownBlock ≠ some p := FQ.px j hjb;have hnb3 : (el xs3 j).ownBlock ≠ some bb3 := FQ.bbx hjb;have HSL3 := hid hsl3;have kt := hS3.out.kept (W.heap.size + 1) (by omega) (h.far (by omega));have qt0' := (World.cell?_of_block (a := ⟨W.heap.size + 1, 0, none⟩) kt).trans (HT4.out.c 0 rfl);have hwr : W.heap.size + 1 < wr.heap.size := by have := hS3.out.low.size; omega
         rw [hsl3] at hnw hnp hnb3;obtain ⟨RW, hRW⟩ : ∃ RW, RW = el sq.bx j := ⟨_, rfl⟩;rw [← hRW] at ck hnw hnp hnb3 HNQ HSL3 hTe
         try dsimp only at hnw hnp hnb3
         have HRW := hid hRW;have HS3 := hid hS3.out;clear hsl3 hS3 FQ hRW hsq hpl hpt hlm hx kt hnc;go_wp2_with fail;refine wp_walks (zl := [21]) (S := fun Y => Y.cell? ⟨p, 4, none⟩ = some (.slice (some ⟨bb3, 0, none⟩) sq.bx.length sq.bx.length) ∧ Y.cell? ⟨bb3, j, none⟩ = some (.slice ho3 RW.length hc3) ∧ Y.cell? ⟨(W.heap.size + 1), 0, none⟩ = some (.int .i64 t1)) (by kernel_rfl) ⟨c4, ck, qt0'⟩ (fun hH => ?_);refine Walks.tk 0 hH ?_;refine Walks.tk 1 hH ?_;refine Walks.tk 2 hH ?_;refine Walks.tk 3 hH ?_;refine Walks.tk 4 hH ?_;refine Walks.tk 5 hH ?_;refine Walks.tk 6 hH ?_;refine Walks.tk 7 hH ?_;refine Walks.tk 8 hH ?_;refine Walks.tk 9 hH ?_;refine Walks.tk 10 hH ?_;refine Walks.tk 11 hH ?_;refine Walks.tk 12 hH ?_;refine Walks.tk 13 hH ?_;refine Walks.tk 14 hH ?_;refine Walks.tk 15 hH ?_;refine Walks.tk 16 hH ?_;refine Walks.tk 17 hH ?_;refine Walks.on 18 fun K hK => ?_
         go_simp;obtain ⟨U, hU⟩ : ∃ U, U = (wr.alloc (.cells #[.int .i64 t1, .int .i64 v, .int .i64 0] 163)).drew := ⟨_, rfl⟩;rw [← hU];have hbU : Below wr.heap.size wr U := by rw [hU]; exact (below1 wr _).drew
         have hN : kTk.In U.heap.size U (some ⟨wr.heap.size, 0, none⟩) [(t1, v, 0)] := by
          have hx : Bx U wr.heap.size [.int .i64 t1, .int .i64 v, .int .i64 0] := by rw [hU]; exact (Bx.new (w := wr) [.int .i64 t1, .int .i64 v, .int .i64 0] 163 rfl).drew
          exact kTk_one hx.size (hx.c 0 rfl) (hx.c 1 rfl) (hx.c 2 rfl)
         have hUs := hbU.size;have SU : U.cell? ⟨p, 4, none⟩ = some (.slice (some ⟨bb3, 0, none⟩) sq.bx.length sq.bx.length) ∧ U.cell? ⟨bb3, j, none⟩ = some (.slice ho3 RW.length hc3) ∧ U.cell? ⟨(W.heap.size + 1), 0, none⟩ = some (.int .i64 t1) := ⟨(hbU.cell (p := ⟨p, 4, none⟩) hpq).trans c4, (hbU.cell (p := ⟨bb3, j, none⟩) hbq).trans ck, (hbU.cell (p := ⟨(W.heap.size + 1), 0, none⟩) hwr).trans qt0'⟩;refine hK.out _ _ (fun _ => SU) (fun _ => ?_);clear hK K hU;have hOU : kTk.Own (bb3 + 1) U (.slice ho3 RW.length hc3) RW := by rw [← HSL3.out, HRW.out]; exact (HS3.out.later hbU).flow.hnd.row j hjb
         refine Walks.on 19 fun K hK => ?_
         refine Kind.appZ kTk_ok U (by rfl) (.tmp 122) (.tmp 127) (by rfl) (bb3 + 1) (.slice ho3 RW.length hc3) RW (by rfl) hOU (by omega) (some ⟨wr.heap.size, 0, none⟩) [(t1, v, 0)] 1 1 (by rfl) rfl (by simp) _ hN (by rw [List.length_singleton]; omega) ?_;intro v' w6 hO2 hB2 hG2 hw2;obtain ⟨L2, hL2⟩ : ∃ L2, L2 = RW ++ [(t1, v, 0)] := ⟨_, rfl⟩;rw [← hL2] at hO2;have HL2 := hid hL2;clear hL2;obtain ⟨vo, vc, hv', _, _⟩ := hO2.fresh;have S2 : w6.cell? ⟨p, 4, none⟩ = some (.slice (some ⟨bb3, 0, none⟩) sq.bx.length sq.bx.length) ∧ w6.cell? ⟨bb3, j, none⟩ = some (.slice ho3 RW.length hc3) ∧ w6.cell? ⟨(W.heap.size + 1), 0, none⟩ = some (.int .i64 t1) := ⟨(World.cell?_of_block (a := ⟨p, 4, none⟩) (hG2.block p (Nat.lt_of_lt_of_le hpq hUs) (fun e => hnp e.symm))).trans SU.1, (World.cell?_of_block (a := ⟨bb3, j, none⟩) (hG2.block bb3 (Nat.lt_of_lt_of_le hbq hUs) (fun e => hnb3 e.symm))).trans SU.2.1, (World.cell?_of_block (a := ⟨(W.heap.size + 1), 0, none⟩) (hG2.block (W.heap.size + 1) (Nat.lt_of_lt_of_le hwr hUs) (fun e => hnw e.symm))).trans SU.2.2⟩;refine hK.out _ _ (fun _ => S2) (fun _ => ?_);clear hK K;refine Walks.tk 20 S2 ?_;refine Walks.on 21 fun K hK => ?_
         have FU := (HS3.out.later hbU).flow;have fB : w6.frozen? ⟨bb3, j, none⟩ = false := (World.frozen?_of_block (a := ⟨bb3, j, none⟩) (hG2.block bb3 (Nat.lt_of_lt_of_le hbq hUs) (fun e => hnb3 e.symm))).trans (FU.head hjb).2;have HX2 := hid ((HS3.out.later hbU).trans (FU.putRow hjb hO2 (hB2.mono (by have := FU.lob; omega)) (by rw [HSL3.out]; exact hG2) (by rw [HSL3.out]; exact hw2)));have cB2 := S2.2.1;rw [hv'] at HX2
         (try rw [hv'])
         go_simp;refine hK.out _ _ (fun h => absurd h (by decide)) (fun _ => ?_);refine Walks.done (by kernel_rfl) ?_ _;clear hK K;have HX3 : Hid (FX lo p (.slice (some ⟨gb, goff, none⟩) ts.length gc) (FO p bb xs ev fv uv) w4 (w6.setCell ⟨bb3, j, none⟩ (.slice vo L2.length vc)) bb3 (xs3.set j (.slice vo L2.length vc)) ev3 fv3 uv3 { sm with bx := putsTo (t1, v, 0) sm.bx (nx.take (q + 1)) }) := by
          rw [Hid, ← HNQ.out, ← HL2.out]; exact HX2.out
         clear HX2 FU S2 SU hOU hN hbU hO2 hB2 hG2 hw2 fB cB2 c4 ck qt0' HNQ HS3;go_wp2;go_roundw
         case rel => exact ⟨q + 1, _, _, _, _, _, by omega, by go_num, HX3⟩
         case measure => simp [intOf]; omega
        ·obtain rfl : q = nx.length := by omega
         rw [List.take_length] at hS3;rw [← HL0.out, ← HSN.out] at hS3;go_wp2;go_roundw
         case rel => exact ⟨m + 1, _, _, _, _, _, by omega, by go_num, hS3⟩
         case measure => simp [intOf]; omega
     ·obtain rfl : m = out.length := by omega
      rw [List.take_length] at hS;go_wp2;go_ret;rw [HR2.out];exact ⟨rfl, FStepS.start h HB4.out hS.out.step⟩
end Go.Proofs.YtdacedbfnlkghaaGreatDoor
