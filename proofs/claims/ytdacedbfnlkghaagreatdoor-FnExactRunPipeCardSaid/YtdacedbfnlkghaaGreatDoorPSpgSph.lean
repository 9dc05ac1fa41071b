
/- The specification's offer. No conditions but those written. The specification's moves: offers, steps, faults. No conditions but those written. -/
import Derived.Test.YtdacedbfnlkghaaGreatDoorPSpf
import Derived.Test.YtdacedbfnlkghaaGreatDoorPWyYs
namespace Go.Proofs.YtdacedbfnlkghaaGreatDoor
section
open Go.RowKit

set_option maxRecDepth 100000 in
set_option maxHeartbeats 8000000 in
theorem offerS_any (lo : Nat) (W : World) (p bb gb goff gc : Nat) (ts : List LNode) (xs : List Value) (ev fv uv : Value) (s : PP) (m1 m2 m3 : Int) (h : FlowS lo W p bb (.slice (some ⟨gb, goff, none⟩) ts.length gc) xs ev fv uv s) (hn : s.bx.length = ts.length) (hz : DIn dNode lo W (some ⟨gb, goff, none⟩) ts) (hG : GoodE (ts.map valNode)) (hI : InvS (ts.map valNode) s) (ht : totT s.bx ≤ 100000) (hi0 : 0 ≤ s.it) (hi1 : s.it ≤ 1000000) :
  Calls Tryz.prog 177 #[.pointer (some ⟨p, 0, none⟩), .agg #[.int .i64 m1, .int .i64 m2, .int .i64 m3]] W fun e W' => e = .returned (.int .i64 (offerR (ts.map valNode) (srcP (ts.map valNode) ts.length) s m2 m3).1) ∧ FStepS lo p (.slice (some ⟨gb, goff, none⟩) ts.length gc) (FO p bb xs ev fv uv) W W' (offerR (ts.map valNode) (srcP (ts.map valNode) ts.length) s m2 m3).2 := by
 have hb0 := below1 W (.cells #[.int .i64 m1, .int .i64 m2, .int .i64 m3] 127);have hlo : lo ≤ W.heap.size := h.lo_le;have F0 := h.later hb0;have hp := h.box.size;have hbb := h.hnd.size;have hsl : (srcP (ts.map valNode) ts.length).length ≤ 1000 := by
  rw [srcP]; have q := List.length_filter_le (fun x => decide (ledC (ts.map valNode) (ts.map valNode).length x.toNat = 0)) (numsI ts.length); rw [show (numsI ts.length).length = ts.length from by simp [numsI]] at q; have := hG.edg.many; rw [List.length_map] at this; omega
 have hrs := srcP_rng (ts.map valNode) ts.length;obtain ⟨V, hV⟩ : ∃ V, V = W.alloc (.cells #[.int .i64 m1, .int .i64 m2, .int .i64 m3] 127) := ⟨_, rfl⟩;rw [← hV] at hb0 F0;have HF0 := hid F0;have HB0 := hid hb0;have HV := hid hV;have M0 := Bx.new (w := W) [.int .i64 m1, .int .i64 m2, .int .i64 m3] 127 rfl;rw [← hV] at M0;have HM0 := hid M0;have HSC : Hid (∀ V', Below W.heap.size W V' → Calls Tryz.prog 213 #[.slice (some ⟨gb, goff, none⟩) ts.length gc] V' fun e w' => AnsI V' (srcP (ts.map valNode) ts.length) e w') := fun V' hV' =>
  l11Sources_is (some ⟨gb, goff, none⟩) gc ts V' hG.edg ((hz.below dNode_ok (hV'.mono hlo)).up dNode_ok (Nat.le_trans hlo hV'.size))
 obtain ⟨SRC, hSRC⟩ : ∃ q, q = srcP (ts.map valNode) ts.length := ⟨_, rfl⟩;rw [← hSRC] at HSC hsl hrs ⊢;have c0 := HF0.out.box.c 0 rfl;have b1 := M0.c 1 rfl;have b2 := M0.c 2 rfl;have HP0 := hid (And.intro c0 (And.intro b1 b2));have hpV : p < V.heap.size := HF0.out.box.size;have hWV : W.heap.size < V.heap.size := M0.size;have HLS : Hid (∀ Y, Below V.heap.size V Y → Y.cell? ⟨p, 0, none⟩ = some (.slice (some ⟨gb, goff, none⟩) ts.length gc) ∧ Y.cell? ⟨W.heap.size, 1, none⟩ = some (.int .i64 m2) ∧ Y.cell? ⟨W.heap.size, 2, none⟩ = some (.int .i64 m3)) := fun Y hY =>
  ⟨(hY.cell (p := ⟨p, 0, none⟩) hpV).trans HP0.out.1, (hY.cell (p := ⟨W.heap.size, 1, none⟩) hWV).trans HP0.out.2.1, (hY.cell (p := ⟨W.heap.size, 2, none⟩) hWV).trans HP0.out.2.2⟩
 clear hV hb0 M0 F0 hSRC c0 b1 b2
 rcases hh : hasB SRC m2 with _ | _
 case false =>
  have HR : Hid (offerR (ts.map valNode) SRC s m2 m3 = (2, s)) := by rw [Hid, offerR, if_neg (by rw [hh]; simp)]
  go_enter Tryz.func177, Tryz.ntmps177;go_wp2;rw [← HV.out];refine wp_walks (zl := []) (S := fun Y => Y.cell? ⟨p, 0, none⟩ = some (.slice (some ⟨gb, goff, none⟩) ts.length gc) ∧ Y.cell? ⟨W.heap.size, 1, none⟩ = some (.int .i64 m2) ∧ Y.cell? ⟨W.heap.size, 2, none⟩ = some (.int .i64 m3)) (by kernel_rfl) HP0.out (fun hH => ?_);refine Walks.tk 0 hH ?_;refine Walks.tk 1 hH ?_;refine Walks.tk 2 hH ?_;refine Walks.tk 3 hH ?_;refine Walks.tk 5 hH ?_;refine Walks.tk 6 hH ?_;refine Walks.on 4 fun K hK => ?_
  go_simp;refine (HSC.out V.drew HB0.out.drew).mono ?_;rintro e w2 ⟨⟨so, sc, rfl, hfr⟩, hb20⟩;have HB2 := hid ((Below.refl V.heap.size V).drew.trans hb20);have HS2 := hid (HLS.out w2 HB2.out);have HIN := hid hfr.in;clear hb20 hfr;refine hK.out _ _ (fun _ => HS2.out) (fun _ => ?_);clear hK K;refine Walks.on 7 fun K hK => ?_
  go_simp;refine (l1Has_is w2.heap.size so sc SRC m2 w2 false (by omega) HIN.out hh).mono ?_;rintro e w3 ⟨rfl, hw3⟩;rw [hw3]; clear hw3 w3
  refine hK.out _ _ (fun _ => HS2.out) (fun _ => ?_);clear hK K;refine Walks.on 8 fun K hK => ?_
  go_simp;refine hK.out _ _ (fun _ => HS2.out) (fun _ => ?_);clear hK K;refine Walks.on 9 fun K hK => ?_
  go_simp;refine hK.out _ _ (fun _ => HS2.out) (fun _ => ?_);clear hK K;refine Walks.on 10 fun K hK => ?_
  go_simp;refine hK.out _ _ (fun _ => HS2.out) (fun _ => ?_);clear hK K;refine Walks.on 11 fun K hK => ?_
  go_simp;refine hK.out _ _ (fun _ => HS2.out) (fun _ => ?_);clear hK K;refine Walks.on 12 fun K hK => ?_
  go_simp;refine hK.out _ _ (fun _ => HS2.out) (fun _ => ?_);clear hK K;refine Walks.on 13 fun K hK => ?_
  go_simp;refine hK.out _ _ (fun _ => HS2.out) (fun _ => ?_);clear hK K;refine Walks.on 14 fun K hK => ?_
  go_simp;refine hK.out _ _ (fun _ => HS2.out) (fun _ => ?_);clear hK K;refine Walks.on 15 fun K hK => ?_
  go_simp;refine hK.out _ _ (fun _ => HS2.out) (fun _ => ?_);clear hK K;refine Walks.done (by kernel_rfl) ?_ _;have HB3 := hid (HB0.out.trans (HB2.out.mono HB0.out.size));clear hH HIN HSC;go_wp2;go_ret;rw [HR.out];exact ⟨rfl, FStepS.same h HB3.out⟩
 rcases hv : valB m3 with _ | _
 case false =>
  have HR : Hid (offerR (ts.map valNode) SRC s m2 m3 = (2, s)) := by rw [Hid, offerR, if_neg (by rw [hv]; simp)]
  go_enter Tryz.func177, Tryz.ntmps177;go_wp2;rw [← HV.out];refine wp_walks (zl := []) (S := fun Y => Y.cell? ⟨p, 0, none⟩ = some (.slice (some ⟨gb, goff, none⟩) ts.length gc) ∧ Y.cell? ⟨W.heap.size, 1, none⟩ = some (.int .i64 m2) ∧ Y.cell? ⟨W.heap.size, 2, none⟩ = some (.int .i64 m3)) (by kernel_rfl) HP0.out (fun hH => ?_);refine Walks.tk 0 hH ?_;refine Walks.tk 1 hH ?_;refine Walks.tk 2 hH ?_;refine Walks.tk 3 hH ?_;refine Walks.tk 5 hH ?_;refine Walks.tk 6 hH ?_;refine Walks.on 4 fun K hK => ?_
  go_simp;refine (HSC.out V.drew HB0.out.drew).mono ?_;rintro e w2 ⟨⟨so, sc, rfl, hfr⟩, hb20⟩;have HB2 := hid ((Below.refl V.heap.size V).drew.trans hb20);have HS2 := hid (HLS.out w2 HB2.out);have HIN := hid hfr.in;clear hb20 hfr;refine hK.out _ _ (fun _ => HS2.out) (fun _ => ?_);clear hK K;refine Walks.on 7 fun K hK => ?_
  go_simp;refine (l1Has_is w2.heap.size so sc SRC m2 w2 true (by omega) HIN.out hh).mono ?_;rintro e w3 ⟨rfl, hw3⟩;rw [hw3]; clear hw3 w3
  refine hK.out _ _ (fun _ => HS2.out) (fun _ => ?_);clear hK K;refine Walks.on 8 fun K hK => ?_
  go_simp;refine hK.out _ _ (fun _ => HS2.out) (fun _ => ?_);clear hK K;refine Walks.on 9 fun K hK => ?_
  go_simp;refine hK.out _ _ (fun _ => HS2.out) (fun _ => ?_);clear hK K;refine Walks.on 10 fun K hK => ?_
  go_simp;refine hK.out _ _ (fun _ => HS2.out) (fun _ => ?_);clear hK K;refine Walks.on 11 fun K hK => ?_
  go_simp;refine hK.out _ _ (fun _ => HS2.out) (fun _ => ?_);clear hK K;refine Walks.on 12 fun K hK => ?_
  go_simp;refine (l7Value_is m3 w2 false hv).mono ?_;rintro e w3 ⟨rfl, hw3⟩;rw [hw3]; clear hw3 w3
  refine hK.out _ _ (fun _ => HS2.out) (fun _ => ?_);clear hK K;refine Walks.on 13 fun K hK => ?_
  go_simp;refine hK.out _ _ (fun _ => HS2.out) (fun _ => ?_);clear hK K;refine Walks.on 14 fun K hK => ?_
  go_simp;refine hK.out _ _ (fun _ => HS2.out) (fun _ => ?_);clear hK K;refine Walks.on 15 fun K hK => ?_
  go_simp;refine hK.out _ _ (fun _ => HS2.out) (fun _ => ?_);clear hK K;refine Walks.done (by kernel_rfl) ?_ _;have HB3 := hid (HB0.out.trans (HB2.out.mono HB0.out.size));clear hH HIN HSC;go_wp2;go_ret;rw [HR.out];exact ⟨rfl, FStepS.same h HB3.out⟩
 have hin : hasB SRC m2 = true ∧ valB m3 = true := ⟨hh, hv⟩;obtain ⟨k, hk, rfl⟩ := hrs m2 (by simpa [hasB] using hh);have hkb : k < s.bx.length := by omega
 have hki : (k : Int) < (s.bx.length : Int) := by omega
 have hkg : (k : Int) < (ts.length : Int) := by omega
 have HIN0 := hid hin;have HNE := hid hn;clear hin hn;go_enter Tryz.func177, Tryz.ntmps177;go_wp2;rw [← HV.out];refine wp_walks (zl := []) (S := fun Y => Y.cell? ⟨p, 0, none⟩ = some (.slice (some ⟨gb, goff, none⟩) ts.length gc) ∧ Y.cell? ⟨W.heap.size, 1, none⟩ = some (.int .i64 (k : Int)) ∧ Y.cell? ⟨W.heap.size, 2, none⟩ = some (.int .i64 m3)) (by kernel_rfl) HP0.out (fun hH => ?_);refine Walks.tk 0 hH ?_;refine Walks.tk 1 hH ?_;refine Walks.tk 2 hH ?_;refine Walks.tk 3 hH ?_;refine Walks.tk 5 hH ?_;refine Walks.tk 6 hH ?_;refine Walks.on 4 fun K hK => ?_
 go_simp;refine (HSC.out V.drew HB0.out.drew).mono ?_;rintro e w2 ⟨⟨so, sc, rfl, hfr⟩, hb20⟩;have HB2 := hid ((Below.refl V.heap.size V).drew.trans hb20);have HS2 := hid (HLS.out w2 HB2.out);have HIN := hid hfr.in;clear hb20 hfr;refine hK.out _ _ (fun _ => HS2.out) (fun _ => ?_);clear hK K;refine Walks.on 7 fun K hK => ?_
 go_simp;refine (l1Has_is w2.heap.size so sc SRC (k : Int) w2 true (by omega) HIN.out hh).mono ?_;rintro e w3 ⟨rfl, hw3⟩;rw [hw3]; clear hw3 w3
 refine hK.out _ _ (fun _ => HS2.out) (fun _ => ?_);clear hK K;refine Walks.on 8 fun K hK => ?_
 go_simp;refine hK.out _ _ (fun _ => HS2.out) (fun _ => ?_);clear hK K;refine Walks.on 9 fun K hK => ?_
 go_simp;refine hK.out _ _ (fun _ => HS2.out) (fun _ => ?_);clear hK K;refine Walks.on 10 fun K hK => ?_
 go_simp;refine hK.out _ _ (fun _ => HS2.out) (fun _ => ?_);clear hK K;refine Walks.on 11 fun K hK => ?_
 go_simp;refine hK.out _ _ (fun _ => HS2.out) (fun _ => ?_);clear hK K;refine Walks.on 12 fun K hK => ?_
 go_simp;refine (l7Value_is m3 w2 true hv).mono ?_;rintro e w3 ⟨rfl, hw3⟩;rw [hw3]; clear hw3 w3
 refine hK.out _ _ (fun _ => HS2.out) (fun _ => ?_);clear hK K;refine Walks.on 13 fun K hK => ?_
 go_simp;refine hK.out _ _ (fun _ => HS2.out) (fun _ => ?_);clear hK K;refine Walks.on 14 fun K hK => ?_
 go_simp;refine hK.out _ _ (fun _ => HS2.out) (fun _ => ?_);clear hK K;refine Walks.on 15 fun K hK => ?_
 go_simp;refine hK.out _ _ (fun _ => HS2.out) (fun _ => ?_);clear hK K;refine Walks.done (by kernel_rfl) ?_ _;have HB3 := hid (HB0.out.trans (HB2.out.mono HB0.out.size));have F2 := HF0.out.later HB2.out;have HF2 := hid F2;have c3 := F2.box.c 3 rfl;have b1 := HS2.out.2.1;have b2 := HS2.out.2.2;have c0 := F2.box.c 0 rfl;have hW2 : W.heap.size < w2.heap.size := by have := HB2.out.size; omega
 clear hH HIN HSC F2
 rcases hcl : s.cl with _ | _
 case true =>
  have HR : Hid (offerR (ts.map valNode) SRC s (k : Int) m3 = (3, s)) := by rw [Hid, offerR, if_pos HIN0.out, if_pos hcl]
  rw [hcl] at c3;go_wp2;go_ret;rw [HR.out];exact ⟨rfl, FStepS.same h HB3.out⟩
 rw [hcl] at c3;obtain ⟨b9, off9, e9, hb9, hc9⟩ := hNode_at hz.1 hk;obtain ⟨rfl, rfl⟩ : gb = b9 ∧ goff = off9 := by simp at e9; exact e9
 have hcp : capP (ts.map valNode) k = (el ts k).2.2.2.2.1 := by rw [capP, el_val hk]; rfl
 have g4 := (HB3.out.cell (p := ⟨gb, goff + k * 6 + 4, none⟩) (Nat.lt_of_lt_of_le hb9 hlo)).trans (hc9 k hk).2.2.2.2.1;rw [← hcp] at g4;have hck := hI.cap k (by rw [List.length_map]; exact hk);have c4 := HF2.out.box.c 4 rfl;have ck := (HF2.out.head hkb).1;obtain ⟨ho, hc, hsl3, hn3, _⟩ := HF2.out.hnd.slice hkb;rw [hsl3] at ck;have HSL3 := hid hsl3;have hTe := totT_el hkb;clear hcp hc9 e9 hsl3;obtain ⟨RW, hRW⟩ : ∃ RW, RW = el s.bx k := ⟨_, rfl⟩;have HR0 : Hid (offerR (ts.map valNode) SRC s (k : Int) m3 = if capP (ts.map valNode) k - (RW.length : Int) < 1 then (4, s) else (0, { s with bx := s.bx.set k (RW ++ [(s.it, m3, 0)]), it := s.it + 1 })) := by rw [Hid, offerR, if_pos HIN0.out, if_neg (by simp [hcl]), Int.toNat_natCast, hRW]
 rw [← hRW] at ck hck HSL3 hTe;have HRW := hid hRW
 generalize capP (ts.map valNode) k = cpk at g4 hck HR0
 clear hRW hcl
 by_cases hfull : (RW.length : Int) = cpk
 ·have hd : ((RW.length : Int) == cpk) = true := by simpa using hfull
  have HFU := hid hfull;clear hfull hck;go_wp2_with fail
  go_quiet (fail)
  go_wp2;go_ret;rw [HR0.out, if_pos (by have := HFU.out; omega)];exact ⟨rfl, FStepS.same h (below_draws HB3.out _)⟩
 ·have hd : ((RW.length : Int) == cpk) = false := by simpa using hfull
  go_wp2_with fail
  go_quiet (fail)
  go_wp2_with fail
  generalize hV7 : w2.drewN _ = V7
  have B7 : Below w2.heap.size w2 V7 := by rw [← hV7]; exact below_draws (Below.refl _ _) _
  have HB7 := hid (HB3.out.trans (B7.mono HB3.out.size));have F7 := HF2.out.later B7;have HF7 := hid F7;have M7 := (HM0.out.later HB2.out).later B7;clear hV7 B7 HF2 c0 c3 c4 ck b1 b2 g4 hd;have c4 := F7.box.c 4 rfl;have ck := (F7.head hkb).1;rw [HSL3.out] at ck;have c2 := F7.box.c 2 rfl;have b1 := M7.c 1 rfl;have b2 := M7.c 2 rfl;have hpq := F7.box.size;have hbq := F7.hnd.size;have hmq := M7.size;have hxk : k < xs.length := by rw [F7.hnd.len]; exact hkb
  have hnw : (el xs k).ownBlock ≠ some W.heap.size := fun e => by
   have := (own_block_lt (h.hnd.row k hkb) e).2; omega
  have hnp : (el xs k).ownBlock ≠ some p := F7.px k hkb;have hnb3 : (el xs k).ownBlock ≠ some bb := F7.bbx hkb;have hw1 : IntKind.i64.wrap (s.it + 1) = s.it + 1 := by rw [IntKind.wrap_i64]; omega
  rw [HSL3.out] at hnw hnp hnb3
  try dsimp only at hnw hnp hnb3
  clear F7 M7;refine wp_walks (zl := [27]) (S := fun Y => Y.cell? ⟨p, 4, none⟩ = some (.slice (some ⟨bb, 0, none⟩) s.bx.length s.bx.length) ∧ Y.cell? ⟨bb, k, none⟩ = some (.slice ho RW.length hc) ∧ Y.cell? ⟨p, 2, none⟩ = some (.int .i64 s.it) ∧ Y.cell? ⟨W.heap.size, 1, none⟩ = some (.int .i64 (k : Int)) ∧ Y.cell? ⟨W.heap.size, 2, none⟩ = some (.int .i64 m3)) (by kernel_rfl) ⟨c4, ck, c2, b1, b2⟩ (fun hH => ?_);refine Walks.tk 0 hH ?_;refine Walks.tk 1 hH ?_;refine Walks.tk 2 hH ?_;refine Walks.tk 3 hH ?_;refine Walks.tk 4 hH ?_;refine Walks.tk 5 hH ?_;refine Walks.tk 6 hH ?_;refine Walks.tk 7 hH ?_;refine Walks.tk 8 hH ?_;refine Walks.tk 9 hH ?_;refine Walks.tk 10 hH ?_;refine Walks.tk 11 hH ?_;refine Walks.tk 12 hH ?_;refine Walks.tk 13 hH ?_;refine Walks.tk 14 hH ?_;refine Walks.tk 15 hH ?_;refine Walks.tk 16 hH ?_;refine Walks.tk 17 hH ?_;refine Walks.tk 18 hH ?_;refine Walks.tk 19 hH ?_;refine Walks.tk 20 hH ?_;refine Walks.tk 21 hH ?_;refine Walks.tk 22 hH ?_;refine Walks.tk 23 hH ?_;refine Walks.on 24 fun K hK => ?_
  go_simp;obtain ⟨U, hU⟩ : ∃ U, U = (V7.alloc (.cells #[.int .i64 s.it, .int .i64 m3, .int .i64 0] 163)).drew := ⟨_, rfl⟩;rw [← hU];have hbU : Below V7.heap.size V7 U := by rw [hU]; exact (below1 V7 _).drew
  have hN : kTk.In U.heap.size U (some ⟨V7.heap.size, 0, none⟩) [(s.it, m3, 0)] := by
   have hx : Bx U V7.heap.size [.int .i64 s.it, .int .i64 m3, .int .i64 0] := by rw [hU]; exact (Bx.new (w := V7) [.int .i64 s.it, .int .i64 m3, .int .i64 0] 163 rfl).drew
   exact kTk_one hx.size (hx.c 0 rfl) (hx.c 1 rfl) (hx.c 2 rfl)
  have hUs := hbU.size;have SU : U.cell? ⟨p, 4, none⟩ = some (.slice (some ⟨bb, 0, none⟩) s.bx.length s.bx.length) ∧ U.cell? ⟨bb, k, none⟩ = some (.slice ho RW.length hc) ∧ U.cell? ⟨p, 2, none⟩ = some (.int .i64 s.it) ∧ U.cell? ⟨W.heap.size, 1, none⟩ = some (.int .i64 (k : Int)) ∧ U.cell? ⟨W.heap.size, 2, none⟩ = some (.int .i64 m3) := ⟨(hbU.cell (p := ⟨p, 4, none⟩) hpq).trans c4, (hbU.cell (p := ⟨bb, k, none⟩) hbq).trans ck, (hbU.cell (p := ⟨p, 2, none⟩) hpq).trans c2, (hbU.cell (p := ⟨W.heap.size, 1, none⟩) hmq).trans b1, (hbU.cell (p := ⟨W.heap.size, 2, none⟩) hmq).trans b2⟩;refine hK.out _ _ (fun _ => SU) (fun _ => ?_);clear hK K hU;have hOU : kTk.Own (bb + 1) U (.slice ho RW.length hc) RW := by rw [← HSL3.out, HRW.out]; exact (HF7.out.later hbU).hnd.row k hkb
  refine Walks.on 25 fun K hK => ?_
  refine Kind.appZ kTk_ok U (by rfl) (.tmp 63) (.tmp 72) (by rfl) (bb + 1) (.slice ho RW.length hc) RW (by rfl) hOU (by omega) (some ⟨V7.heap.size, 0, none⟩) [(s.it, m3, 0)] 1 1 (by rfl) rfl (by simp) _ hN (by rw [List.length_singleton]; omega) ?_;intro v' w6 hO2 hB2 hG2 hw2;obtain ⟨L2, hL2⟩ : ∃ L2, L2 = RW ++ [(s.it, m3, 0)] := ⟨_, rfl⟩;rw [← hL2] at hO2;have HL2 := hid hL2;clear hL2;obtain ⟨vo, vc, hv', _, _⟩ := hO2.fresh;have S2 : w6.cell? ⟨p, 4, none⟩ = some (.slice (some ⟨bb, 0, none⟩) s.bx.length s.bx.length) ∧ w6.cell? ⟨bb, k, none⟩ = some (.slice ho RW.length hc) ∧ w6.cell? ⟨p, 2, none⟩ = some (.int .i64 s.it) ∧ w6.cell? ⟨W.heap.size, 1, none⟩ = some (.int .i64 (k : Int)) ∧ w6.cell? ⟨W.heap.size, 2, none⟩ = some (.int .i64 m3) := ⟨(World.cell?_of_block (a := ⟨p, 4, none⟩) (hG2.block p (Nat.lt_of_lt_of_le hpq hUs) (fun e => hnp e.symm))).trans SU.1, (World.cell?_of_block (a := ⟨bb, k, none⟩) (hG2.block bb (Nat.lt_of_lt_of_le hbq hUs) (fun e => hnb3 e.symm))).trans SU.2.1, (World.cell?_of_block (a := ⟨p, 2, none⟩) (hG2.block p (Nat.lt_of_lt_of_le hpq hUs) (fun e => hnp e.symm))).trans SU.2.2.1, (World.cell?_of_block (a := ⟨W.heap.size, 1, none⟩) (hG2.block W.heap.size (Nat.lt_of_lt_of_le hmq hUs) (fun e => hnw e.symm))).trans SU.2.2.2.1, (World.cell?_of_block (a := ⟨W.heap.size, 2, none⟩) (hG2.block W.heap.size (Nat.lt_of_lt_of_le hmq hUs) (fun e => hnw e.symm))).trans SU.2.2.2.2⟩;refine hK.out _ _ (fun _ => S2) (fun _ => ?_);clear hK K;refine Walks.tk 26 S2 ?_;refine Walks.on 27 fun K hK => ?_
  have FU := HF7.out.later hbU;have fB : w6.frozen? ⟨bb, k, none⟩ = false := (World.frozen?_of_block (a := ⟨bb, k, none⟩) (hG2.block bb (Nat.lt_of_lt_of_le hbq hUs) (fun e => hnb3 e.symm))).trans (FU.head hkb).2;have HX2 := hid (FU.putRow hkb hO2 (hB2.mono (by have := FU.lob; omega)) (by rw [HSL3.out]; exact hG2) (by rw [HSL3.out]; exact hw2));have cB2 := S2.2.1;rw [hv'] at HX2
  (try rw [hv'])
  go_simp;refine hK.out _ _ (fun h => absurd h (by decide)) (fun _ => ?_);refine Walks.done (by kernel_rfl) ?_ _;clear hK K;have HBU := hid (HB7.out.trans (hbU.mono HB7.out.size));have HX3 : Hid (FX lo p (.slice (some ⟨gb, goff, none⟩) ts.length gc) (FO p bb xs ev fv uv) W (w6.setCell ⟨bb, k, none⟩ (.slice vo L2.length vc)) bb (xs.set k (.slice vo L2.length vc)) ev fv uv { s with bx := s.bx.set k (RW ++ [(s.it, m3, 0)]) }) := by
   rw [Hid, ← HL2.out]; exact FX.start h HBU.out HX2.out
  obtain ⟨w7, h7⟩ : ∃ w7, w7 = w6.setCell ⟨bb, k, none⟩ (.slice vo L2.length vc) := ⟨_, rfl⟩;rw [← h7] at HX3 ⊢;have c27 := HX3.out.flow.box.c 2 rfl;have f27 := HX3.out.flow.box.f 2 rfl;dsimp only at c27;have HX8 := hid (HX3.out.trans (HX3.out.flow.putIt (s.it + 1)));clear FU S2 SU hOU hN hbU hO2 hB2 hG2 hw2 fB cB2 c4 ck c2 b1 b2 h7 HX2 hH;go_wp2;go_ret;rw [HR0.out, if_neg (by omega)];exact ⟨rfl, HX8.out.step⟩
end
section
open Go.RowKit

set_option maxHeartbeats 1000000 in
theorem l12Live_is (ti it : Int) (cl : Bool) (ao : Option Addr) (cap : Nat) (ls : List (List (Int × Int × Int))) (emo : Option Addr) (nem emc : Nat) (fao : Option Addr) (nfa fac : Nat) (fuo : Option Addr) (nfu fuc : Nat) (w : World) (hl : ls.length ≤ 1048576 ∧ totT ls ≤ 1048576) (hz : InTT w.heap.size w ao ls) :
  Calls Tryz.prog 183 #[.agg #[.int .i64 ti, .int .i64 it, .bool cl, .slice ao ls.length cap, .slice emo nem emc, .slice fao nfa fac, .slice fuo nfu fuc]] w fun e w' => e = .returned (.int .i64 (totT ls : Int)) ∧ Below w.heap.size w w' := by
 obtain ⟨hs, hz⟩ := hz;have h1 := hl.1;have h2 := hl.2;have hB := below1 w (.cells #[.int .i64 ti, .int .i64 it, .bool cl, .slice ao ls.length cap, .slice emo nem emc, .slice fao nfa fac, .slice fuo nfu fuc] 48);have HZ := hid (hz.later hB);have HB := hid hB;obtain ⟨V, hV⟩ : ∃ V, V = w.alloc (.cells #[.int .i64 ti, .int .i64 it, .bool cl, .slice ao ls.length cap, .slice emo nem emc, .slice fao nfa fac, .slice fuo nfu fuc] 48) := ⟨_, rfl⟩;rw [← hV] at HZ HB;have HV := hid hV;clear hV hz hB;go_enter Tryz.func183, Tryz.ntmps183;go_wp2;rw [← HV.out]
 go_loop [3, 9] (fun v i => ∃ k : Nat, k ≤ ls.length ∧ i = .int .i64 k ∧ v = .int .i64 (totT (ls.take k) : Int)) (fun _ i => ls.length - (intOf i).toNat)
 case atStart => exact ⟨0, Nat.zero_le _, rfl, by simp [totT]⟩
 case round =>
  obtain ⟨k, hk, rfl, rfl⟩ := hrel
  by_cases hlt : k < ls.length
  ·obtain ⟨b, off, o, c, rfl, hb, hc, _, _⟩ := HZ.out.at hlt;have ht := totT_take hlt;have hle := totT_el hlt
   generalize (el ls k).length = x at hc ht hle
   have HT := hid ht;clear ht;go_wp2;go_round
   case rel => exact ⟨k + 1, by omega, by go_num, by rw [HT.out]; go_num⟩
   case measure => simp [intOf]; omega
  ·obtain rfl : k = ls.length := by omega
   rw [List.take_length];go_wp2;go_ret;exact ⟨rfl, HB.out⟩
set_option maxRecDepth 100000 in
set_option maxHeartbeats 2000000 in
theorem liveM_any (lo : Nat) (W : World) (p bb : Nat) (gv : Value) (xs : List Value) (ev fv uv : Value) (s : PP) (h : FlowS lo W p bb gv xs ev fv uv s) (hn : s.bx.length ≤ 10) (ht : totT s.bx ≤ 100000) :
  Calls Tryz.prog 180 #[.pointer (some ⟨p, 0, none⟩)] W fun e W' => e = .returned (.int .i64 (totT s.bx : Int)) ∧ Below W.heap.size W W' := by
 have c1 := h.box.c 1 rfl;have c2 := h.box.c 2 rfl;have c3 := h.box.c 3 rfl;have c4 := h.box.c 4 rfl;have c5 := h.box.c 5 rfl;have c6 := h.box.c 6 rfl;have c7 := h.box.c 7 rfl;obtain ⟨eo, ec, he, _, _⟩ := h.emo.fresh;obtain ⟨fo, fc, hf, _, _⟩ := h.fao.fresh;obtain ⟨uo, uc, hu, _, _⟩ := h.fuo.fresh;rw [he] at c5;rw [hf] at c6;rw [hu] at c7;have HL := hid (l12Live_is s.ti s.it s.cl (some ⟨bb, 0, none⟩) s.bx.length s.bx eo s.em.length ec fo s.fa.length fc uo s.fu.length uc W ⟨by omega, by omega⟩ ⟨_, h.hnd.fr.in⟩);clear h he hf hu;go_enter Tryz.func180, Tryz.ntmps180;go_wp2_with fail;refine HL.out.mono ?_;rintro e w2 ⟨rfl, hb2⟩;go_wp2;go_ret;exact ⟨rfl, hb2⟩
set_option maxRecDepth 100000 in
set_option maxHeartbeats 2000000 in
theorem moveS1 (lo : Nat) (W : World) (p bb gb goff gc : Nat) (ts : List LNode) (xs : List Value) (ev fv uv : Value) (s : PP) (m2 m3 : Int) (h : FlowS lo W p bb (.slice (some ⟨gb, goff, none⟩) ts.length gc) xs ev fv uv s) (hz : DIn dNode lo W (some ⟨gb, goff, none⟩) ts) (hG : GoodE (ts.map valNode)) (hI : InvS (ts.map valNode) s) (hB : RawP ts.length s) :
  Calls Tryz.prog 140 #[.pointer (some ⟨p, 0, none⟩), .agg #[.int .i64 1, .int .i64 m2, .int .i64 m3]] W fun e W' => e = .returned (.int .i64 (offerR (ts.map valNode) (srcP (ts.map valNode) ts.length) s m2 m3).1) ∧ FStepS lo p (.slice (some ⟨gb, goff, none⟩) ts.length gc) (FO p bb xs ev fv uv) W W' (offerR (ts.map valNode) (srcP (ts.map valNode) ts.length) s m2 m3).2 := by
 have hb0 := below1 W (.cells #[.int .i64 1, .int .i64 m2, .int .i64 m3] 127);have hlo : lo ≤ W.heap.size := h.lo_le;have F0 := h.later hb0;have hp := h.box.size;have hbb := h.hnd.size;have hN := hB.len;have hmany : s.bx.length ≤ 10 := by have := hG.edg.many; rw [List.length_map] at this; omega
 have h1 := hB.tot;have h2 := hB.em;have h3 := hB.fu;have h4 := hB.it1;have h5 := hB.ti0;have h6 := hB.ti1;obtain ⟨V, hV⟩ : ∃ V, V = W.alloc (.cells #[.int .i64 1, .int .i64 m2, .int .i64 m3] 127) := ⟨_, rfl⟩;rw [← hV] at hb0 F0;have HF0 := hid F0;have HB0 := hid hb0;have HV := hid hV;have M0 := Bx.new (w := W) [.int .i64 1, .int .i64 m2, .int .i64 m3] 127 rfl;rw [← hV] at M0;have HM0 := hid M0;have b0 := M0.c 0 rfl;have b1 := M0.c 1 rfl;have b2 := M0.c 2 rfl;have hz0 := hz.below dNode_ok (hb0.mono hlo);have HNN := hid hN;clear hV hb0 M0 F0 hN;have HO := hid (offerS_any lo V p bb gb goff gc ts xs ev fv uv s 1 m2 m3 HF0.out HNN.out hz0 hG hI (by omega) hB.it0 (by omega));go_enter Tryz.func140, Tryz.ntmps140;go_wp2_with fail;rw [← HV.out];refine HO.out.mono ?_;rintro e w2 ⟨rfl, hs⟩;have HS := hid (FStepS.start h HB0.out hs);clear hs;go_wp2;go_ret;exact ⟨rfl, HS.out⟩
set_option maxRecDepth 100000 in
set_option maxHeartbeats 2000000 in
theorem moveS2 (lo : Nat) (W : World) (p bb gb goff gc : Nat) (ts : List LNode) (xs : List Value) (ev fv uv : Value) (s : PP) (m2 m3 : Int) (h : FlowS lo W p bb (.slice (some ⟨gb, goff, none⟩) ts.length gc) xs ev fv uv s) (hz : DIn dNode lo W (some ⟨gb, goff, none⟩) ts) (hG : GoodE (ts.map valNode)) (hI : InvS (ts.map valNode) s) (hB : RawP ts.length s) :
  Calls Tryz.prog 140 #[.pointer (some ⟨p, 0, none⟩), .agg #[.int .i64 2, .int .i64 m2, .int .i64 m3]] W fun e W' => e = .returned (.int .i64 (stepR (ts.map valNode) s m2).1) ∧ FStepS lo p (.slice (some ⟨gb, goff, none⟩) ts.length gc) (FO p bb xs ev fv uv) W W' (stepR (ts.map valNode) s m2).2 := by
 have hb0 := below1 W (.cells #[.int .i64 2, .int .i64 m2, .int .i64 m3] 127);have hlo : lo ≤ W.heap.size := h.lo_le;have F0 := h.later hb0;have hp := h.box.size;have hbb := h.hnd.size;have hN := hB.len;have hmany : s.bx.length ≤ 10 := by have := hG.edg.many; rw [List.length_map] at this; omega
 have h1 := hB.tot;have h2 := hB.em;have h3 := hB.fu;have h4 := hB.it1;have h5 := hB.ti0;have h6 := hB.ti1;obtain ⟨V, hV⟩ : ∃ V, V = W.alloc (.cells #[.int .i64 2, .int .i64 m2, .int .i64 m3] 127) := ⟨_, rfl⟩;rw [← hV] at hb0 F0;have HF0 := hid F0;have HB0 := hid hb0;have HV := hid hV;have M0 := Bx.new (w := W) [.int .i64 2, .int .i64 m2, .int .i64 m3] 127 rfl;rw [← hV] at M0;have HM0 := hid M0;have b0 := M0.c 0 rfl;have b1 := M0.c 1 rfl;have b2 := M0.c 2 rfl;have hz0 := hz.below dNode_ok (hb0.mono hlo);have HNN := hid hN;clear hV hb0 M0 F0 hN;have c0 := HF0.out.box.c 0 rfl;have hmany2 : ts.length ≤ 10 := by have := hG.edg.many; rw [List.length_map] at this; exact this
 have hw : IntKind.i64.wrap ((ts.length : Int) - 1) = (ts.length : Int) - 1 := by rw [IntKind.wrap_i64]; omega
 by_cases hin : 0 ≤ m2 ∧ m2 < s.bx.length
 ·obtain ⟨k, rfl⟩ : ∃ k : Nat, m2 = (k : Int) := ⟨m2.toNat, by omega⟩;have hk : k < s.bx.length := by omega
  have hkt : k < ts.length := by have := HNN.out; omega
  have hki : (k : Int) < (s.bx.length : Int) := by omega
  have HLI : Hid (∀ n, Calls Tryz.prog 72 #[.int .i64 (k : Int), .int .i64 0, .int .i64 ((ts.length : Int) - 1)] (V.drewN n) fun e w' => e = .returned (.bool true) ∧ w' = V.drewN n) := fun n => l1In_is _ _ _ _ _ (by rw [decide_eq_true (by omega), decide_eq_true (by omega)]; rfl)
  have c4 := HF0.out.box.c 4 rfl;have ck := (HF0.out.head hk).1;obtain ⟨ho, hc, hsl, _, _⟩ := HF0.out.hnd.slice hk;rw [hsl] at ck;clear hsl
  cases hbx : el s.bx k with
  | nil =>
   have HR : Hid (stepR (ts.map valNode) s (k : Int) = (5, s)) := by rw [Hid, stepR, if_pos hin, Int.toNat_natCast, hbx]
   rw [hbx] at ck;dsimp only [List.length_nil] at ck;clear hin hbx;go_enter Tryz.func140, Tryz.ntmps140;go_wp2_with fail;rw [← HV.out]
   go_quiet (exact Calls.quiet_of_same (HLI.out _))
   go_wp2_with fail
   go_quiet (fail)
   go_wp2;go_ret;rw [HR.out];exact ⟨rfl, FStepS.same h (by first | exact below_draws HB0.out _ | exact below_draws (below_draws HB0.out _) _)⟩
  | cons t r =>
   obtain ⟨t1, t2, t3⟩ := t;have htr := hB.tr k (t1, t2, t3) (by rw [hbx]; simp);have hvv := hI.val k (t1, t2, t3) (by rw [hbx]; simp);dsimp only at htr hvv;have HBX := hid hbx;rw [hbx] at ck;have hne : (((r.length + 1 : Nat) : Int) == 0) = false := by simp; omega
   have hne2 : (((((t1, t2, t3) :: r).length : Nat) : Int) == 0) = false := by simp; omega
   clear hin hbx;go_enter Tryz.func140, Tryz.ntmps140;go_wp2_with fail;rw [← HV.out]
   go_quiet (exact Calls.quiet_of_same (HLI.out _))
   go_wp2_with fail
   go_quiet (fail)
   go_wp2_with fail
   generalize hV7 : V.drewN _ = V7
   have B7 : Below W.heap.size W V7 := by rw [← hV7]; exact below_draws HB0.out _
   have HS := hid (stepS_any lo V7 p bb gb goff gc ts xs ev fv uv s k t1 t2 t3 r (h.later B7) HNN.out hkt HBX.out (hz.below dNode_ok (B7.mono hlo)) hG hvv (by omega) (by omega) (by omega) h5 h6 htr.1 (by omega));have HB7 := hid B7;clear hV7 B7;refine HS.out.mono ?_;rintro e w2 ⟨rfl, hs⟩;have HS2 := hid (FStepS.start h HB7.out hs);clear hs;go_wp2;go_ret
      
   exact ⟨rfl, HS2.out⟩
 ·have HR : Hid (stepR (ts.map valNode) s m2 = (2, s)) := by rw [Hid, stepR, if_neg hin]
  have HLI : Hid (∀ n, Calls Tryz.prog 72 #[.int .i64 m2, .int .i64 0, .int .i64 ((ts.length : Int) - 1)] (V.drewN n) fun e w' => e = .returned (.bool false) ∧ w' = V.drewN n) := fun n => l1In_is _ _ _ _ _ (by
   have hnn := HNN.out
   by_cases hz9 : 0 ≤ m2
   ·rw [decide_eq_false (p := m2 ≤ _) (by omega), Bool.and_false]
   ·rw [decide_eq_false hz9, Bool.false_and])
  clear hin;go_enter Tryz.func140, Tryz.ntmps140;go_wp2_with fail;rw [← HV.out]
  go_quiet (exact Calls.quiet_of_same (HLI.out _))
  go_wp2;go_ret;rw [HR.out];exact ⟨rfl, FStepS.same h (below_draws HB0.out _)⟩
set_option maxRecDepth 100000 in
set_option maxHeartbeats 2000000 in
theorem moveS3 (lo : Nat) (W : World) (p bb gb goff gc : Nat) (ts : List LNode) (xs : List Value) (ev fv uv : Value) (s : PP) (m2 m3 : Int) (h : FlowS lo W p bb (.slice (some ⟨gb, goff, none⟩) ts.length gc) xs ev fv uv s) (hz : DIn dNode lo W (some ⟨gb, goff, none⟩) ts) (hG : GoodE (ts.map valNode)) (hI : InvS (ts.map valNode) s) (hB : RawP ts.length s) :
  Calls Tryz.prog 140 #[.pointer (some ⟨p, 0, none⟩), .agg #[.int .i64 3, .int .i64 m2, .int .i64 m3]] W fun e W' => e = .returned (.int .i64 (faultR s m2).1) ∧ FStepS lo p (.slice (some ⟨gb, goff, none⟩) ts.length gc) (FO p bb xs ev fv uv) W W' (faultR s m2).2 := by
 have hb0 := below1 W (.cells #[.int .i64 3, .int .i64 m2, .int .i64 m3] 127);have hlo : lo ≤ W.heap.size := h.lo_le;have F0 := h.later hb0;have hp := h.box.size;have hbb := h.hnd.size;have hN := hB.len;have hmany : s.bx.length ≤ 10 := by have := hG.edg.many; rw [List.length_map] at this; omega
 have h1 := hB.tot;have h2 := hB.em;have h3 := hB.fu;have h4 := hB.it1;have h5 := hB.ti0;have h6 := hB.ti1;obtain ⟨V, hV⟩ : ∃ V, V = W.alloc (.cells #[.int .i64 3, .int .i64 m2, .int .i64 m3] 127) := ⟨_, rfl⟩;rw [← hV] at hb0 F0;have HF0 := hid F0;have HB0 := hid hb0;have HV := hid hV;have M0 := Bx.new (w := W) [.int .i64 3, .int .i64 m2, .int .i64 m3] 127 rfl;rw [← hV] at M0;have HM0 := hid M0;have b0 := M0.c 0 rfl;have b1 := M0.c 1 rfl;have b2 := M0.c 2 rfl;have hz0 := hz.below dNode_ok (hb0.mono hlo);have HNN := hid hN;clear hV hb0 M0 F0 hN;have c0 := HF0.out.box.c 0 rfl;have hmany2 : ts.length ≤ 10 := by have := hG.edg.many; rw [List.length_map] at this; exact this
 have hw : IntKind.i64.wrap ((ts.length : Int) - 1) = (ts.length : Int) - 1 := by rw [IntKind.wrap_i64]; omega
 by_cases hin : 0 ≤ m2 ∧ m2 < s.bx.length
 ·obtain ⟨k, rfl⟩ : ∃ k : Nat, m2 = (k : Int) := ⟨m2.toNat, by omega⟩;have hk : k < s.bx.length := by omega
  have hkt : k < ts.length := by have := HNN.out; omega
  have hki : (k : Int) < (s.bx.length : Int) := by omega
  have HLI : Hid (∀ n, Calls Tryz.prog 72 #[.int .i64 (k : Int), .int .i64 0, .int .i64 ((ts.length : Int) - 1)] (V.drewN n) fun e w' => e = .returned (.bool true) ∧ w' = V.drewN n) := fun n => l1In_is _ _ _ _ _ (by rw [decide_eq_true (by omega), decide_eq_true (by omega)]; rfl)
  have c4 := HF0.out.box.c 4 rfl;have ck := (HF0.out.head hk).1;obtain ⟨ho, hc, hsl, _, _⟩ := HF0.out.hnd.slice hk;rw [hsl] at ck;clear hsl
  cases hbx : el s.bx k with
  | nil =>
   have HR : Hid (faultR s (k : Int) = (5, s)) := by rw [Hid, faultR, if_pos hin, Int.toNat_natCast, hbx]
   rw [hbx] at ck;dsimp only [List.length_nil] at ck;clear hin hbx;go_enter Tryz.func140, Tryz.ntmps140;go_wp2_with fail;rw [← HV.out]
   go_quiet (exact Calls.quiet_of_same (HLI.out _))
   go_wp2_with fail
   go_quiet (fail)
   go_wp2;go_ret;rw [HR.out];exact ⟨rfl, FStepS.same h (by first | exact below_draws HB0.out _ | exact below_draws (below_draws HB0.out _) _)⟩
  | cons t r =>
   obtain ⟨t1, t2, t3⟩ := t;have htr := hB.tr k (t1, t2, t3) (by rw [hbx]; simp);have hvv := hI.val k (t1, t2, t3) (by rw [hbx]; simp);dsimp only at htr hvv;have HBX := hid hbx;rw [hbx] at ck;have hne : (((r.length + 1 : Nat) : Int) == 0) = false := by simp; omega
   have hne2 : (((((t1, t2, t3) :: r).length : Nat) : Int) == 0) = false := by simp; omega
   clear hin hbx;go_enter Tryz.func140, Tryz.ntmps140;go_wp2_with fail;rw [← HV.out]
   go_quiet (exact Calls.quiet_of_same (HLI.out _))
   go_wp2_with fail
   go_quiet (fail)
   go_wp2_with fail
   generalize hV7 : V.drewN _ = V7
   have B7 : Below W.heap.size W V7 := by rw [← hV7]; exact below_draws HB0.out _
   have HS := hid (faultS_any lo V7 p bb _ xs ev fv uv s k t1 t2 t3 r (h.later B7) hk HBX.out hmany (by omega) (by omega) h5 h6 htr.1 (by omega));have HB7 := hid B7;clear hV7 B7;refine HS.out.mono ?_;rintro e w2 ⟨rfl, hs⟩;have HS2 := hid (FStepS.start h HB7.out hs);clear hs;have HR : Hid (faultR s (k : Int) = (0, failP s k t1 t2 t3 r)) := by rw [Hid, faultR, if_pos ⟨by omega, by omega⟩, Int.toNat_natCast, HBX.out]
   go_wp2;go_ret;rw [HR.out];exact ⟨rfl, HS2.out⟩
 ·have HR : Hid (faultR s m2 = (2, s)) := by rw [Hid, faultR, if_neg hin]
  have HLI : Hid (∀ n, Calls Tryz.prog 72 #[.int .i64 m2, .int .i64 0, .int .i64 ((ts.length : Int) - 1)] (V.drewN n) fun e w' => e = .returned (.bool false) ∧ w' = V.drewN n) := fun n => l1In_is _ _ _ _ _ (by
   have hnn := HNN.out
   by_cases hz9 : 0 ≤ m2
   ·rw [decide_eq_false (p := m2 ≤ _) (by omega), Bool.and_false]
   ·rw [decide_eq_false hz9, Bool.false_and])
  clear hin;go_enter Tryz.func140, Tryz.ntmps140;go_wp2_with fail;rw [← HV.out]
  go_quiet (exact Calls.quiet_of_same (HLI.out _))
  go_wp2;go_ret;rw [HR.out];exact ⟨rfl, FStepS.same h (below_draws HB0.out _)⟩
end
end Go.Proofs.YtdacedbfnlkghaaGreatDoor
