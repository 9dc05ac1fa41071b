
/- The specification's moves: ticks, drains, aborts. No conditions but those written. The specification plays moves on a new pipe. No conditions but those written. The offers that were taken: both sides. No conditions but those written. Running out, plainly: each step makes a measure fall, and behind the last step all boxes are empty. No conditions but those written. -/
import Derived.Test.YtllmpinmbajpgaaGreatDoorPSpgSph
import Derived.Test.YtllmpinmbajpgaaGreatDoorPCkLd
import Derived.Test.YtllmpinmbajpgaaGreatDoorPThWp
import Derived.Test.YtllmpinmbajpgaaGreatDoorPDppMf
import Derived.Test.YtllmpinmbajpgaaGreatDoorPYtYb
import Derived.Test.YtllmpinmbajpgaaGreatDoorPCvaMi
namespace Go.Proofs.YtllmpinmbajpgaaGreatDoor
section
open Go.RowKit

set_option maxRecDepth 100000 in
set_option maxHeartbeats 2000000 in
theorem moveS4 (lo : Nat) (W : World) (p bb gb goff gc : Nat) (ts : List LNode) (xs : List Value) (ev fv uv : Value) (s : PP) (m2 m3 : Int) (n : Nat) (h : FlowS lo W p bb (.slice (some ⟨gb, goff, none⟩) ts.length gc) xs ev fv uv s) (hz : DIn dNode lo W (some ⟨gb, goff, none⟩) ts) (hG : GoodE (ts.map valNode)) (_hI : InvS (ts.map valNode) s) (hB : BndP ts.length n s) (_hn : n ≤ 1000) :
  Calls Tryz.prog 52 #[.pointer (some ⟨p, 0, none⟩), .agg #[.int .i64 4, .int .i64 m2, .int .i64 m3]] W fun e W' => e = .returned (.int .i64 (tickR s m3).1) ∧ FStepS lo p (.slice (some ⟨gb, goff, none⟩) ts.length gc) (FO p bb xs ev fv uv) W W' (tickR s m3).2 := by
 have hb0 := below1 W (.cells #[.int .i64 4, .int .i64 m2, .int .i64 m3] 42);have hlo : lo ≤ W.heap.size := h.lo_le;have F0 := h.later hb0;have hp := h.box.size;have hbb := h.hnd.size;have hN := hB.len;have hmany : s.bx.length ≤ 10 := by have := hG.edg.many; rw [List.length_map] at this; omega
 have h1 := hB.tot;have h2 := hB.em;have h3 := hB.fu;have h4 := hB.it1;have h5 := hB.ti0;have h6 := hB.ti1;obtain ⟨V, hV⟩ : ∃ V, V = W.alloc (.cells #[.int .i64 4, .int .i64 m2, .int .i64 m3] 42) := ⟨_, rfl⟩;rw [← hV] at hb0 F0;have HF0 := hid F0;have HB0 := hid hb0;have HV := hid hV;have M0 := Bx.new (w := W) [.int .i64 4, .int .i64 m2, .int .i64 m3] 42 rfl;rw [← hV] at M0;have HM0 := hid M0;have b0 := M0.c 0 rfl;have b1 := M0.c 1 rfl;have b2 := M0.c 2 rfl;have hz0 := hz.below dNode_ok (hb0.mono hlo);have HNN := hid hN;clear hV hb0 M0 F0 hN;have c1 := HF0.out.box.c 1 rfl;have f1 := HF0.out.box.f 1 rfl
 rcases hb : (decide (0 ≤ m3) && decide (m3 ≤ 1000)) with _ | _
 case false =>
  have HR : Hid (tickR s m3 = (2, s)) := by
   rw [Hid, tickR, if_pos];rw [Bool.and_eq_false_iff, decide_eq_false_iff_not, decide_eq_false_iff_not] at hb
   omega
  have HLI := hid (l1In_is m3 0 1000 V false hb);clear hb;go_enter Tryz.func52, Tryz.ntmps52;go_wp2_with fail;rw [← HV.out];refine HLI.out.mono ?_;rintro e w2 ⟨rfl, hw2⟩;rw [hw2]; clear hw2 w2
  go_wp2;go_ret;rw [HR.out];exact ⟨rfl, FStepS.same h HB0.out⟩
 have HLI := hid (l1In_is m3 0 1000 V true hb);have h30 : 0 ≤ m3 ∧ m3 ≤ 1000 := by simpa using hb
 have hw : IntKind.i64.wrap (s.ti + m3) = s.ti + m3 := by rw [IntKind.wrap_i64]; omega
 clear hb
 by_cases hgt : 1000000 < s.ti + m3
 ·have hd : decide (1000000 < s.ti + m3) = true := by simpa using hgt
  have HR : Hid (tickR s m3 = (4, s)) := by rw [Hid, tickR, if_neg (by omega), if_pos hgt]
  go_enter Tryz.func52, Tryz.ntmps52;go_wp2_with fail;rw [← HV.out];refine HLI.out.mono ?_;rintro e w2 ⟨rfl, hw2⟩;rw [hw2]; clear hw2 w2
  go_wp2_with fail
  go_quiet (fail)
  go_wp2;go_ret;rw [HR.out];exact ⟨rfl, FStepS.same h (below_draws HB0.out _)⟩
 ·have hd : decide (1000000 < s.ti + m3) = false := by simpa using hgt
  have HR : Hid (tickR s m3 = (0, { s with ti := s.ti + m3 })) := by rw [Hid, tickR, if_neg (by omega), if_neg hgt]
  go_enter Tryz.func52, Tryz.ntmps52;go_wp2_with fail;rw [← HV.out];refine HLI.out.mono ?_;rintro e w2 ⟨rfl, hw2⟩;rw [hw2]; clear hw2 w2
  go_wp2_with fail
  go_quiet (fail)
  go_wp2_with fail
  generalize hV7 : V.drewN _ = V7
  have B7 : Below V.heap.size V V7 := by rw [← hV7]; exact below_draws (Below.refl _ _) _
  have HB7 := hid (HB0.out.trans (B7.mono HB0.out.size));have HF7 := hid (HF0.out.later B7);have M7 := HM0.out.later B7;have SU := And.intro (HF7.out.box.c 1 rfl) (M7.c 2 rfl);have f17 := HF7.out.box.f 1 rfl;have HX7 := hid (HF7.out.putTi (s.ti + m3));clear hV7 B7 M7 c1 f1 b0 b1 b2 hd;refine wp_walks (zl := [11]) (S := fun Y => Y.cell? ⟨p, 1, none⟩ = some (.int .i64 s.ti) ∧ Y.cell? ⟨W.heap.size, 2, none⟩ = some (.int .i64 m3)) (by kernel_rfl) SU (fun hH => ?_);refine Walks.tk 0 hH ?_;refine Walks.tk 1 hH ?_;refine Walks.tk 2 hH ?_;refine Walks.tk 3 hH ?_;refine Walks.tk 4 hH ?_;refine Walks.tk 5 hH ?_;refine Walks.tk 6 hH ?_;refine Walks.tk 7 hH ?_;refine Walks.on 8 fun K hK => ?_
  go_simp;refine hK.out _ _ (fun _ => SU) (fun _ => ?_);clear hK K;refine Walks.on 9 fun K hK => ?_
  go_simp;refine hK.out _ _ (fun _ => SU) (fun _ => ?_);clear hK K;refine Walks.tk 10 SU ?_;refine Walks.on 11 fun K hK => ?_
  go_simp;refine hK.out _ _ (fun h => absurd h (by decide)) (fun _ => ?_);refine Walks.done (by kernel_rfl) ?_ _;clear hK K;go_wp2;go_ret;rw [HR.out];exact ⟨rfl, FStepS.start h HB7.out (HX7.out.later (Below.refl _ _).drew).step⟩
set_option maxRecDepth 100000 in
set_option maxHeartbeats 2000000 in
theorem moveS5 (lo : Nat) (W : World) (p bb gb goff gc : Nat) (ts : List LNode) (xs : List Value) (ev fv uv : Value) (s : PP) (m2 m3 : Int) (n : Nat) (h : FlowS lo W p bb (.slice (some ⟨gb, goff, none⟩) ts.length gc) xs ev fv uv s) (hz : DIn dNode lo W (some ⟨gb, goff, none⟩) ts) (hG : GoodE (ts.map valNode)) (_hI : InvS (ts.map valNode) s) (hB : BndP ts.length n s) (_hn : n ≤ 1000) :
  Calls Tryz.prog 52 #[.pointer (some ⟨p, 0, none⟩), .agg #[.int .i64 5, .int .i64 m2, .int .i64 m3]] W fun e W' => e = .returned (.int .i64 (drainR s).1) ∧ FStepS lo p (.slice (some ⟨gb, goff, none⟩) ts.length gc) (FO p bb xs ev fv uv) W W' (drainR s).2 := by
 have hb0 := below1 W (.cells #[.int .i64 5, .int .i64 m2, .int .i64 m3] 42);have hlo : lo ≤ W.heap.size := h.lo_le;have F0 := h.later hb0;have hp := h.box.size;have hbb := h.hnd.size;have hN := hB.len;have hmany : s.bx.length ≤ 10 := by have := hG.edg.many; rw [List.length_map] at this; omega
 have h1 := hB.tot;have h2 := hB.em;have h3 := hB.fu;have h4 := hB.it1;have h5 := hB.ti0;have h6 := hB.ti1;obtain ⟨V, hV⟩ : ∃ V, V = W.alloc (.cells #[.int .i64 5, .int .i64 m2, .int .i64 m3] 42) := ⟨_, rfl⟩;rw [← hV] at hb0 F0;have HF0 := hid F0;have HB0 := hid hb0;have HV := hid hV;have M0 := Bx.new (w := W) [.int .i64 5, .int .i64 m2, .int .i64 m3] 42 rfl;rw [← hV] at M0;have HM0 := hid M0;have b0 := M0.c 0 rfl;have b1 := M0.c 1 rfl;have b2 := M0.c 2 rfl;have hz0 := hz.below dNode_ok (hb0.mono hlo);have HNN := hid hN;clear hV hb0 M0 F0 hN;have c3 := h.box.c 3 rfl;have f3 := h.box.f 3 rfl
 cases hc : s.cl
 ·have HR : Hid (drainR s = (0, { s with cl := true })) := by rw [Hid, drainR, hc]; rfl
  rw [hc] at c3;go_enter Tryz.func52, Tryz.ntmps52;go_wp2;go_ret;rw [HR.out];exact ⟨rfl, ((h.putCl true).later (below1 _ _)).step⟩
 ·have HR : Hid (drainR s = (3, s)) := by rw [Hid, drainR, hc]; rfl
  rw [hc] at c3;go_enter Tryz.func52, Tryz.ntmps52;go_wp2;go_ret;rw [HR.out];exact ⟨rfl, FStepS.same h (below1 _ _)⟩
set_option maxRecDepth 100000 in
set_option maxHeartbeats 2000000 in
theorem moveS6 (lo : Nat) (W : World) (p bb gb goff gc : Nat) (ts : List LNode) (xs : List Value) (ev fv uv : Value) (s : PP) (m2 m3 : Int) (n : Nat) (h : FlowS lo W p bb (.slice (some ⟨gb, goff, none⟩) ts.length gc) xs ev fv uv s) (hz : DIn dNode lo W (some ⟨gb, goff, none⟩) ts) (hG : GoodE (ts.map valNode)) (_hI : InvS (ts.map valNode) s) (hB : BndP ts.length n s) (hn : n ≤ 1000) :
  Calls Tryz.prog 52 #[.pointer (some ⟨p, 0, none⟩), .agg #[.int .i64 6, .int .i64 m2, .int .i64 m3]] W fun e W' => e = .returned (.int .i64 (abortR s).1) ∧ FStepS lo p (.slice (some ⟨gb, goff, none⟩) ts.length gc) (FO p bb xs ev fv uv) W W' (abortR s).2 := by
 have hb0 := below1 W (.cells #[.int .i64 6, .int .i64 m2, .int .i64 m3] 42);have hlo : lo ≤ W.heap.size := h.lo_le;have F0 := h.later hb0;have hp := h.box.size;have hbb := h.hnd.size;have hN := hB.len;have hmany : s.bx.length ≤ 10 := by have := hG.edg.many; rw [List.length_map] at this; omega
 have h1 := hB.tot;have h2 := hB.em;have h3 := hB.fu;have h4 := hB.it1;have h5 := hB.ti0;have h6 := hB.ti1;obtain ⟨V, hV⟩ : ∃ V, V = W.alloc (.cells #[.int .i64 6, .int .i64 m2, .int .i64 m3] 42) := ⟨_, rfl⟩;rw [← hV] at hb0 F0;have HF0 := hid F0;have HB0 := hid hb0;have HV := hid hV;have M0 := Bx.new (w := W) [.int .i64 6, .int .i64 m2, .int .i64 m3] 42 rfl;rw [← hV] at M0;have HM0 := hid M0;have b0 := M0.c 0 rfl;have b1 := M0.c 1 rfl;have b2 := M0.c 2 rfl;have hz0 := hz.below dNode_ok (hb0.mono hlo);have HNN := hid hN;clear hV hb0 M0 F0 hN;have c3 := h.box.c 3 rfl;have HA := hid (abortS_any lo V p bb _ xs ev fv uv s HF0.out hmany (by omega))
 cases hc : s.cl
 ·have HR : Hid (abortR s = (0, abortP s)) := by rw [Hid, abortR, if_neg (by simp [hc])]
  rw [hc] at c3;go_enter Tryz.func52, Tryz.ntmps52;go_wp2_with fail;rw [← HV.out];refine HA.out.mono ?_;rintro e w2 ⟨⟨v2, rfl⟩, hs⟩;have HS := hid (FStepS.start h HB0.out hs);clear hs;go_wp2;go_ret;rw [HR.out];exact ⟨rfl, HS.out⟩
 ·rw [hc] at c3;have HL := hid (liveM_any lo V p bb _ xs ev fv uv s HF0.out hmany (by omega))
  by_cases h00 : totT s.bx = 0
  ·have HR : Hid (abortR s = (3, s)) := by rw [Hid, abortR, if_pos ⟨hc, h00⟩]
   rw [h00] at HL;clear h00;go_enter Tryz.func52, Tryz.ntmps52;go_wp2_with fail;rw [← HV.out];refine HL.out.mono ?_;rintro e w2 ⟨rfl, hb2⟩;have HB2 := hid (HB0.out.trans (hb2.mono HB0.out.size));clear hb2;go_wp2;go_ret;rw [HR.out];exact ⟨rfl, FStepS.same h HB2.out⟩
  ·have HR : Hid (abortR s = (0, abortP s)) := by rw [Hid, abortR, if_neg (fun hh => h00 hh.2)]
   have hne : ((totT s.bx : Int) == 0) = false := by simpa using h00
   go_enter Tryz.func52, Tryz.ntmps52;go_wp2_with fail;rw [← HV.out];refine HL.out.mono ?_;rintro e w2 ⟨rfl, hb2⟩;have HB2 := hid (HB0.out.trans (hb2.mono HB0.out.size));have HA2 := hid (abortS_any lo w2 p bb _ xs ev fv uv s (h.later HB2.out) hmany (by omega));clear hb2;go_wp2_with fail;refine HA2.out.mono ?_;rintro e w3 ⟨⟨v3, rfl⟩, hs⟩;have HS := hid (FStepS.start h HB2.out hs);clear hs;go_wp2;go_ret;rw [HR.out];exact ⟨rfl, HS.out⟩
set_option maxHeartbeats 1000000 in
theorem moveS0 (m1 m2 m3 : Int) (k1 : m1 ≠ 1) (k2 : m1 ≠ 2) (k3 : m1 ≠ 3) (k4 : m1 ≠ 4) (k5 : m1 ≠ 5) (k6 : m1 ≠ 6) (W : World) (p : Nat) :
  Calls Tryz.prog 52 #[.pointer (some ⟨p, 0, none⟩), .agg #[.int .i64 m1, .int .i64 m2, .int .i64 m3]] W fun e w' => e = .returned (.int .i64 1) ∧ Below W.heap.size W w' := by
 have j1 : (m1 == 1) = false := by simpa using k1
 have j2 : (m1 == 2) = false := by simpa using k2
 have j3 : (m1 == 3) = false := by simpa using k3
 have j4 : (m1 == 4) = false := by simpa using k4
 have j5 : (m1 == 5) = false := by simpa using k5
 have j6 : (m1 == 6) = false := by simpa using k6
 clear k1 k2 k3 k4 k5 k6;have hb0 := below1 W (.cells #[.int .i64 m1, .int .i64 m2, .int .i64 m3] 42);have M0 := Bx.new (w := W) [.int .i64 m1, .int .i64 m2, .int .i64 m3] 42 rfl;have b0 := M0.c 0 rfl;go_enter Tryz.func52, Tryz.ntmps52;go_wp2;go_ret;exact ⟨rfl, hb0⟩
theorem moveS_any (lo : Nat) (W : World) (p bb gb goff gc : Nat) (ts : List LNode) (xs : List Value) (ev fv uv : Value) (s : PP) (m1 m2 m3 : Int) (n : Nat) (h : FlowS lo W p bb (.slice (some ⟨gb, goff, none⟩) ts.length gc) xs ev fv uv s) (hz : DIn dNode lo W (some ⟨gb, goff, none⟩) ts) (hG : GoodE (ts.map valNode)) (hI : InvS (ts.map valNode) s) (hB : BndP ts.length n s) (hn : n ≤ 1000) (hm : m1 ≤ 9223372036854775807) :
  Calls Tryz.prog 52 #[.pointer (some ⟨p, 0, none⟩), .agg #[.int .i64 m1, .int .i64 m2, .int .i64 m3]] W fun e W' => e = .returned (.int .i64 (doR (ts.map valNode) (srcP (ts.map valNode) ts.length) s m1 m2 m3).1) ∧ FStepS lo p (.slice (some ⟨gb, goff, none⟩) ts.length gc) (FO p bb xs ev fv uv) W W' (doR (ts.map valNode) (srcP (ts.map valNode) ts.length) s m1 m2 m3).2 := by
 by_cases k1 : m1 = 1
 ·subst k1;rw [show doR (ts.map valNode) (srcP (ts.map valNode) ts.length) s 1 m2 m3 = offerR (ts.map valNode) (srcP (ts.map valNode) ts.length) s m2 m3 from by simp [doR]];exact moveS1 lo W p bb gb goff gc ts xs ev fv uv s m2 m3 n h hz hG hI hB hn
 by_cases k2 : m1 = 2
 ·subst k2;rw [show doR (ts.map valNode) (srcP (ts.map valNode) ts.length) s 2 m2 m3 = stepR (ts.map valNode) s m2 from by simp [doR]];exact moveS2 lo W p bb gb goff gc ts xs ev fv uv s m2 m3 n h hz hG hI hB hn
 by_cases k3 : m1 = 3
 ·subst k3;rw [show doR (ts.map valNode) (srcP (ts.map valNode) ts.length) s 3 m2 m3 = faultR s m2 from by simp [doR]];exact moveS3 lo W p bb gb goff gc ts xs ev fv uv s m2 m3 n h hz hG hI hB hn
 by_cases k4 : m1 = 4
 ·subst k4;rw [show doR (ts.map valNode) (srcP (ts.map valNode) ts.length) s 4 m2 m3 = tickR s m3 from by simp [doR]];exact moveS4 lo W p bb gb goff gc ts xs ev fv uv s m2 m3 n h hz hG hI hB hn
 by_cases k5 : m1 = 5
 ·subst k5;rw [show doR (ts.map valNode) (srcP (ts.map valNode) ts.length) s 5 m2 m3 = drainR s from by simp [doR]];exact moveS5 lo W p bb gb goff gc ts xs ev fv uv s m2 m3 n h hz hG hI hB hn
 by_cases k6 : m1 = 6
 ·subst k6;rw [show doR (ts.map valNode) (srcP (ts.map valNode) ts.length) s 6 m2 m3 = abortR s from by simp [doR]];exact moveS6 lo W p bb gb goff gc ts xs ev fv uv s m2 m3 n h hz hG hI hB hn
 have hR : doR (ts.map valNode) (srcP (ts.map valNode) ts.length) s m1 m2 m3 = (1, s) := by simp [doR, k1, k2, k3, k4, k5, k6]
 rw [hR];exact (moveS0 m1 m2 m3 k1 k2 k3 k4 k5 k6 W p).mono fun e w' hh => ⟨hh.1, FStepS.same h hh.2⟩
end
section
open Go.RowKit

theorem flowS_new {lo n bb : Nat} {W : World} {xs : List Value} {gv : Value} (hh : HandsT bb W xs (List.replicate n [])) (hx : ∀ j, j < n → ∀ b, (el xs j).ownBlock ≠ some b) (hlo : lo ≤ bb) (T : TypeId) :
  FlowS lo (W.alloc (.cells #[gv, .int .i64 0, .int .i64 0, .bool false, .slice (some ⟨bb, 0, none⟩) n n, .slice none 0 0, .slice none 0 0, .slice none 0 0] T)) W.heap.size bb gv xs (.slice none 0 0) (.slice none 0 0) (.slice none 0 0) (pp0 n) := by
 have hs := hh.size;refine ⟨?_, hh.later (below1 _ _), Kind.Own.nil _ _ _, Kind.Own.nil _ _ _, Kind.Own.nil _ _ _, by omega, hlo, by omega, fun j hj => hx j (by simpa [pp0] using hj) _, by simp [Value.ownBlock], by simp [Value.ownBlock], by simp [Value.ownBlock]⟩;have := Bx.new (w := W) [gv, .int .i64 0, .int .i64 0, .bool false, .slice (some ⟨bb, 0, none⟩) n n, .slice none 0 0, .slice none 0 0, .slice none 0 0] T rfl
 simpa [pp0] using this

set_option maxHeartbeats 4000000 in
theorem l12Good_is (ao : Option Addr) (cap : Nat) (ts : List LNode) (w : World) (hC : Roomy ts cap) (hz : DIn dNode w.heap.size w ao ts) :
  Calls Tryz.prog 51 #[.slice ao ts.length cap] w fun e w' => e = .returned (.bool (pipeB (ts.map valNode))) ∧ Below w.heap.size w w' := by
 have hcon := specCheck_is ao cap ts w hC hz;have HZ := hid hz;clear hz hC
 by_cases h0 : codeG (ts.map valNode) = 0
 ·obtain ⟨hm, hbk, hor⟩ := codeG_zero h0;have HED := hid (edges_of (by omega) (hbk 4 (by omega)));have HOR := hid hor;have HPB : Hid (pipeB (ts.map valNode) = decide (widP (ts.map valNode) ≤ 400)) := by rw [Hid, pipeB, decide_eq_true h0, Bool.true_and]
  rw [h0] at hcon;have HWI : Hid (∀ W', Below w.heap.size w W' → Calls Tryz.prog 36 #[.slice ao ts.length cap] W' fun e w' => e = .returned (.int .i64 (widP (ts.map valNode))) ∧ Below W'.heap.size W' w') := fun W' hW => l11Widest_is ao cap ts W' HED.out HOR.out (HZ.out.later dNode_ok hW)
  clear h0 hm hbk hor
  generalize widP (ts.map valNode) = wd at HPB HWI
  go_enter Tryz.func51, Tryz.ntmps51;go_wp2_with fail;refine hcon.mono ?_;rintro e w1 ⟨rfl, hb1⟩;have HB1 := hid hb1;clear hb1 hcon;go_wp2_with fail;refine (HWI.out w1 HB1.out).mono ?_;rintro e w2 ⟨rfl, hb2⟩;have HB2 := hid (HB1.out.trans (hb2.mono HB1.out.size));clear hb2;go_wp2;go_ret;rw [HPB.out];exact ⟨rfl, HB2.out⟩
 ·have HPB : Hid (pipeB (ts.map valNode) = false) := by rw [Hid, pipeB, decide_eq_false h0]; rfl
  have hne : (((codeG (ts.map valNode) : Nat) : Int) == 0) = false := by simpa using h0
  clear h0;go_enter Tryz.func51, Tryz.ntmps51;go_wp2_with fail;refine hcon.mono ?_
  generalize codeG (ts.map valNode) = cg at hne ⊢
  rintro e w1 ⟨rfl, hb1⟩;have hB1 : Below w.heap.size w w1 := hb1;clear hb1;go_wp2;go_ret;rw [HPB.out];exact ⟨rfl, hB1⟩
/-- A pipe of the specification that was played on, and the codes. -/
def AnsPlS (ao : Option Addr) (cap : Nat) (ts : List LNode) (ms : List (Int × Int × Int)) (w : World) (e : Ending) (w' : World) : Prop :=
  (if pipeB (ts.map valNode) = true ∧ ms.length ≤ 300 then ∃ lo p bb xs ev fv uv v, e = .returned (.tuple #[.pointer (some ⟨p, 0, none⟩), v, .bool true]) ∧ w.heap.size ≤ lo ∧
      FlowS lo w' p bb (.slice ao ts.length cap) xs ev fv uv (playP (ts.map valNode) (srcP (ts.map valNode) ts.length) ms (pp0 ts.length)).2 ∧ kI.Own lo w' v (playP (ts.map valNode) (srcP (ts.map valNode) ts.length) ms (pp0 ts.length)).1 ∧ ∀ b, v.ownBlock = some b → ¬ FO p bb xs ev fv uv b
   else ∃ q, e = .returned (.tuple #[.pointer (some ⟨q, 0, none⟩), .slice none 0 0, .bool false])) ∧ Below w.heap.size w w'
set_option maxRecDepth 10000 in
set_option maxHeartbeats 8000000 in
theorem l12Play_any (ao : Option Addr) (cap : Nat) (ts : List LNode) (mo : Option Addr) (mc : Nat) (ms : List (Int × Int × Int)) (w : World) (hC : Roomy ts cap) (hz : DIn dNode w.heap.size w ao ts) (hM : kMv.In w.heap.size w mo ms) (h64 : ∀ k, k < ms.length → (el ms k).1 ≤ 9223372036854775807) :
    Calls Tryz.prog 24 #[.slice ao ts.length cap, .slice mo ms.length mc] w (AnsPlS ao cap ts ms w) := by
  have HF := hid (l12Good_is ao cap ts w hC hz)
  have HZ := hid hz
  have HM := hid hM
  have H64 := hid h64
  clear hC hM h64
  by_cases hok : pipeB (ts.map valNode) = true
  · rw [hok] at HF
    by_cases hl : ms.length ≤ 300
    · have hd : decide ((300 : Int) < (ms.length : Int)) = false := by simp; omega
      have h0 : codeG (ts.map valNode) = 0 := by simp [pipeB] at hok; exact hok.1
      have HGE := hid (goodE_of h0)
      obtain ⟨hm, hbk, hor⟩ := codeG_zero h0
      have h1 : 0 < ts.length := by rw [val_len] at hm; omega
      have h10 : ts.length ≤ 10 := by rw [val_len] at hm; omega
      obtain ⟨gb, goff, rfl, hgb, _⟩ := hNode_at hz.1 h1
      obtain ⟨i0, hi, hz0, hz1, hz2⟩ := info_parts Tryz.infoTok
      clear hz h0 hm hbk hor
      go_enter Tryz.func24, Tryz.ntmps24
      go_wp2_with fail
      refine HF.out.mono ?_
      rintro e w1 ⟨rfl, hb1⟩
      have HB1 := hid hb1
      clear hb1 HF
      go_wp2_with (at_make; refine wpList_make_full _ rfl _ _ 27 rfl w1.heap.size 51 i0 (.slice none 0 0) 1 Tryz.underlying27 hi hz0 hz1 .i64 .i64 _ _ ts.length rfl rfl rfl rfl (by rw [hz2]; omega) (by unfold maxLen; omega) (Nat.le_refl _) ?_; intro wA hown hgrow; have HBA := hid ((Below.refl w1.heap.size w1).grown hgrow (Nat.le_refl _) (fun k e => by cases e)); obtain ⟨xsA, hhA, hxA⟩ := hands_madeT hown; have HA := hid hhA; have HX := hid hxA; clear hown hgrow hhA hxA)
      have HN0 := hid (flowS_new (gv := .slice (some ⟨gb, goff, none⟩) ts.length cap) HA.out HX.out (Nat.le_refl w1.heap.size) 79)
      have HBT := hid (fun o => HBA.out.trans ((below1 wA o).mono HBA.out.size))
      obtain ⟨SRC, hSRC⟩ : ∃ q, q = srcP (ts.map valNode) ts.length := ⟨_, rfl⟩
      have HSR := hid hSRC
      obtain ⟨lo, hlo⟩ : ∃ lo, lo = w1.heap.size := ⟨_, rfl⟩
      obtain ⟨p, hp⟩ : ∃ p, p = wA.heap.size := ⟨_, rfl⟩
      have hlo1 : w.heap.size ≤ lo := by rw [hlo]; exact HB1.out.size
      rw [← hlo] at HN0 HBT ⊢
      rw [← hp] at HN0 ⊢
      clear hSRC hlo hp
      go_loopw [8, 30] (fun u i wr => ∃ (m : Nat) (v : Value), v = u ∧ i = .int .i64 (m : Int) ∧ m ≤ ms.length ∧ ∃ bb xs ev fv uv, Hid (FlowS lo wr p bb (.slice (some ⟨gb, goff, none⟩) ts.length cap) xs ev fv uv (playP (ts.map valNode) SRC (ms.take m) (pp0 ts.length)).2) ∧ Hid (kI.Own lo wr v (playP (ts.map valNode) SRC (ms.take m) (pp0 ts.length)).1) ∧ Hid (∀ b, v.ownBlock = some b → ¬ FO p bb xs ev fv uv b) ∧ Hid (Below lo w1 wr)) (fun _ i _ => ms.length - (intOf i).toNat)
      case atStart => exact ⟨0, _, rfl, rfl, Nat.zero_le _, _, _, _, _, _, HN0, Kind.Own.nil _ _ _, (fun b hb => by simp [Value.ownBlock] at hb), HBT.out _⟩
      case round =>
        obtain ⟨m, v, rfl, rfl, hm, bb, xs, ev, fv, uv, hF, hO, hA, hB⟩ := hrel
        by_cases hlt : m < ms.length
        · obtain ⟨b, off, rfl, hb, hc⟩ := kMv_at HM.out hlt
          obtain ⟨d0, d1, d2⟩ := hc m hlt
          have HW := hid (HB1.out.trans (hB.out.mono hlo1))
          have e0 := (HW.out.cell (p := ⟨b, off + m * 3, none⟩) hb).trans d0
          have e1 := (HW.out.cell (p := ⟨b, off + m * 3 + 1, none⟩) hb).trans d1
          have e2 := (HW.out.cell (p := ⟨b, off + m * 3 + 2, none⟩) hb).trans d2
          have h6 := H64.out m hlt
          have HT := hid (take_succ_el hlt)
          have HBN := hid (playP_bnd SRC HGE.out.edg ms (by rw [val_len]; exact pp0_bnd ts.length) m hm)
          have HIV := hid (playP_inv SRC HGE.out ms (s := pp0 ts.length) (by have q := pp0_inv HGE.out; rw [val_len] at q; exact q) (by rw [val_len]; exact pp0_bnd ts.length) m hm)
          clear d0 d1 d2 hc
          go_wp2_with fail
          have hb6 := below1 wr (.cells #[.int .i64 (el ms m).1, .int .i64 (el ms m).2.1, .int .i64 (el ms m).2.2] 42)
          have hlr : lo ≤ wr.heap.size := hF.out.lo_le
          have HBV := hid (HW.out.trans (hb6.mono HW.out.size))
          have HBN2 := HBN.out
          rw [val_len] at HBN2
          have hmv := moveS_any lo _ p bb gb goff cap ts xs ev fv uv _ (el ms m).1 (el ms m).2.1 (el ms m).2.2 m (hF.out.later hb6) ((HZ.out.below dNode_ok HBV.out).up dNode_ok hlo1) HGE.out HIV.out HBN2 (by omega) h6
          rw [← HSR.out] at hmv
          refine hmv.mono ?_
          rintro e w4 ⟨rfl, hs4⟩
          obtain ⟨bb4, xs4, ev4, fv4, uv4, F4, O4, A4, B4⟩ := hs4.codes (hO.out.below hb6) hA.out
          obtain ⟨cd, hcd⟩ : ∃ cd, cd = (doR (ts.map valNode) SRC (playP (ts.map valNode) SRC (ms.take m) (pp0 ts.length)).2 (el ms m).1 (el ms m).2.1 (el ms m).2.2).1 := ⟨_, rfl⟩
          have hps := playP_snoc (ts.map valNode) SRC (ms.take m) (el ms m) (pp0 ts.length)
          rw [← hcd] at hps
          have hol := playP_len (ts.map valNode) SRC ms (pp0 ts.length) m hm
          rw [← hcd]
          obtain ⟨X, hX⟩ : ∃ X, X = w4.alloc (.cells #[.int .i64 cd] 3) := ⟨_, rfl⟩
          have hbX : Below w4.heap.size w4 X := by rw [hX]; exact below1 _ _
          have hNX : kI.In X.heap.size X (some ⟨w4.heap.size, 0, none⟩) [cd] := by
            have hx : Bx X w4.heap.size [.int .i64 cd] := by rw [hX]; exact Bx.new (w := w4) [.int .i64 cd] 3 rfl
            exact ints_mk hx.size fun j hj => by obtain rfl : j = 0 := by simp at hj; omega
                                                 exact hx.c 0 rfl
          have HX := hid hX
          have HFX := hid (F4.later hbX)
          have HOX := hid (O4.below hbX)
          have HN := hid hNX
          have HAX := hid A4
          have HBB : Hid (Below lo w1 X) := hB.out.trans (((hb6.mono hlr).trans B4).trans (hbX.mono F4.lo_le))
          have hlX : lo ≤ X.heap.size := HFX.out.lo_le
          have HPS := hid hps
          clear hX hbX hNX F4 O4 A4 B4 hcd hps HBN2 hb6 HBV e0 e1 e2 hF hO hA hmv
          go_wp2_with (at_builtin; rw [← HX.out]; refine Kind.appN kI_ok X rfl (.tmp 34) (.tmp 38) rfl lo v (playP (ts.map valNode) SRC (ms.take m) (pp0 ts.length)).1 rfl HOX.out hlX (some ⟨w4.heap.size, 0, none⟩) [cd] 1 1 rfl rfl (by simp) _ HN.out (by simp; omega) ?_; intro v' w5 hO5 hB5 hG5 hw5; have HC5 := hid (HFX.out.code HAX.out hG5 hw5); have HO5 := hid hO5; have HB5 := hid (HBB.out.trans hB5); clear hO5 hB5 hG5 hw5)
          go_roundw
          case rel => exact ⟨m + 1, v', rfl, by go_num, by omega, bb4, xs4, ev4, fv4, uv4, by rw [HT.out, HPS.out]; exact HC5.out.1, by rw [HT.out, HPS.out]; exact HO5, HC5.out.2, HB5⟩
          case measure => simp [intOf]; omega
        · obtain rfl : m = ms.length := by omega
          rw [List.take_length] at hF hO
          go_wp2
          refine bodyPost_ret (v := .tuple #[.pointer (some ⟨p, 0, none⟩), v, .bool true]) (by simp [results, Tryz.results24, go_sem]) rfl ?_
          refine ⟨?_, HB1.out.trans (hB.out.mono hlo1)⟩
          rw [if_pos ⟨hok, hl⟩, ← HSR.out]
          exact ⟨lo, p, bb, xs, ev, fv, uv, v, rfl, hlo1, hF.out, hO.out, hA.out⟩
    · have hd : decide ((300 : Int) < (ms.length : Int)) = true := by simp; omega
      go_enter Tryz.func24, Tryz.ntmps24
      go_wp2_with fail
      refine HF.out.mono ?_
      rintro e w1 ⟨rfl, hb1⟩
      go_wp2
      refine bodyPost_ret (v := .tuple #[.pointer (some ⟨w1.heap.size, 0, none⟩), .slice none 0 0, .bool false]) (by simp [results, Tryz.results24, go_sem]) rfl ?_
      exact ⟨by rw [if_neg (fun h => hl h.2)]; exact ⟨_, rfl⟩, hb1.trans ((below1 w1 _).mono hb1.size)⟩
  · obtain hok2 : pipeB (ts.map valNode) = false := by simpa using hok
    rw [hok2] at HF
    go_enter Tryz.func24, Tryz.ntmps24
    go_wp2_with fail
    refine HF.out.mono ?_
    rintro e w1 ⟨rfl, hb1⟩
    go_wp2
    refine bodyPost_ret (v := .tuple #[.pointer (some ⟨w1.heap.size, 0, none⟩), .slice none 0 0, .bool false]) (by simp [results, Tryz.results24, go_sem]) rfl ?_
    exact ⟨by rw [if_neg (fun h => hok h.1)]; exact ⟨_, rfl⟩, hb1.trans ((below1 w1 _).mono hb1.size)⟩
end
section
open Go.RowKit

/-- The moves whose offers were taken, among the first so many. -/
def offP (ms : List (Int × Int × Int)) (cs : List Int) : Nat → List (Int × Int × Int)
 | 0 => []
 | m + 1 => if (el ms m).1 = 1 ∧ el cs m = 0 then offP ms cs m ++ [el ms m] else offP ms cs m
theorem offP_len (ms : List (Int × Int × Int)) (cs : List Int) : ∀ m, (offP ms cs m).length ≤ m
 | 0 => Nat.le_refl _
 | m + 1 => by
  have h := offP_len ms cs m;rw [offP]; split
  ·rw [List.length_append, List.length_singleton]; omega
  ·omega
/-- The offers that were taken. -/
def offR (gs : List PNode) (ms : List (Int × Int × Int)) : List (Int × Int × Int) × Bool := if pipeB gs = true ∧ ms.length ≤ 300 then (offP ms (playP gs (srcP gs gs.length) ms (pp0 gs.length)).1 ms.length, true) else ([], false)
theorem offR_len (gs : List PNode) (ms : List (Int × Int × Int)) : (offR gs ms).1.length ≤ ms.length := by
 unfold offR; split
 ·exact offP_len _ _ _
 ·exact Nat.zero_le _
def AnsMB (w : World) (q : List (Int × Int × Int)) (y : Bool) (e : Ending) (w' : World) : Prop := (∃ go qc, e = .returned (.tuple #[.slice go q.length qc, .bool y]) ∧ kMv.Fresh w.heap.size w'.heap.size w' go qc q) ∧ Below w.heap.size w w'
set_option maxRecDepth 100000 in
set_option maxHeartbeats 4000000 in
theorem implOff_any (ao : Option Addr) (cap : Nat) (ts : List LNode) (ea : Nat → Addr) (mo : Option Addr) (mc : Nat) (ms : List (Int × Int × Int)) (w : World) (hC : Roomy ts cap) (hE : Errs w ea) (hz : DIn dNode w.heap.size w ao ts) (hM : kMv.In w.heap.size w mo ms) (h64 : ∀ k, k < ms.length → (el ms k).1 ≤ 9223372036854775807) :
  Calls Tryz.prog 9 #[.slice ao ts.length cap, .slice mo ms.length mc] w (AnsMB w (offR (ts.map valNode) ms).1 (offR (ts.map valNode) ms).2) := by
 have HP := hid (played_any ao cap ts ea mo mc ms w hC hE hz hM h64);have HM := hid hM;clear hC hE hz hM h64
 by_cases hok : pipeB (ts.map valNode) = true ∧ ms.length ≤ 300
 ·have HR : Hid (offR (ts.map valNode) ms = (offP ms (playP (ts.map valNode) (srcP (ts.map valNode) ts.length) ms (pp0 ts.length)).1 ms.length, true)) := by rw [Hid, offR, if_pos hok, val_len]
  have hml := hok.2;have hcl := playP_len (ts.map valNode) (srcP (ts.map valNode) ts.length) ms (pp0 ts.length) ms.length (Nat.le_refl _);rw [List.take_length] at hcl;obtain ⟨cs, hcs⟩ : ∃ cs, cs = (playP (ts.map valNode) (srcP (ts.map valNode) ts.length) ms (pp0 ts.length)).1 := ⟨_, rfl⟩;rw [← hcs] at HR hcl;have HCL := hid hcl;clear hcl;go_enter Tryz.func9, Tryz.ntmps9;go_wp2_with fail;refine HP.out.mono ?_;rintro e w1 ⟨hq, hb1⟩;rw [if_pos hok] at hq;obtain ⟨lo, p, bb, so, sc, xs, ev, fv, uv, v, rfl, hlo, hI, F, hO, hA⟩ := hq;rw [← hcs] at hO;have HB1 := hid hb1;obtain ⟨co, cc, rfl, _, hCI⟩ := hO.in;have HCI := hid hCI;clear hb1 hI F hO hA HP hok hcs hCI hlo;have hcl1 : ms.length ≤ cs.length := by rw [HCL.out]; exact Nat.le_refl _
  have hcl2 : cs.length ≤ ms.length := by rw [HCL.out]; exact Nat.le_refl _
  go_wp2
  go_loopw [9, 23] (fun u i wr => ∃ (m : Nat) (v : Value), v = u ∧ i = .int .i64 (m : Int) ∧ m ≤ ms.length ∧ Hid (kMv.Own w1.heap.size wr v (offP ms cs m)) ∧ Hid (Below w1.heap.size w1 wr)) (fun _ i _ => ms.length - (intOf i).toNat)
  case atStart => exact ⟨0, _, rfl, rfl, Nat.zero_le _, Kind.Own.nil _ _ _, Below.refl _ _⟩
  case round =>
   obtain ⟨m, v, rfl, rfl, hm, hO, hB⟩ := hrel
   by_cases hlt : m < ms.length
   ·have hmi : (m : Int) < (ms.length : Int) := by omega
    have hmc : (m : Int) < (cs.length : Int) := by omega
    obtain ⟨b, off, rfl, hb, hc⟩ := kMv_at HM.out hlt;obtain ⟨d0, d1, d2⟩ := hc m hlt;have HW := hid (HB1.out.trans (hB.out.mono HB1.out.size));have e0 := (HW.out.cell (p := ⟨b, off + m * 3, none⟩) hb).trans d0;have e1 := (HW.out.cell (p := ⟨b, off + m * 3 + 1, none⟩) hb).trans d1;have e2 := (HW.out.cell (p := ⟨b, off + m * 3 + 2, none⟩) hb).trans d2;obtain ⟨cb, coff, rfl, hcb, hcc⟩ := ints_at HCI.out (k := m) (by omega);have ec := (hB.out.cell (p := ⟨cb, coff + m, none⟩) hcb).trans (hcc m (by omega));have hwz := hB.out.size;have hol := offP_len ms cs m;have hbw : b < wr.heap.size := Nat.lt_of_lt_of_le hb HW.out.size;have hcbw : cb < wr.heap.size := Nat.lt_of_lt_of_le hcb hwz;obtain ⟨⟨m1, m2, m3⟩, em⟩ : ∃ t, t = el ms m := ⟨_, rfl⟩;obtain ⟨cd, hcd⟩ : ∃ cd, cd = el cs m := ⟨_, rfl⟩;rw [← em] at e0 e1 e2;rw [← hcd] at ec;dsimp only at e0 e1 e2;have HS : Hid (offP ms cs (m + 1) = if m1 = 1 ∧ cd = 0 then offP ms cs m ++ [(m1, m2, m3)] else offP ms cs m) := by rw [Hid, offP, ← em, ← hcd]
    clear d0 d1 d2 hc hcc em hcd
    by_cases h1 : m1 = 1
    ·by_cases h2 : cd = 0
     ·rw [if_pos ⟨h1, h2⟩] at HS;have hd1 : (m1 == 1) = true := by simpa using h1
      have hd2 : (cd == 0) = true := by simpa using h2
      obtain ⟨X, hX⟩ : ∃ X, X = (wr.alloc (.cells #[.int .i64 m1, .int .i64 m2, .int .i64 m3] 42)).alloc (.cells #[.int .i64 m1, .int .i64 m2, .int .i64 m3] 42) := ⟨_, rfl⟩;have hbX : Below wr.heap.size wr X := by rw [hX]; exact below2 _ _ _
      have hNX : kMv.In X.heap.size X (some ⟨wr.heap.size + 1, 0, none⟩) [(m1, m2, m3)] := by
       have hx : Bx X (wr.heap.size + 1) [.int .i64 m1, .int .i64 m2, .int .i64 m3] := by
        have := Bx.new (w := wr.alloc (.cells #[.int .i64 m1, .int .i64 m2, .int .i64 m3] 42)) [.int .i64 m1, .int .i64 m2, .int .i64 m3] 42 rfl;rw [show (wr.alloc (.cells #[.int .i64 m1, .int .i64 m2, .int .i64 m3] 42)).heap.size = wr.heap.size + 1 by simp] at this;rw [hX]; exact this
       exact kMv_one hx.size (hx.c 0 rfl) (hx.c 1 rfl) (hx.c 2 rfl)
      have HX := hid hX;have HOX := hid (hO.out.below hbX);have HN := hid hNX;have HBX := hid (hB.out.trans (hbX.mono hwz));have hlX : w1.heap.size ≤ X.heap.size := HBX.out.size;clear hX hbX hNX hO hB h1 h2;go_wp2_with (at_builtin; rw [← HX.out]; refine Kind.appN kMv_ok X rfl (.tmp 38) (.tmp 40) rfl w1.heap.size v (offP ms cs m) rfl HOX.out hlX (some ⟨wr.heap.size + 1, 0, none⟩) [(m1, m2, m3)] 1 1 rfl rfl (by simp) _ HN.out (by rw [List.length_singleton]; omega) ?_; intro v' w5 hO5 hB5 hG5 hw5; have HO5 := hid hO5; have HB5 := hid (HBX.out.trans (hB5.mono (Nat.le_refl _))); clear hO5 hB5 hG5 hw5);go_roundw
      case rel => exact ⟨m + 1, v', rfl, by go_num, by omega, by rw [HS.out]; exact HO5.out, HB5⟩
      case measure => simp [intOf]; omega
     ·rw [if_neg (fun h => h2 h.2)] at HS;have hd1 : (m1 == 1) = true := by simpa using h1
      have hd2 : (cd == 0) = false := by simpa using h2
      clear h1 h2;go_wp2;go_roundw
      case rel => exact ⟨m + 1, _, rfl, by go_num, by omega, by rw [HS.out]; exact hO.out.below (below1 _ _), hB.out.trans ((below1 _ _).mono hwz)⟩
      case measure => simp [intOf]; omega
    ·rw [if_neg (fun h => h1 h.1)] at HS;have hd1 : (m1 == 1) = false := by simpa using h1
     clear h1;go_wp2;go_roundw
     case rel => exact ⟨m + 1, _, rfl, by go_num, by omega, by rw [HS.out]; exact hO.out.below (below1 _ _), hB.out.trans ((below1 _ _).mono hwz)⟩
     case measure => simp [intOf]; omega
   ·obtain rfl : m = ms.length := by omega
    obtain ⟨ro, rc, rfl, _, hF⟩ := hO.out.fresh;have HF := hid (hF.wide (lo' := w.heap.size) (hi' := wr.heap.size) HB1.out.size (Nat.le_refl _));have HBB := hid (HB1.out.trans (hB.out.mono HB1.out.size));clear hF hO hB;go_wp2;refine bodyPost_ret (v := .tuple #[.slice ro (offP ms cs ms.length).length rc, .bool true]) (by simp [results, Tryz.results9, go_sem]) rfl ?_;rw [HR.out];exact ⟨⟨_, _, rfl, HF.out⟩, HBB.out⟩
 ·have HR : Hid (offR (ts.map valNode) ms = ([], false)) := by rw [Hid, offR, if_neg hok]
  go_enter Tryz.func9, Tryz.ntmps9;go_wp2_with fail;refine HP.out.mono ?_;rintro e w1 ⟨hq, hb1⟩;rw [if_neg hok] at hq;obtain rfl := hq;go_wp2;refine bodyPost_ret (v := .tuple #[.slice none 0 0, .bool false]) (by simp [results, Tryz.results9, go_sem]) rfl ?_;rw [HR.out];exact ⟨⟨_, _, rfl, .inl rfl⟩, hb1⟩
set_option maxRecDepth 100000 in
set_option maxHeartbeats 4000000 in
theorem specOff_any (ao : Option Addr) (cap : Nat) (ts : List LNode) (mo : Option Addr) (mc : Nat) (ms : List (Int × Int × Int)) (w : World) (hC : Roomy ts cap) (hz : DIn dNode w.heap.size w ao ts) (hM : kMv.In w.heap.size w mo ms) (h64 : ∀ k, k < ms.length → (el ms k).1 ≤ 9223372036854775807) :
  Calls Tryz.prog 18 #[.slice ao ts.length cap, .slice mo ms.length mc] w (AnsMB w (offR (ts.map valNode) ms).1 (offR (ts.map valNode) ms).2) := by
 have HP := hid (l12Play_any ao cap ts mo mc ms w hC hz hM h64);have HM := hid hM;clear hC hz hM h64
 by_cases hok : pipeB (ts.map valNode) = true ∧ ms.length ≤ 300
 ·have HR : Hid (offR (ts.map valNode) ms = (offP ms (playP (ts.map valNode) (srcP (ts.map valNode) ts.length) ms (pp0 ts.length)).1 ms.length, true)) := by rw [Hid, offR, if_pos hok, val_len]
  have hml := hok.2;have hcl := playP_len (ts.map valNode) (srcP (ts.map valNode) ts.length) ms (pp0 ts.length) ms.length (Nat.le_refl _);rw [List.take_length] at hcl;obtain ⟨cs, hcs⟩ : ∃ cs, cs = (playP (ts.map valNode) (srcP (ts.map valNode) ts.length) ms (pp0 ts.length)).1 := ⟨_, rfl⟩;rw [← hcs] at HR hcl;have HCL := hid hcl;clear hcl;go_enter Tryz.func18, Tryz.ntmps18;go_wp2_with fail;refine HP.out.mono ?_;rintro e w1 ⟨hq, hb1⟩;rw [if_pos hok] at hq;obtain ⟨lo, p, bb, xs, ev, fv, uv, v, rfl, hlo, F, hO, hA⟩ := hq;rw [← hcs] at hO;have HB1 := hid hb1;obtain ⟨co, cc, rfl, _, hCI⟩ := hO.in;have HCI := hid hCI;clear hb1 F hO hA HP hok hcs hCI hlo;have hcl1 : ms.length ≤ cs.length := by rw [HCL.out]; exact Nat.le_refl _
  have hcl2 : cs.length ≤ ms.length := by rw [HCL.out]; exact Nat.le_refl _
  go_wp2
  go_loopw [9, 23] (fun u i wr => ∃ (m : Nat) (v : Value), v = u ∧ i = .int .i64 (m : Int) ∧ m ≤ ms.length ∧ Hid (kMv.Own w1.heap.size wr v (offP ms cs m)) ∧ Hid (Below w1.heap.size w1 wr)) (fun _ i _ => ms.length - (intOf i).toNat)
  case atStart => exact ⟨0, _, rfl, rfl, Nat.zero_le _, Kind.Own.nil _ _ _, Below.refl _ _⟩
  case round =>
   obtain ⟨m, v, rfl, rfl, hm, hO, hB⟩ := hrel
   by_cases hlt : m < ms.length
   ·have hmi : (m : Int) < (ms.length : Int) := by omega
    have hmc : (m : Int) < (cs.length : Int) := by omega
    obtain ⟨b, off, rfl, hb, hc⟩ := kMv_at HM.out hlt;obtain ⟨d0, d1, d2⟩ := hc m hlt;have HW := hid (HB1.out.trans (hB.out.mono HB1.out.size));have e0 := (HW.out.cell (p := ⟨b, off + m * 3, none⟩) hb).trans d0;have e1 := (HW.out.cell (p := ⟨b, off + m * 3 + 1, none⟩) hb).trans d1;have e2 := (HW.out.cell (p := ⟨b, off + m * 3 + 2, none⟩) hb).trans d2;obtain ⟨cb, coff, rfl, hcb, hcc⟩ := ints_at HCI.out (k := m) (by omega);have ec := (hB.out.cell (p := ⟨cb, coff + m, none⟩) hcb).trans (hcc m (by omega));have hwz := hB.out.size;have hol := offP_len ms cs m;have hbw : b < wr.heap.size := Nat.lt_of_lt_of_le hb HW.out.size;have hcbw : cb < wr.heap.size := Nat.lt_of_lt_of_le hcb hwz;obtain ⟨⟨m1, m2, m3⟩, em⟩ : ∃ t, t = el ms m := ⟨_, rfl⟩;obtain ⟨cd, hcd⟩ : ∃ cd, cd = el cs m := ⟨_, rfl⟩;rw [← em] at e0 e1 e2;rw [← hcd] at ec;dsimp only at e0 e1 e2;have HS : Hid (offP ms cs (m + 1) = if m1 = 1 ∧ cd = 0 then offP ms cs m ++ [(m1, m2, m3)] else offP ms cs m) := by rw [Hid, offP, ← em, ← hcd]
    clear d0 d1 d2 hc hcc em hcd
    by_cases h1 : m1 = 1
    ·by_cases h2 : cd = 0
     ·rw [if_pos ⟨h1, h2⟩] at HS;have hd1 : (m1 == 1) = true := by simpa using h1
      have hd2 : (cd == 0) = true := by simpa using h2
      obtain ⟨X, hX⟩ : ∃ X, X = (wr.alloc (.cells #[.int .i64 m1, .int .i64 m2, .int .i64 m3] 42)).alloc (.cells #[.int .i64 m1, .int .i64 m2, .int .i64 m3] 42) := ⟨_, rfl⟩;have hbX : Below wr.heap.size wr X := by rw [hX]; exact below2 _ _ _
      have hNX : kMv.In X.heap.size X (some ⟨wr.heap.size + 1, 0, none⟩) [(m1, m2, m3)] := by
       have hx : Bx X (wr.heap.size + 1) [.int .i64 m1, .int .i64 m2, .int .i64 m3] := by
        have := Bx.new (w := wr.alloc (.cells #[.int .i64 m1, .int .i64 m2, .int .i64 m3] 42)) [.int .i64 m1, .int .i64 m2, .int .i64 m3] 42 rfl;rw [show (wr.alloc (.cells #[.int .i64 m1, .int .i64 m2, .int .i64 m3] 42)).heap.size = wr.heap.size + 1 by simp] at this;rw [hX]; exact this
       exact kMv_one hx.size (hx.c 0 rfl) (hx.c 1 rfl) (hx.c 2 rfl)
      have HX := hid hX;have HOX := hid (hO.out.below hbX);have HN := hid hNX;have HBX := hid (hB.out.trans (hbX.mono hwz));have hlX : w1.heap.size ≤ X.heap.size := HBX.out.size;clear hX hbX hNX hO hB h1 h2;go_wp2_with (at_builtin; rw [← HX.out]; refine Kind.appN kMv_ok X rfl (.tmp 38) (.tmp 40) rfl w1.heap.size v (offP ms cs m) rfl HOX.out hlX (some ⟨wr.heap.size + 1, 0, none⟩) [(m1, m2, m3)] 1 1 rfl rfl (by simp) _ HN.out (by rw [List.length_singleton]; omega) ?_; intro v' w5 hO5 hB5 hG5 hw5; have HO5 := hid hO5; have HB5 := hid (HBX.out.trans (hB5.mono (Nat.le_refl _))); clear hO5 hB5 hG5 hw5);go_roundw
      case rel => exact ⟨m + 1, v', rfl, by go_num, by omega, by rw [HS.out]; exact HO5.out, HB5⟩
      case measure => simp [intOf]; omega
     ·rw [if_neg (fun h => h2 h.2)] at HS;have hd1 : (m1 == 1) = true := by simpa using h1
      have hd2 : (cd == 0) = false := by simpa using h2
      clear h1 h2;go_wp2;go_roundw
      case rel => exact ⟨m + 1, _, rfl, by go_num, by omega, by rw [HS.out]; exact hO.out.below (below1 _ _), hB.out.trans ((below1 _ _).mono hwz)⟩
      case measure => simp [intOf]; omega
    ·rw [if_neg (fun h => h1 h.1)] at HS;have hd1 : (m1 == 1) = false := by simpa using h1
     clear h1;go_wp2;go_roundw
     case rel => exact ⟨m + 1, _, rfl, by go_num, by omega, by rw [HS.out]; exact hO.out.below (below1 _ _), hB.out.trans ((below1 _ _).mono hwz)⟩
     case measure => simp [intOf]; omega
   ·obtain rfl : m = ms.length := by omega
    obtain ⟨ro, rc, rfl, _, hF⟩ := hO.out.fresh;have HF := hid (hF.wide (lo' := w.heap.size) (hi' := wr.heap.size) HB1.out.size (Nat.le_refl _));have HBB := hid (HB1.out.trans (hB.out.mono HB1.out.size));clear hF hO hB;go_wp2;refine bodyPost_ret (v := .tuple #[.slice ro (offP ms cs ms.length).length rc, .bool true]) (by simp [results, Tryz.results18, go_sem]) rfl ?_;rw [HR.out];exact ⟨⟨_, _, rfl, HF.out⟩, HBB.out⟩
 ·have HR : Hid (offR (ts.map valNode) ms = ([], false)) := by rw [Hid, offR, if_neg hok]
  go_enter Tryz.func18, Tryz.ntmps18;go_wp2_with fail;refine HP.out.mono ?_;rintro e w1 ⟨hq, hb1⟩;rw [if_neg hok] at hq;obtain ⟨q, rfl⟩ := hq;go_wp2;refine bodyPost_ret (v := .tuple #[.slice none 0 0, .bool false]) (by simp [results, Tryz.results18, go_sem]) rfl ?_;rw [HR.out];exact ⟨⟨_, _, rfl, .inl rfl⟩, hb1⟩
end
section
open Go.RowKit

/-- The first of a row of nodes whose step succeeds. -/
def lastS (gs : List PNode) : List Int → PP → Bool × PP
 | [], s => (false, s)
 | x :: r, s => if (stepR gs s x).1 = 0 then (true, (stepR gs s x).2) else lastS gs r s
theorem lastS_yes {gs : List PNode} {s : PP} : ∀ {l : List Int}, (lastS gs l s).1 = true → ∃ x ∈ l, (stepR gs s x).1 = 0 ∧ (lastS gs l s).2 = (stepR gs s x).2
 | [], h => by cases h
 | x :: r, h => by
  rw [lastS] at h ⊢
  split
  ·rename_i h0; exact ⟨x, by simp, h0, rfl⟩
  ·rename_i h0;rw [if_neg h0] at h;obtain ⟨y, hy, h1, h2⟩ := lastS_yes h;exact ⟨y, List.mem_cons_of_mem _ hy, h1, h2⟩
theorem lastS_no {gs : List PNode} {s : PP} : ∀ {l : List Int}, (lastS gs l s).1 ≠ true → (lastS gs l s).2 = s
 | [], _ => rfl
 | x :: r, h => by
  rw [lastS] at h ⊢
  split
  ·rename_i h0; rw [if_pos h0] at h; exact absurd rfl h
  ·rename_i h0;rw [if_neg h0] at h;exact lastS_no h
theorem step_no {gs : List PNode} {s : PP} {m : Int} (h : (stepR gs s m).1 ≠ 0) : (stepR gs s m).2 = s := by
 unfold stepR at h ⊢
 split at h
 ·rename_i hin;rw [if_pos hin]
  split at h
  ·rfl
  ·rename_i t r e
   split at h
   ·exact absurd rfl h
   ·rename_i h1; rw [if_neg h1]
    split at h
    ·rename_i h2; rw [if_pos h2]
    ·exact absurd rfl h
 ·rename_i hin; rw [if_neg hin]
theorem step_yes {gs : List PNode} {s : PP} {m : Int} (h : (stepR gs s m).1 = 0) : ∃ (k : Nat) (t1 t2 t3 : Int) (r : List (Int × Int × Int)), m = (k : Int) ∧ k < s.bx.length ∧ el s.bx k = (t1, t2, t3) :: r ∧
  ((stepR gs s m).2 = failP s k t1 t2 t3 r ∨ (¬ (stApp gs k t2).2.1 = true ∧ (stepR gs s m).2 = leadAll gs k t1 (stApp gs k t2).1 { s with bx := s.bx.set k r })) := by
 unfold stepR at h ⊢
 split at h
 ·rename_i hin;obtain ⟨k, rfl⟩ : ∃ k : Nat, m = (k : Int) := ⟨m.toNat, by omega⟩;rw [if_pos hin];rw [Int.toNat_natCast] at h ⊢
  split at h
  ·cases h
  ·rename_i t r e;obtain ⟨t1, t2, t3⟩ := t;refine ⟨k, t1, t2, t3, r, rfl, by omega, e, ?_⟩;dsimp only at h ⊢
   split at h
   ·rename_i h1; rw [if_pos h1]; exact .inl rfl
   ·rename_i h1; rw [if_neg h1]
    split at h
    ·cases h
    ·rename_i h2; rw [if_neg h2]; exact .inr ⟨h1, rfl⟩
 ·cases h
/-- What all tokens weigh. -/
def bxsF (f : Nat → Int × Int × Int → Int) (bx : List (List (Int × Int × Int))) : Int := sumI (fun k => sumI (f k) (el bx k)) (List.range bx.length)
section
variable {f : Nat → Int × Int × Int → Int}
theorem bxsF_set {bx : List (List (Int × Int × Int))} {k : Nat} (hk : k < bx.length) (x : List (Int × Int × Int)) : bxsF f (bx.set k x) = bxsF f bx - sumI (f k) (el bx k) + sumI (f k) x := by
 unfold bxsF
 rw [List.length_set];have h := sum_at (f := fun j => sumI (f j) (el (bx.set k x) j)) (g := fun j => sumI (f j) (el bx j)) (k := k) (fun j hj => by show sumI (f j) (el (bx.set k x) j) = _; rw [el_set_far hj]) bx.length;rw [if_pos hk] at h
 try dsimp only at h
 rw [el_set_same hk] at h
 omega
theorem bxsF_puts (t : Int × Int × Int) : ∀ (l : List Int) (bx : List (List (Int × Int × Int))), (∀ x ∈ l, ∃ j : Nat, j < bx.length ∧ x = (j : Int)) → bxsF f (putsTo t bx l) = bxsF f bx + sumI (fun y => f y.toNat t) l
 | [], bx, _ => by show bxsF f bx = bxsF f bx + 0; omega
 | y :: r, bx, h => by
  obtain ⟨j, hj, rfl⟩ := h y (by simp);rw [putsTo, bxsF_puts t r _ (fun x hx => by rw [List.length_set]; exact h x (List.mem_cons_of_mem _ hx)), Int.toNat_natCast, bxsF_set hj, sumI_app, sumI_one]
  show _ = _ + (f (j : Int).toNat t + sumI (fun y => f y.toNat t) r)
  rw [Int.toNat_natCast]
  omega
theorem bxsF_empty {bx : List (List (Int × Int × Int))} (h : ∀ k, k < bx.length → el bx k = []) : bxsF f bx = 0 := by
 unfold bxsF
 rw [sumI_congr (g := fun _ => 0) (fun k hk => by show sumI (f k) (el bx k) = 0; rw [h k (List.mem_range.1 hk)]; rfl), sumI_zero]
theorem bxsF_clr (bx : List (List (Int × Int × Int))) : bxsF f (clr bx bx.length) = 0 := bxsF_empty fun k _ => el_clr bx k
theorem bxsF_nn {bx : List (List (Int × Int × Int))} (h : ∀ k t, k < bx.length → t ∈ el bx k → 0 ≤ f k t) : 0 ≤ bxsF f bx :=
 sumI_nn fun k hk => sumI_nn fun t ht => h k t (List.mem_range.1 hk) ht
theorem bxsF_lead {gs : List PNode} (hE : EdgesIn gs) {s : PP} (hn : s.bx.length = gs.length) {k : Nat} (hk : k < gs.length) (it v : Int) : bxsF f (leadR gs s k it v).bx = bxsF f s.bx + sumI (fun y => f y.toNat (it, v, 0)) (nxP gs k) := by
 unfold leadR
 split
 ·rename_i h;rw [List.length_eq_zero_iff.1 h]
  show bxsF f s.bx = bxsF f s.bx + 0
  omega
 ·exact bxsF_puts _ _ _ (fun x hx => by obtain ⟨j, hj, e⟩ := hE.rng k hk x hx; exact ⟨j, by omega, e⟩)
theorem bxsF_leadAll {gs : List PNode} (hE : EdgesIn gs) {k : Nat} (hk : k < gs.length) (it : Int) : ∀ (l : List Int) (s : PP), s.bx.length = gs.length → bxsF f (leadAll gs k it l s).bx = bxsF f s.bx + sumI (fun v => sumI (fun y => f y.toNat (it, v, 0)) (nxP gs k)) l
 | [], s, _ => by show bxsF f s.bx = bxsF f s.bx + 0; omega
 | v :: r, s, hn => by
  rw [leadAll, bxsF_leadAll hE hk it r _ (by rw [leadR_len]; exact hn), bxsF_lead hE hn hk]
  show _ = _ + (sumI (fun y => f y.toNat (it, v, 0)) (nxP gs k) + sumI (fun v => sumI (fun y => f y.toNat (it, v, 0)) (nxP gs k)) r)
  omega
/-- A failed step lowers it by so much. -/
theorem bxsF_fail {c : Int} {s : PP} {k : Nat} {t1 t2 t3 : Int} {r : List (Int × Int × Int)} (hk : k < s.bx.length) (hr : el s.bx k = (t1, t2, t3) :: r) (h1 : t3 + 1 ≤ 3 → f k (t1, t2, t3 + 1) ≤ f k (t1, t2, t3) - c) (h2 : 3 < t3 + 1 → c ≤ f k (t1, t2, t3)) (h0 : 0 ≤ bxsF f s.bx - c) :
  bxsF f (failP s k t1 t2 t3 r).bx ≤ bxsF f s.bx - c := by
 have hT : ∀ s2 : PP, bxsF f s2.bx ≤ bxsF f s.bx - c → bxsF f (failT s2).bx ≤ bxsF f s.bx - c := fun s2 h => by
  unfold failT
  split
  ·show bxsF f (clr s2.bx s2.bx.length) ≤ _
   rw [bxsF_clr]; exact h0
  ·exact h
 unfold failP
 refine hT _ ?_
 split
 ·rename_i h3
  show bxsF f (s.bx.set k r) ≤ _
  rw [bxsF_set hk, hr]
  show bxsF f s.bx - (f k (t1, t2, t3) + sumI (f k) r) + sumI (f k) r ≤ _
  have := h2 h3
  omega
 ·rename_i h3
  show bxsF f (s.bx.set k ((t1, t2, t3 + 1) :: r)) ≤ _
  rw [bxsF_set hk, hr]
  show bxsF f s.bx - (f k (t1, t2, t3) + sumI (f k) r) + (f k (t1, t2, t3 + 1) + sumI (f k) r) ≤ _
  have := h1 (by omega)
  omega
end
theorem em_leadAll (gs : List PNode) (k : Nat) (it : Int) : ∀ (l : List Int) (s : PP), (leadAll gs k it l s).em.length = s.em.length + (if (nxP gs k).length = 0 then l.length else 0)
 | [], s => by rw [leadAll]; split <;> simp
 | v :: r, s => by
  rw [leadAll, em_leadAll gs k it r]
  unfold leadR
  split
  ·rw [List.length_append, List.length_singleton, List.length_cons]; omega
  ·rfl
theorem em_failP (s : PP) (k : Nat) (t1 t2 t3 : Int) (r : List (Int × Int × Int)) : (failP s k t1 t2 t3 r).em = s.em := by
 unfold failP failT
 split <;> split <;> rfl
theorem totT_most {c : Nat} : ∀ {ls : List (List (Int × Int × Int))}, (∀ k, k < ls.length → (el ls k).length ≤ c) → totT ls ≤ c * ls.length
 | [], _ => Nat.zero_le _
 | x :: r, h => by
  have h1 := totT_most (ls := r) fun k hk => by have := h (k + 1) (by simp; omega); rwa [el_cons] at this
  have h2 := h 0 (by simp);rw [el_zero] at h2;rw [totT_cons, List.length_cons, Nat.mul_succ]
  omega
theorem tot_zero {ls : List (List (Int × Int × Int))} (h : ∀ k, k < ls.length → el ls k = []) : totT ls = 0 := by
 have := totT_most (c := 0) (ls := ls) fun k hk => by rw [h k hk]; simp
 omega
theorem tot_cap {gs : List PNode} (hG : GoodE gs) {s : PP} (hI : InvS gs s) (hn : s.bx.length = gs.length) : totT s.bx ≤ 80 := by
 have h1 := totT_most (c := 8) (ls := s.bx) fun k hk => by
  have h2 := hI.cap k (by omega);have h3 := (hG.cap k (by omega)).2
  omega
 have := hG.edg.many
 omega
theorem above_again (zs : List Int) (ti : Int) : above (above zs (ti - 10) ++ [ti]) (ti - 10) = above zs (ti - 10) ++ [ti] := by
 unfold above
 rw [List.filter_append, List.filter_filter, List.filter_cons, if_pos (by simp; omega), List.filter_nil]
 congr 1
 refine List.filter_congr fun x _ => by simp
theorem fa_failT {F : Nat} {s2 : PP} (h : s2.fa.length ≤ F + (above s2.fu (s2.ti - 10)).length + 1) (ht : totT s2.bx ≤ 80) (hfu : s2.fu.length ≤ 5) :
  (totT (failT s2).bx ≠ 0 → (failT s2).fa.length ≤ F + (above (failT s2).fu ((failT s2).ti - 10)).length) ∧ (failT s2).fa.length ≤ F + 86 := by
 have ha := above_le s2.fu (s2.ti - 10);have hc := (totT_clr s2.bx s2.bx.length).resolve_right (by omega)
 unfold failT
 split
 ·refine ⟨fun h0 => absurd (show totT (clr s2.bx s2.bx.length) = 0 from tot_zero fun k _ => el_clr _ _) h0, ?_⟩
  show (s2.fa ++ lostTo s2.bx s2.bx.length).length ≤ _
  rw [List.length_append]
  omega
 ·refine ⟨fun _ => ?_, ?_⟩
  ·show s2.fa.length ≤ F + (above (above s2.fu (s2.ti - 10) ++ [s2.ti]) (s2.ti - 10)).length
   rw [above_again, List.length_append, List.length_singleton]; omega
  ·show s2.fa.length ≤ _
   omega
end
end Go.Proofs.YtllmpinmbajpgaaGreatDoor
