
/- What is asked of a script's pipe: the program. No conditions but those written. What a value means, and a command obeyed: the program. No conditions but those written. A command obeyed, whole: the program. No conditions but those written. A command read, where the row has no more room: the program. No conditions but those written. A command read, where the row has more room: the program. No conditions but those written. -/
import Derived.Test.YtdacedbfnlkghaaGreatDoorPRniSrg
import Derived.Test.YtdacedbfnlkghaaGreatDoorPIcSmv
import Derived.Test.YtdacedbfnlkghaaGreatDoorPZoIs
import Derived.Test.YtdacedbfnlkghaaGreatDoorPEiMo
import Derived.Test.YtdacedbfnlkghaaGreatDoorPScmMj
namespace Go.Proofs.YtdacedbfnlkghaaGreatDoor
section
open Go.RowKit

theorem FitR.few {us : List LNode} (h : FitR us) : FitN us := fun a ha => by have := h.2 a ha; omega
set_option maxRecDepth 100000 in
set_option maxHeartbeats 8000000 in
theorem obey_rep (n0 q : Nat) (W : World) (o : Option Addr) (c : Nat) (us : List LNode) (hi lo p bb : Nat) (so : Option Addr) (sc : Nat) (xs : List Value) (ev fv uv : Value) (s : PP) (n : Nat) (ea : Nat → Addr) (go : Option Addr) (gn gc : Nat) (h : PR q W o c us hi lo p bb so sc xs ev fv uv s n) (hV : Env n0 W ea) (hn : n0 ≤ q) :
  Calls Tryz.prog 105 #[.pointer (some ⟨q, 0, none⟩), .int .i64 8, .slice go gn gc] W (AnsPR q W o c us hi lo p so sc (OR q p bb xs ev fv uv) (repP s.it s.em.length s.fa.length (totT s.bx) s.cl) s n) := by
 obtain ⟨eo, ec, he, _, hEI⟩ := h.flow.emo.in;obtain ⟨fo, fc, hf, _, hFI⟩ := h.flow.fao.in;obtain ⟨uo, uc, hu, _, _⟩ := h.flow.fuo.in;obtain ⟨W1, h1⟩ : ∃ V, V = W.alloc (.cells #[.int .i64 s.ti, .int .i64 s.it, .bool s.cl, .slice (some ⟨bb, 0, none⟩) s.bx.length s.bx.length, .slice eo s.em.length ec, .slice fo s.fa.length fc, .slice uo s.fu.length uc] 48) := ⟨_, rfl⟩;have hb1 : Below W.heap.size W W1 := by rw [h1]; exact below1 _ _
 have XP : Bx W1 W.heap.size [.int .i64 s.ti, .int .i64 s.it, .bool s.cl, .slice (some ⟨bb, 0, none⟩) s.bx.length s.bx.length, .slice eo s.em.length ec, .slice fo s.fa.length fc, .slice uo s.fu.length uc] := by rw [h1]; exact Bx.new [.int .i64 s.ti, .int .i64 s.it, .bool s.cl, .slice (some ⟨bb, 0, none⟩) s.bx.length s.bx.length, .slice eo s.em.length ec, .slice fo s.fa.length fc, .slice uo s.fu.length uc] _ rfl
 have H1 := hid h1;have P1 := hid (h.later hb1);have hqW : q < W.heap.size := h.box.size;have S1 := hid (SStep.of_below (n := q) (O := OR q p bb xs ev fv uv) hb1 (Nat.le_of_lt hqW));have V1 := hid (hV.step (hb1.mono (Nat.le_of_lt (Nat.lt_of_le_of_lt hn hqW))));have EI := hid (hEI.later hb1);have FI := hid (hFI.later hb1);have BI := hid (FrTT.in (show FrTT bb W.heap.size W (some ⟨bb, 0, none⟩) s.bx.length s.bx from ⟨_, h.flow.hnd.fr⟩) |>.later hb1);have c3 := h.box.c 3 rfl;have cz := h.box.size;have p2 := h.flow.box.c 2 rfl;have p3 := h.flow.box.c 3 rfl;have p4 := h.flow.box.c 4 rfl;have p5 := h.flow.box.c 5 rfl;have p6 := h.flow.box.c 6 rfl;have p7 := h.flow.box.c 7 rfl;have p8 := h.flow.box.c 8 rfl;have pz := h.flow.box.size;rw [he] at p6;rw [hf] at p7;rw [hu] at p8;have HXP := hid XP;have HRW := hid (h.sci.raw h.few);clear h hV h1 hb1 XP he hf hu hEI hFI;go_enter Tryz.func105, Tryz.ntmps105
 go_upto_region 2 with fail
 rw [← H1.out];clear H1 c3 cz p2 p3 p4 p5 p6 p7 p8 pz;have x0 := HXP.out.c 0 rfl;have x1 := HXP.out.c 1 rfl;have x2 := HXP.out.c 2 rfl;have x3 := HXP.out.c 3 rfl;have x4 := HXP.out.c 4 rfl;have x5 := HXP.out.c 5 rfl;have x6 := HXP.out.c 6 rfl;have xz := HXP.out.size;have HC := hid (implReport_is s.ti s.it s.cl (some ⟨bb, 0, none⟩) s.bx.length s.bx eo s.em.length ec fo s.fa.length fc uo s.fu.length uc W1 (by have := HRW.out.it0; omega) (by have := HRW.out.it1; omega) (by have := HRW.out.em; omega) (by have := HRW.out.tot; omega) ⟨by have := HRW.out.len; have := P1.out.fit.1; rw [val_len] at *; omega, by have := HRW.out.tot; omega⟩ BI.out V1.out.now.1);obtain ⟨T, hT⟩ : ∃ T, T = repP s.it s.em.length s.fa.length (totT s.bx) s.cl := ⟨_, rfl⟩;rw [← hT] at HC;have HT := hid hT;clear hT;go_wp2_with fail;refine HC.out.mono ?_;rintro e w2 ⟨rfl, hb2⟩;have HB2 := hid hb2;clear hb2 HC x0 x1 x2 x3 x4 x5 x6 xz;go_wp2;refine bodyPost_ret (v := .string T) (by simp [results, Tryz.results105, go_sem]) rfl ?_;exact ⟨by rw [HT.out], bb, xs, ev, fv, uv, P1.out.later HB2.out, S1.out.trans (SStep.of_below HB2.out (Nat.le_of_lt P1.out.box.size))⟩
set_option maxRecDepth 100000 in
set_option maxHeartbeats 8000000 in
theorem obey_out (n0 q : Nat) (W : World) (o : Option Addr) (c : Nat) (us : List LNode) (hi lo p bb : Nat) (so : Option Addr) (sc : Nat) (xs : List Value) (ev fv uv : Value) (s : PP) (n : Nat) (ea : Nat → Addr) (go : Option Addr) (gn gc : Nat) (h : PR q W o c us hi lo p bb so sc xs ev fv uv s n) (hV : Env n0 W ea) (hn : n0 ≤ q) (hR : RgI s) :
  Calls Tryz.prog 105 #[.pointer (some ⟨q, 0, none⟩), .int .i64 9, .slice go gn gc] W (AnsPR q W o c us hi lo p so sc (OR q p bb xs ev fv uv) (listW ⟨#[111, 117, 116]⟩ (s.em.map rowOut)) s n) := by
 obtain ⟨eo, ec, he, _, hEI⟩ := h.flow.emo.in;obtain ⟨fo, fc, hf, _, hFI⟩ := h.flow.fao.in;obtain ⟨uo, uc, hu, _, _⟩ := h.flow.fuo.in;obtain ⟨W1, h1⟩ : ∃ V, V = W.alloc (.cells #[.int .i64 s.ti, .int .i64 s.it, .bool s.cl, .slice (some ⟨bb, 0, none⟩) s.bx.length s.bx.length, .slice eo s.em.length ec, .slice fo s.fa.length fc, .slice uo s.fu.length uc] 48) := ⟨_, rfl⟩;have hb1 : Below W.heap.size W W1 := by rw [h1]; exact below1 _ _
 have XP : Bx W1 W.heap.size [.int .i64 s.ti, .int .i64 s.it, .bool s.cl, .slice (some ⟨bb, 0, none⟩) s.bx.length s.bx.length, .slice eo s.em.length ec, .slice fo s.fa.length fc, .slice uo s.fu.length uc] := by rw [h1]; exact Bx.new [.int .i64 s.ti, .int .i64 s.it, .bool s.cl, .slice (some ⟨bb, 0, none⟩) s.bx.length s.bx.length, .slice eo s.em.length ec, .slice fo s.fa.length fc, .slice uo s.fu.length uc] _ rfl
 have H1 := hid h1;have P1 := hid (h.later hb1);have hqW : q < W.heap.size := h.box.size;have S1 := hid (SStep.of_below (n := q) (O := OR q p bb xs ev fv uv) hb1 (Nat.le_of_lt hqW));have V1 := hid (hV.step (hb1.mono (Nat.le_of_lt (Nat.lt_of_le_of_lt hn hqW))));have EI := hid (hEI.later hb1);have FI := hid (hFI.later hb1);have BI := hid (FrTT.in (show FrTT bb W.heap.size W (some ⟨bb, 0, none⟩) s.bx.length s.bx from ⟨_, h.flow.hnd.fr⟩) |>.later hb1);have c3 := h.box.c 3 rfl;have cz := h.box.size;have p2 := h.flow.box.c 2 rfl;have p3 := h.flow.box.c 3 rfl;have p4 := h.flow.box.c 4 rfl;have p5 := h.flow.box.c 5 rfl;have p6 := h.flow.box.c 6 rfl;have p7 := h.flow.box.c 7 rfl;have p8 := h.flow.box.c 8 rfl;have pz := h.flow.box.size;rw [he] at p6;rw [hf] at p7;rw [hu] at p8;have HXP := hid XP;have HRW := hid (h.sci.raw h.few);clear h hV h1 hb1 XP he hf hu hEI hFI;go_enter Tryz.func105, Tryz.ntmps105
 go_upto_region 2 with fail
 rw [← H1.out];clear H1 c3 cz p2 p3 p4 p5 p6 p7 p8 pz;have x0 := HXP.out.c 0 rfl;have x1 := HXP.out.c 1 rfl;have x2 := HXP.out.c 2 rfl;have x3 := HXP.out.c 3 rfl;have x4 := HXP.out.c 4 rfl;have x5 := HXP.out.c 5 rfl;have x6 := HXP.out.c 6 rfl;have xz := HXP.out.size;have HC := hid (listOut_is eo ec s.em ⟨#[111, 117, 116]⟩ W1 (by have := HRW.out.em; have := HRW.out.tot; omega) (by decide) (fun t ht => (hR.em t ht).row) EI.out V1.out.now.1);obtain ⟨T, hT⟩ : ∃ T, T = listW ⟨#[111, 117, 116]⟩ (s.em.map rowOut) := ⟨_, rfl⟩;rw [← hT] at HC;have HT := hid hT;clear hT;go_wp2_with fail;refine HC.out.mono ?_;rintro e w2 ⟨rfl, hb2⟩;have HB2 := hid hb2;clear hb2 HC x0 x1 x2 x3 x4 x5 x6 xz;go_wp2;refine bodyPost_ret (v := .string T) (by simp [results, Tryz.results105, go_sem]) rfl ?_;exact ⟨by rw [HT.out], bb, xs, ev, fv, uv, P1.out.later HB2.out, S1.out.trans (SStep.of_below HB2.out (Nat.le_of_lt P1.out.box.size))⟩
set_option maxRecDepth 100000 in
set_option maxHeartbeats 8000000 in
theorem obey_lost (n0 q : Nat) (W : World) (o : Option Addr) (c : Nat) (us : List LNode) (hi lo p bb : Nat) (so : Option Addr) (sc : Nat) (xs : List Value) (ev fv uv : Value) (s : PP) (n : Nat) (ea : Nat → Addr) (go : Option Addr) (gn gc : Nat) (h : PR q W o c us hi lo p bb so sc xs ev fv uv s n) (hV : Env n0 W ea) (hn : n0 ≤ q) (hR : RgI s) :
  Calls Tryz.prog 105 #[.pointer (some ⟨q, 0, none⟩), .int .i64 10, .slice go gn gc] W (AnsPR q W o c us hi lo p so sc (OR q p bb xs ev fv uv) (listW ⟨#[108, 111, 115, 116]⟩ (s.fa.map rowLost)) s n) := by
 obtain ⟨eo, ec, he, _, hEI⟩ := h.flow.emo.in;obtain ⟨fo, fc, hf, _, hFI⟩ := h.flow.fao.in;obtain ⟨uo, uc, hu, _, _⟩ := h.flow.fuo.in;obtain ⟨W1, h1⟩ : ∃ V, V = W.alloc (.cells #[.int .i64 s.ti, .int .i64 s.it, .bool s.cl, .slice (some ⟨bb, 0, none⟩) s.bx.length s.bx.length, .slice eo s.em.length ec, .slice fo s.fa.length fc, .slice uo s.fu.length uc] 48) := ⟨_, rfl⟩;have hb1 : Below W.heap.size W W1 := by rw [h1]; exact below1 _ _
 have XP : Bx W1 W.heap.size [.int .i64 s.ti, .int .i64 s.it, .bool s.cl, .slice (some ⟨bb, 0, none⟩) s.bx.length s.bx.length, .slice eo s.em.length ec, .slice fo s.fa.length fc, .slice uo s.fu.length uc] := by rw [h1]; exact Bx.new [.int .i64 s.ti, .int .i64 s.it, .bool s.cl, .slice (some ⟨bb, 0, none⟩) s.bx.length s.bx.length, .slice eo s.em.length ec, .slice fo s.fa.length fc, .slice uo s.fu.length uc] _ rfl
 have H1 := hid h1;have P1 := hid (h.later hb1);have hqW : q < W.heap.size := h.box.size;have S1 := hid (SStep.of_below (n := q) (O := OR q p bb xs ev fv uv) hb1 (Nat.le_of_lt hqW));have V1 := hid (hV.step (hb1.mono (Nat.le_of_lt (Nat.lt_of_le_of_lt hn hqW))));have EI := hid (hEI.later hb1);have FI := hid (hFI.later hb1);have BI := hid (FrTT.in (show FrTT bb W.heap.size W (some ⟨bb, 0, none⟩) s.bx.length s.bx from ⟨_, h.flow.hnd.fr⟩) |>.later hb1);have c3 := h.box.c 3 rfl;have cz := h.box.size;have p2 := h.flow.box.c 2 rfl;have p3 := h.flow.box.c 3 rfl;have p4 := h.flow.box.c 4 rfl;have p5 := h.flow.box.c 5 rfl;have p6 := h.flow.box.c 6 rfl;have p7 := h.flow.box.c 7 rfl;have p8 := h.flow.box.c 8 rfl;have pz := h.flow.box.size;rw [he] at p6;rw [hf] at p7;rw [hu] at p8;have HXP := hid XP;have HRW := hid (h.sci.raw h.few);clear h hV h1 hb1 XP he hf hu hEI hFI;go_enter Tryz.func105, Tryz.ntmps105
 go_upto_region 2 with fail
 rw [← H1.out];clear H1 c3 cz p2 p3 p4 p5 p6 p7 p8 pz;have x0 := HXP.out.c 0 rfl;have x1 := HXP.out.c 1 rfl;have x2 := HXP.out.c 2 rfl;have x3 := HXP.out.c 3 rfl;have x4 := HXP.out.c 4 rfl;have x5 := HXP.out.c 5 rfl;have x6 := HXP.out.c 6 rfl;have xz := HXP.out.size;have HC := hid (listLost_is fo fc s.fa ⟨#[108, 111, 115, 116]⟩ W1 (by have := HRW.out.em; have := HRW.out.tot; omega) (by decide) (fun t ht => (hR.fa t ht).row) FI.out V1.out.now.1);obtain ⟨T, hT⟩ : ∃ T, T = listW ⟨#[108, 111, 115, 116]⟩ (s.fa.map rowLost) := ⟨_, rfl⟩;rw [← hT] at HC;have HT := hid hT;clear hT;go_wp2_with fail;refine HC.out.mono ?_;rintro e w2 ⟨rfl, hb2⟩;have HB2 := hid hb2;clear hb2 HC x0 x1 x2 x3 x4 x5 x6 xz;go_wp2;refine bodyPost_ret (v := .string T) (by simp [results, Tryz.results105, go_sem]) rfl ?_;exact ⟨by rw [HT.out], bb, xs, ev, fv, uv, P1.out.later HB2.out, S1.out.trans (SStep.of_below HB2.out (Nat.le_of_lt P1.out.box.size))⟩
set_option maxRecDepth 100000 in
set_option maxHeartbeats 8000000 in
theorem obey_run (n0 q : Nat) (W : World) (o : Option Addr) (c : Nat) (us : List LNode) (hi lo p bb : Nat) (so : Option Addr) (sc : Nat) (xs : List Value) (ev fv uv : Value) (s : PP) (n : Nat) (ea : Nat → Addr) (go : Option Addr) (gn gc : Nat) (h : PR q W o c us hi lo p bb so sc xs ev fv uv s n) (hV : Env n0 W ea) (hn : n0 ≤ q) :
  Calls Tryz.prog 105 #[.pointer (some ⟨q, 0, none⟩), .int .i64 7, .slice go gn gc] W (AnsPR q W o c us hi lo p so sc (OR q p bb xs ev fv uv) (tx [115, 116, 101, 112, 115, 32] ++ tx (Lib.itoa (haltK (us.map valNode) s : Int))) (itS (us.map valNode) (haltK (us.map valNode) s) { s with cl := true }) n) := by
 obtain ⟨eo, ec, he, _, hEI⟩ := h.flow.emo.in;obtain ⟨fo, fc, hf, _, hFI⟩ := h.flow.fao.in;obtain ⟨uo, uc, hu, _, _⟩ := h.flow.fuo.in;obtain ⟨W1, h1⟩ : ∃ V, V = W.alloc (.cells #[.int .i64 s.ti, .int .i64 s.it, .bool s.cl, .slice (some ⟨bb, 0, none⟩) s.bx.length s.bx.length, .slice eo s.em.length ec, .slice fo s.fa.length fc, .slice uo s.fu.length uc] 48) := ⟨_, rfl⟩;have hb1 : Below W.heap.size W W1 := by rw [h1]; exact below1 _ _
 have XP : Bx W1 W.heap.size [.int .i64 s.ti, .int .i64 s.it, .bool s.cl, .slice (some ⟨bb, 0, none⟩) s.bx.length s.bx.length, .slice eo s.em.length ec, .slice fo s.fa.length fc, .slice uo s.fu.length uc] := by rw [h1]; exact Bx.new [.int .i64 s.ti, .int .i64 s.it, .bool s.cl, .slice (some ⟨bb, 0, none⟩) s.bx.length s.bx.length, .slice eo s.em.length ec, .slice fo s.fa.length fc, .slice uo s.fu.length uc] _ rfl
 have H1 := hid h1;have P1 := hid (h.later hb1);have hqW : q < W.heap.size := h.box.size;have S1 := hid (SStep.of_below (n := q) (O := OR q p bb xs ev fv uv) hb1 (Nat.le_of_lt hqW));have V1 := hid (hV.step (hb1.mono (Nat.le_of_lt (Nat.lt_of_le_of_lt hn hqW))));have EI := hid (hEI.later hb1);have FI := hid (hFI.later hb1);have BI := hid (FrTT.in (show FrTT bb W.heap.size W (some ⟨bb, 0, none⟩) s.bx.length s.bx from ⟨_, h.flow.hnd.fr⟩) |>.later hb1);have c3 := h.box.c 3 rfl;have cz := h.box.size;have p2 := h.flow.box.c 2 rfl;have p3 := h.flow.box.c 3 rfl;have p4 := h.flow.box.c 4 rfl;have p5 := h.flow.box.c 5 rfl;have p6 := h.flow.box.c 6 rfl;have p7 := h.flow.box.c 7 rfl;have p8 := h.flow.box.c 8 rfl;have pz := h.flow.box.size;rw [he] at p6;rw [hf] at p7;rw [hu] at p8;have HXP := hid XP;have HRW := hid (h.sci.raw h.few);clear h hV h1 hb1 XP he hf hu hEI hFI;go_enter Tryz.func105, Tryz.ntmps105
 go_upto_region 2 with fail
 rw [← H1.out];clear H1 c3 cz p2 p3 p4 p5 p6 p7 p8 pz;have hg := P1.out.good;obtain ⟨hK2, hK⟩ := P1.out.sci.halt hg.1 hg.2.1 hg.2.2 P1.out.few;have HSI := hid (P1.out.sci.ran hg.1 hg.2.1 hg.2.2 P1.out.few hK);have HRI := hid (P1.out.sci.run hg.1 hg.2.2 P1.out.few);obtain ⟨gb, goff, rfl, hgl⟩ : ∃ gb goff, o = some ⟨gb, goff, none⟩ ∧ 0 < us.length := by
  have h00 : codeG (us.map valNode) = 0 := by have := P1.out.pipe; simp [pipeB] at this; exact this.1
  have h1 : 0 < us.length := by have := (codeG_zero h00).1; rw [val_len] at this; omega
  obtain ⟨b, off, e, _, _⟩ := hNode_at P1.out.gr.in.1 h1;exact ⟨b, off, e, h1⟩
 have HRY := hid (runY_any lo W1 p bb gb goff c us (.slice so (srcP (us.map valNode) us.length).length sc) xs ev fv uv s (haltK (us.map valNode) s) P1.out.flow (P1.out.gr.inHi.up dNode_ok P1.out.hi1) P1.out.fit.few hgl hg.1 hg.2.1 HRI.out hK hK2);have c3 := P1.out.box.c 3 rfl;have cz := P1.out.box.size;obtain ⟨K, hKK⟩ : ∃ K, K = haltK (us.map valNode) s := ⟨_, rfl⟩;rw [← hKK] at HRY HSI hK2;have HKK := hid hKK;clear hKK hK hg HRI;go_wp2_with fail;refine HRY.out.mono ?_;rintro e w2 ⟨bb', xs', ev', fv', uv', rfl, hFY⟩;obtain ⟨bb2, xs2, ev2, fv2, uv2, P2, S2⟩ := P1.out.step hFY.step HSI.out;have HP2 := hid P2;have S2' := hid (S1.out.trans S2);have V2 := hid (V1.out.step (S2.low.mono hn));clear hFY P2 S2 HRY c3 cz;go_wp2_with fail;refine (itoa_any (K : Int) (by omega) (by omega) w2 V2.out.now.1).mono ?_;rintro e w4 ⟨rfl, hb4⟩;obtain ⟨y, hy⟩ : ∃ y, y = tx (Lib.itoa (K : Int)) := ⟨_, rfl⟩;have hys : y.size ≤ 100 := by rw [hy]; have := itoa_short (K : Int) (by omega) (by omega); show (tx _).size ≤ 100; simp only [tx, ByteArray.size, List.size_toArray]; omega
 have hy6 : ¬ 9223372036854775807 < 6 + y.size := by omega
 have HY := hid hy;rw [← hy];have HB4 := hid hb4;clear hy hb4;go_wp2;refine bodyPost_ret (v := .string (⟨#[115, 116, 101, 112, 115, 32]⟩ ++ y)) (by simp [results, Tryz.results105, go_sem]) rfl ?_;rw [← HKK.out, ← HY.out];exact ⟨rfl, bb2, xs2, ev2, fv2, uv2, HP2.out.later HB4.out, S2'.out.trans (SStep.of_below HB4.out (Nat.le_of_lt HP2.out.box.size))⟩
end
section
open Go.RowKit

/-- What a move's command is answered, and what it leaves. -/
def moveA (gs : List PNode) (s : PP) (n : Nat) (m : Int × Int × Int) : ByteArray × PP × Nat :=
 if n = 300 then (whatT, s, n) else (movT (doR gs (srcP gs gs.length) s m.1 m.2.1 m.2.2).1, (doR gs (srcP gs gs.length) s m.1 m.2.1 m.2.2).2, n + 1)
theorem moveA_is (us : List LNode) (s : PP) (n : Nat) (m : Int × Int × Int) : moveA (us.map valNode) s n m = (if n = 300 then whatT else movT (doR (us.map valNode) (srcP (us.map valNode) us.length) s m.1 m.2.1 m.2.2).1, if n = 300 then s else (doR (us.map valNode) (srcP (us.map valNode) us.length) s m.1 m.2.1 m.2.2).2, if n = 300 then n else n + 1) := by
 unfold moveA
 rw [val_len]
 by_cases h : n = 300
 ·rw [if_pos h, if_pos h, if_pos h, if_pos h]
 ·rw [if_neg h, if_neg h, if_neg h, if_neg h]
/-- What the command mean is answered. -/
def meanT (gs : List PNode) (k v : Int) : ByteArray := if (meanR gs k v).2 = true then listW ⟨#[109, 101, 97, 110]⟩ ((meanR gs k v).1.map rowEmit) else noT
set_option maxHeartbeats 4000000 in
theorem mean_any (n0 q : Nat) (W : World) (o : Option Addr) (c : Nat) (us : List LNode) (hi lo p bb : Nat) (so : Option Addr) (sc : Nat) (xs : List Value) (ev fv uv : Value) (s : PP) (n : Nat) (ea : Nat → Addr) (k v : Int) (h : PR q W o c us hi lo p bb so sc xs ev fv uv s n) (hV : Env n0 W ea) (hn : n0 ≤ q) :
  Calls Tryz.prog 134 #[.pointer (some ⟨q, 0, none⟩), .int .i64 k, .int .i64 v] W fun e W' => e = .returned (.string (meanT (us.map valNode) k v)) ∧ Below W.heap.size W W' := by
 have HC := hid (implMean_is o c us k v ea W (h.fit.roomy h.gr) hV.now.2.2.2.2.1 h.gr.in);have HV := hid (hV.step ((Below.refl n0 W)));have c0 := h.box.c 0 rfl;have cz := h.box.size;have HN : Hid (n0 ≤ W.heap.size) := Nat.le_of_lt (Nat.lt_of_le_of_lt hn h.box.size);have HL := hid (meanR_len (us.map valNode) k v);have H64 := hid (meanR_row (us.map valNode) k v);obtain ⟨R, hR⟩ : ∃ R, R = meanR (us.map valNode) k v := ⟨_, rfl⟩;have HT : Hid (meanT (us.map valNode) k v = if R.2 = true then listW ⟨#[109, 101, 97, 110]⟩ (R.1.map rowEmit) else noT) := by rw [Hid, hR]; rfl
 rw [← hR] at HC HL H64;clear h hV hn hR;go_enter Tryz.func134, Tryz.ntmps134;go_wp2_with fail;refine HC.out.mono ?_;rintro e w2 ⟨⟨ro, rc, rfl, hF⟩, hb2⟩;have HF := hid hF.in;have V2 := hid (HV.out.step (hb2.mono HN.out));have HB2 := hid hb2;clear hF hb2 c0 cz HC;obtain ⟨R1, R2⟩ := R;dsimp only at HL H64 HT HF ⊢
 cases R2 with
 | false =>
  go_wp2;refine bodyPost_ret (v := .string ⟨#[110, 111]⟩) (by simp [results, Tryz.results134, go_sem]) rfl ?_;exact ⟨by rw [HT.out, if_neg (by decide)]; rfl, HB2.out⟩
 | true =>
  have HCL := hid (listEmit_is ro rc R1 ⟨#[109, 101, 97, 110]⟩ w2 (by have := HL.out; omega) (by decide) H64.out HF.out V2.out.now.1);obtain ⟨T, hT⟩ : ∃ T, T = listW ⟨#[109, 101, 97, 110]⟩ (R1.map rowEmit) := ⟨_, rfl⟩;rw [← hT] at HCL HT;clear hT;go_wp2_with fail;refine HCL.out.mono ?_;rintro e w3 ⟨rfl, hb3⟩;have HB3 := hid (HB2.out.trans (hb3.mono HB2.out.size));clear hb3 HCL;go_wp2;refine bodyPost_ret (v := .string T) (by simp [results, Tryz.results134, go_sem]) rfl ?_;exact ⟨by rw [HT.out]; simp, HB3.out⟩
set_option maxRecDepth 100000 in
set_option maxHeartbeats 8000000 in
theorem obey_mean (n0 q : Nat) (W : World) (o : Option Addr) (c : Nat) (us : List LNode) (hi lo p bb : Nat) (so : Option Addr) (sc : Nat) (xs : List Value) (ev fv uv : Value) (s : PP) (n : Nat) (ea : Nat → Addr) (h : PR q W o c us hi lo p bb so sc xs ev fv uv s n) (hV : Env n0 W ea) (hn : n0 ≤ q) (go : Option Addr) (gc : Nat) (k v : Int) (hz : kI.In W.heap.size W go ([k, v] : List Int)) :
  Calls Tryz.prog 105 #[.pointer (some ⟨q, 0, none⟩), .int .i64 11, .slice go 2 gc] W (AnsPR q W o c us hi lo p so sc (OR q p bb xs ev fv uv) (meanT (us.map valNode) k v) s n) := by
 obtain ⟨eo, ec, he, _, hEI⟩ := h.flow.emo.in;obtain ⟨fo, fc, hf, _, hFI⟩ := h.flow.fao.in;obtain ⟨uo, uc, hu, _, _⟩ := h.flow.fuo.in;obtain ⟨W1, h1⟩ : ∃ V, V = W.alloc (.cells #[.int .i64 s.ti, .int .i64 s.it, .bool s.cl, .slice (some ⟨bb, 0, none⟩) s.bx.length s.bx.length, .slice eo s.em.length ec, .slice fo s.fa.length fc, .slice uo s.fu.length uc] 48) := ⟨_, rfl⟩;have hb1 : Below W.heap.size W W1 := by rw [h1]; exact below1 _ _
 have XP : Bx W1 W.heap.size [.int .i64 s.ti, .int .i64 s.it, .bool s.cl, .slice (some ⟨bb, 0, none⟩) s.bx.length s.bx.length, .slice eo s.em.length ec, .slice fo s.fa.length fc, .slice uo s.fu.length uc] := by rw [h1]; exact Bx.new [.int .i64 s.ti, .int .i64 s.it, .bool s.cl, .slice (some ⟨bb, 0, none⟩) s.bx.length s.bx.length, .slice eo s.em.length ec, .slice fo s.fa.length fc, .slice uo s.fu.length uc] _ rfl
 have H1 := hid h1;have P1 := hid (h.later hb1);have hqW : q < W.heap.size := h.box.size;have S1 := hid (SStep.of_below (n := q) (O := OR q p bb xs ev fv uv) hb1 (Nat.le_of_lt hqW));have V1 := hid (hV.step (hb1.mono (Nat.le_of_lt (Nat.lt_of_le_of_lt hn hqW))));have EI := hid (hEI.later hb1);have FI := hid (hFI.later hb1);have BI := hid (FrTT.in (show FrTT bb W.heap.size W (some ⟨bb, 0, none⟩) s.bx.length s.bx from ⟨_, h.flow.hnd.fr⟩) |>.later hb1);have c3 := h.box.c 3 rfl;obtain ⟨gb, goff, rfl, hgb, hgc⟩ := ints_at hz (k := 0) (by simp);have d0 : W.cell? ⟨gb, goff, none⟩ = some (.int .i64 k) := hgc 0 (by simp);have d1 : W.cell? ⟨gb, goff + 1, none⟩ = some (.int .i64 v) := hgc 1 (by simp);have H9 := hid hb1;clear hz hgc;have cz := h.box.size;have p2 := h.flow.box.c 2 rfl;have p3 := h.flow.box.c 3 rfl;have p4 := h.flow.box.c 4 rfl;have p5 := h.flow.box.c 5 rfl;have p6 := h.flow.box.c 6 rfl;have p7 := h.flow.box.c 7 rfl;have p8 := h.flow.box.c 8 rfl;have pz := h.flow.box.size;rw [he] at p6;rw [hf] at p7;rw [hu] at p8;have HXP := hid XP;have HRW := hid (h.sci.raw h.few);clear h hV h1 hb1 XP he hf hu hEI hFI;go_enter Tryz.func105, Tryz.ntmps105
 go_upto_region 2 with fail
 rw [← H1.out];clear H1 c3 cz p2 p3 p4 p5 p6 p7 p8 pz;have HM := hid (mean_any n0 q W1.drew o c us hi lo p bb so sc xs ev fv uv s n ea k v (P1.out.later (Below.refl _ W1).drew) (V1.out.step ((Below.refl _ W1).drew.mono (Nat.le_of_lt (Nat.lt_of_le_of_lt hn P1.out.box.size)))) hn);have e0 := (H9.out.cell (p := ⟨gb, goff, none⟩) hgb).trans d0;have e1 := (H9.out.cell (p := ⟨gb, goff + 1, none⟩) hgb).trans d1;have E0 : Hid (W1.cell? ⟨gb, goff, none⟩ = some (.int .i64 k) ∧ W1.cell? ⟨gb, goff + 1, none⟩ = some (.int .i64 v)) := ⟨e0, e1⟩;have HGZ : Hid (gb < W1.heap.size) := Nat.lt_of_lt_of_le hgb H9.out.size;clear e0 e1 d0 d1
 go_upto_region 12 with fail
 refine wp_walks (zl := [8]) (S := fun Y => Y.cell? ⟨gb, goff, none⟩ = some (.int .i64 k) ∧ Y.cell? ⟨gb, goff + 1, none⟩ = some (.int .i64 v)) (by kernel_rfl) E0.out (fun hH => ?_);refine Walks.tk 0 hH ?_;refine Walks.tk 1 hH ?_;refine Walks.tk 2 hH ?_;refine Walks.tk 3 hH ?_;refine Walks.tk 4 hH ?_;refine Walks.tk 5 hH ?_;refine Walks.tk 6 hH ?_;refine Walks.on 7 fun K hK => ?_
 go_simp;refine HM.out.mono ?_;rintro e w3 ⟨rfl, hb3⟩;have hbx : Below W1.heap.size W1 w3 := (Below.refl _ W1).drew.trans hb3;have E3 : Hid (w3.cell? ⟨gb, goff, none⟩ = some (.int .i64 k) ∧ w3.cell? ⟨gb, goff + 1, none⟩ = some (.int .i64 v)) := ⟨(hbx.cell (p := ⟨gb, goff, none⟩) HGZ.out).trans E0.out.1, (hbx.cell (p := ⟨gb, goff + 1, none⟩) HGZ.out).trans E0.out.2⟩;have HB2 := hid hbx;obtain ⟨T, hT⟩ : ∃ T, T = meanT (us.map valNode) k v := ⟨_, rfl⟩;rw [← hT] at hK ⊢;have HT := hid hT;clear hb3 hbx HM hT;refine hK.out _ _ (fun _ => E3.out) (fun _ => ?_);clear hK K;refine Walks.on 8 fun K hK => ?_
 go_simp;refine hK.out _ _ (fun h => absurd h (by decide)) (fun _ => ?_);clear hK K;refine Walks.done (by kernel_rfl) ?_ _;go_wp2;refine bodyPost_ret (v := .string T) (by simp [results, Tryz.results105, go_sem]) rfl ?_;exact ⟨by rw [HT.out], bb, xs, ev, fv, uv, P1.out.later HB2.out, S1.out.trans (SStep.of_below HB2.out (Nat.le_of_lt P1.out.box.size))⟩
set_option maxRecDepth 100000 in
set_option maxHeartbeats 8000000 in
theorem obey_move (n0 q : Nat) (W : World) (o : Option Addr) (c : Nat) (us : List LNode) (hi lo p bb : Nat) (so : Option Addr) (sc : Nat) (xs : List Value) (ev fv uv : Value) (s : PP) (n : Nat) (ea : Nat → Addr) (h : PR q W o c us hi lo p bb so sc xs ev fv uv s n) (hV : Env n0 W ea) (hn : n0 ≤ q) (go : Option Addr) (gc : Nat) (k : Nat) (hk : k < 6) (l : List Int) (hl : l.length = cmdN k) (hz : kI.In W.heap.size W go l) :
  Calls Tryz.prog 105 #[.pointer (some ⟨q, 0, none⟩), .int .i64 ((k : Int) + 1), .slice go l.length gc] W (AnsPR q W o c us hi lo p so sc (OR q p bb xs ev fv uv) (moveA (us.map valNode) s n (mvR ((k : Int) + 1) l)).1 (moveA (us.map valNode) s n (mvR ((k : Int) + 1) l)).2.1 (moveA (us.map valNode) s n (mvR ((k : Int) + 1) l)).2.2) := by
 obtain ⟨eo, ec, he, _, hEI⟩ := h.flow.emo.in;obtain ⟨fo, fc, hf, _, hFI⟩ := h.flow.fao.in;obtain ⟨uo, uc, hu, _, _⟩ := h.flow.fuo.in;obtain ⟨W1, h1⟩ : ∃ V, V = W.alloc (.cells #[.int .i64 s.ti, .int .i64 s.it, .bool s.cl, .slice (some ⟨bb, 0, none⟩) s.bx.length s.bx.length, .slice eo s.em.length ec, .slice fo s.fa.length fc, .slice uo s.fu.length uc] 48) := ⟨_, rfl⟩;have hb1 : Below W.heap.size W W1 := by rw [h1]; exact below1 _ _
 have XP : Bx W1 W.heap.size [.int .i64 s.ti, .int .i64 s.it, .bool s.cl, .slice (some ⟨bb, 0, none⟩) s.bx.length s.bx.length, .slice eo s.em.length ec, .slice fo s.fa.length fc, .slice uo s.fu.length uc] := by rw [h1]; exact Bx.new [.int .i64 s.ti, .int .i64 s.it, .bool s.cl, .slice (some ⟨bb, 0, none⟩) s.bx.length s.bx.length, .slice eo s.em.length ec, .slice fo s.fa.length fc, .slice uo s.fu.length uc] _ rfl
 have H1 := hid h1;have P1 := hid (h.later hb1);have hqW : q < W.heap.size := h.box.size;have S1 := hid (SStep.of_below (n := q) (O := OR q p bb xs ev fv uv) hb1 (Nat.le_of_lt hqW));have V1 := hid (hV.step (hb1.mono (Nat.le_of_lt (Nat.lt_of_le_of_lt hn hqW))));have EI := hid (hEI.later hb1);have FI := hid (hFI.later hb1);have BI := hid (FrTT.in (show FrTT bb W.heap.size W (some ⟨bb, 0, none⟩) s.bx.length s.bx from ⟨_, h.flow.hnd.fr⟩) |>.later hb1);have c3 := h.box.c 3 rfl;have H9 := hid (hz.later hb1);clear hz;have cz := h.box.size;have p2 := h.flow.box.c 2 rfl;have p3 := h.flow.box.c 3 rfl;have p4 := h.flow.box.c 4 rfl;have p5 := h.flow.box.c 5 rfl;have p6 := h.flow.box.c 6 rfl;have p7 := h.flow.box.c 7 rfl;have p8 := h.flow.box.c 8 rfl;have pz := h.flow.box.size;rw [he] at p6;rw [hf] at p7;rw [hu] at p8;have HXP := hid XP;have HRW := hid (h.sci.raw h.few);clear h hV h1 hb1 XP he hf hu hEI hFI;go_enter Tryz.func105, Tryz.ntmps105
 go_upto_region 2 with fail
 rw [← H1.out];clear H1 c3 cz p2 p3 p4 p5 p6 p7 p8 pz;have HMO := hid (moveOf_is k hk go gc l W1 hl (H9.out));have hm1 : (mvR ((k : Int) + 1) l).1 = (k : Int) + 1 := by unfold mvR; (repeat' split) <;> rfl
 obtain ⟨m, hm⟩ : ∃ m, m = mvR ((k : Int) + 1) l := ⟨_, rfl⟩;rw [← hm] at HMO hm1;have HMM := hid hm;clear hm hl H9;obtain ⟨m1, m2, m3⟩ := m;dsimp only at HMO hm1;have hm2 : m1 ≤ 9223372036854775807 := by omega
 have HM2 := hid hm2;clear hm1 hm2;go_wp2_with fail;refine HMO.out.mono ?_;rintro e w2 ⟨rfl, hb2⟩;have P2 := hid (P1.out.later hb2);have V2 := hid (V1.out.step (hb2.mono (Nat.le_of_lt (Nat.lt_of_le_of_lt hn P1.out.box.size))));have S2 := hid (S1.out.trans (SStep.of_below hb2 (Nat.le_of_lt P1.out.box.size)));have hmv := move_any n0 q w2 o c us hi lo p bb so sc xs ev fv uv s n ea m1 m2 m3 HM2.out P2.out V2.out hn;have hq : AnsPR q w2 o c us hi lo p so sc (OR q p bb xs ev fv uv) (if n = 300 then whatT else movT (doR (us.map valNode) (srcP (us.map valNode) us.length) s m1 m2 m3).1) (if n = 300 then s else (doR (us.map valNode) (srcP (us.map valNode) us.length) s m1 m2 m3).2) (if n = 300 then n else n + 1) = AnsPR q w2 o c us hi lo p so sc (OR q p bb xs ev fv uv) (moveA (us.map valNode) s n (m1, m2, m3)).1 (moveA (us.map valNode) s n (m1, m2, m3)).2.1 (moveA (us.map valNode) s n (m1, m2, m3)).2.2 := by rw [moveA_is]
 rw [hq] at hmv;obtain ⟨A, hT⟩ : ∃ A, A = moveA (us.map valNode) s n (m1, m2, m3) := ⟨_, rfl⟩;rw [← hT] at hmv;obtain ⟨T, s2, n2⟩ := A;dsimp only at hmv;have HMV := hid hmv;have HT := hid hT;clear hq;clear hb2 hmv hT HMO;go_wp2_with fail;refine HMV.out.mono ?_;rintro e w3 ⟨rfl, bb', xs', ev', fv', uv', P3, S3⟩;have HP3 := hid P3;have HS3 := hid (S2.out.trans S3);clear P3 S3 HMV;go_wp2;refine bodyPost_ret (v := .string T) (by simp [results, Tryz.results105, go_sem]) rfl ?_;rw [← HMM.out, ← HT.out];exact ⟨rfl, bb', xs', ev', fv', uv', HP3.out, HS3.out⟩
end
section
open Go.RowKit

theorem cmdO_some {x : ByteArray} {n k : Nat} (h : cmdO x n = some k) : k < 11 ∧ n = cmdN k := by
 unfold cmdO at h
 have h1 := List.mem_range.1 (List.mem_of_find?_eq_some h);have h2 := List.find?_some h;exact ⟨h1, (of_decide_eq_true h2).2⟩
theorem cmdR_good {ws : List ByteArray} (h : (cmdR ws).2.2 = true) : ∃ k : Nat, k < 11 ∧ (cmdR ws).1 = (k : Int) + 1 ∧ (cmdR ws).2.1.length = cmdN k := by
 unfold cmdR at h ⊢
 split
 ·rename_i e; rw [e] at h; cases h
 ·rename_i l e;rw [e] at h;dsimp only at h
  split
  ·rename_i e2; rw [e2] at h; cases h
  ·rename_i k e2;obtain ⟨h1, h2⟩ := cmdO_some e2;exact ⟨k, h1, rfl, h2⟩
theorem movR_is (st : SS) (m : Int × Int × Int) : movR st m = ({ st with s := (moveA st.gs st.s st.n m).2.1, n := (moveA st.gs st.s st.n m).2.2 }, (moveA st.gs st.s st.n m).1) := by
 unfold movR moveA
 split <;> rfl
theorem obeyR_move (st : SS) {k : Nat} (hk : k < 6) (l : List Int) : obeyR st ((k : Int) + 1) l = movR st (mvR ((k : Int) + 1) l) := by
 unfold obeyR
 rw [if_neg (by omega), if_neg (by omega), if_neg (by omega), if_neg (by omega), if_neg (by omega)]
set_option maxHeartbeats 4000000 in
theorem obey_any (n0 q : Nat) (W : World) (o : Option Addr) (c : Nat) (us : List LNode) (hi lo p bb : Nat) (so : Option Addr) (sc : Nat) (xs : List Value) (ev fv uv : Value) (st : SS) (ea : Nat → Addr) (h : PR q W o c us hi lo p bb so sc xs ev fv uv st.s st.n) (hg : us.map valNode = st.gs) (hR : RgI st.s) (hV : Env n0 W ea) (hn : n0 ≤ q) (go : Option Addr) (gc : Nat) (k : Nat) (hk : k < 11) (l : List Int) (hl : l.length = cmdN k) (hz : kI.In W.heap.size W go l) :
  Calls Tryz.prog 105 #[.pointer (some ⟨q, 0, none⟩), .int .i64 ((k : Int) + 1), .slice go l.length gc] W (AnsPR q W o c us hi lo p so sc (OR q p bb xs ev fv uv) (obeyR st ((k : Int) + 1) l).2 (obeyR st ((k : Int) + 1) l).1.s (obeyR st ((k : Int) + 1) l).1.n) := by
 by_cases h6 : k < 6
 ·have h1 := obey_move n0 q W o c us hi lo p bb so sc xs ev fv uv st.s st.n ea h hV hn go gc k h6 l hl hz;rw [obeyR_move st h6, movR_is, ← hg];exact h1
 ·rcases (show k = 6 ∨ k = 7 ∨ k = 8 ∨ k = 9 ∨ k = 10 from by omega) with rfl | rfl | rfl | rfl | rfl
  ·have h1 := obey_run n0 q W o c us hi lo p bb so sc xs ev fv uv st.s st.n ea go l.length gc h hV hn;rw [hg] at h1;exact h1
  ·exact obey_rep n0 q W o c us hi lo p bb so sc xs ev fv uv st.s st.n ea go l.length gc h hV hn
  ·exact obey_out n0 q W o c us hi lo p bb so sc xs ev fv uv st.s st.n ea go l.length gc h hV hn hR
  ·exact obey_lost n0 q W o c us hi lo p bb so sc xs ev fv uv st.s st.n ea go l.length gc h hV hn hR
  ·match l, hl with
   | [x, y], _ =>
    have h1 := obey_mean n0 q W o c us hi lo p bb so sc xs ev fv uv st.s st.n ea h hV hn go gc x y hz;rw [hg] at h1;exact h1
theorem obeyR_same (st : SS) (k : Int) (l : List Int) : (obeyR st k l).1.gs = st.gs ∧ (obeyR st k l).1.bg = st.bg ∧ (obeyR st k l).1.bad = st.bad := by
 unfold obeyR
 repeat' split
 all_goals first | exact ⟨rfl, rfl, rfl⟩ | (rw [movR_is]; exact ⟨rfl, rfl, rfl⟩)
/-- The numbers stay in their range. -/
theorem obeyR_rng (st : SS) (hR : RgI st.s) (hi : itB st.s.it) (k : Int) (l : List Int) : RgI (obeyR st k l).1.s := by
 unfold obeyR
 repeat' split
 all_goals first
  | exact hR
  | exact RgI.it (s := { st.s with cl := true }) ⟨hR.len, hR.bx, hR.em, hR.fa⟩ _
  | skip
 rw [movR_is];dsimp only
 unfold moveA
 split
 ·exact hR
 ·exact hR.move hi _ _ _
end
section
open Go.RowKit

set_option maxRecDepth 10000 in
set_option maxHeartbeats 8000000 in
theorem readCommand_1 (b off cap : Nat) (ws : List ByteArray) (w : World) (h0 : 0 < ws.length) (hl : ws.length ≤ 1048577) (hcap : ws.length ≤ cap) (hS : ShortT ws) (hz : kS.In w.heap.size w (some ⟨b, off, none⟩) ws) (hT : PowTab w) (hE : NErr w) (hM : Cmds w) (hq : cap = 1) :
  Calls Tryz.prog 104 #[.slice (some ⟨b, off, none⟩) ws.length cap] w (AnsCm w (cmdR ws)) := by
 have HZ := hid hz;have HM := hid hM;have hlen1 : (ws.drop 1).length = ws.length - 1 := List.length_drop;have HMM : Hid (∀ a c, kS.In w.heap.size w a (ws.drop 1) → Calls Tryz.prog 75 #[.slice a (ws.length - 1) c] w (AnsNB w (numsQ (ws.drop 1)))) := fun a c hz => by
  have := readNumbers_is a c (ws.drop 1) w (by omega) (fun x hx => hS x (List.mem_of_mem_drop hx)) hz hT hE;rw [hlen1] at this; exact this
 have hbz0 : b < w.heap.size := by obtain ⟨b2, off2, e, hb3, _⟩ := texts_at hz h0; cases e; exact hb3
 have hend : kS.In w.heap.size w (some ⟨b, off, none⟩) (ws.drop 1) := by
  have : ws.drop 1 = [] := List.length_eq_zero_iff.1 (by rw [hlen1]; omega);rw [this]; exact .inl rfl
 have HCC := hid (HMM.out _ 0 hend);clear hend HMM;clear hT hE hM hS hz hlen1;go_enter Tryz.func104, Tryz.ntmps104;go_wp2_with fail;refine HCC.out.mono ?_;rintro e w2 ⟨⟨go2, qc2, rfl, hno2, hF2⟩, hb2⟩;clear HCC hno2;have hB2 : Below w.heap.size w w2 := hb2;have hw := HM.out.later hb2;have HAL := hid hw.all;have d0 : w2.cell? ⟨b, off, none⟩ = some (.string (el ws 0)) := by
  obtain ⟨b2, off2, e, hb3, hc⟩ := texts_at HZ.out h0
  cases e
  have := (hb2.cell (p := ⟨b, off + 0, none⟩) hb3).trans (hc 0 h0);exact this
 obtain ⟨x, hx⟩ : ∃ x, el ws 0 = x := ⟨_, rfl⟩;rw [hx] at d0;have HX := hid hx;have hbz : b < w2.heap.size := by obtain ⟨b2, off2, e, hb3, _⟩ := texts_at HZ.out h0; cases e; exact Nat.lt_of_lt_of_le hb3 hB2.size
 have HB2 := hid hB2;have h0i : (0 : Int) < (ws.length : Int) := by omega
 have HIX : Hid (∀ (k : Nat), k < 11 → ∀ W : World, (Instr.index 182 cmdTab (.int .i64 (k : Int))).run Tryz.prog W = .ok (.agg #[.string (cmdW k), .int .i64 ((k : Int) + 1), .int .i64 (cmdN k : Int)]) W) := fun k hk W => Tryz.ixC k hk W
 cases hn : numsO (ws.drop 1) with
 | none =>
  as_aux_lemma =>
  have HR : Hid (cmdR ws = (0, [], false)) := by rw [Hid, cmdR, hn]
  rw [numsQ_no hn] at hF2 ⊢;clear hF2 hn hw hx hb2;dsimp only;go_wp2_with (with_reducible refine wpList_load_all _ rfl _ 182 rfl ⟨1, 0, none⟩ rfl 33 cmdF Tryz.isAggC Tryz.sizeC HAL.out cmdTab rfl ?_)
  go_loopw [16] (fun i wr => ∃ k : Nat, i = .int .i64 (k : Int) ∧ k ≤ 11 ∧ Hid (Below w2.heap.size w2 wr)) (fun i _ => 11 - (intOf i).toNat)
  case atStart => exact ⟨0, rfl, by omega, Below.refl _ _⟩
  case round =>
   obtain ⟨k, rfl, hk, hBr⟩ := hrel;have hBf := HB2.out.trans (hBr.out.mono HB2.out.size)
   by_cases hlt : k < 11
   ·have hki : (k : Int) < 11 := by omega
    have hx1 := HIX.out k hlt wr
    generalize cmdW k = cw at hx1
    generalize (cmdN k : Int) = cn at hx1
    go_upto_region 5 with fail
    obtain ⟨w3, h3⟩ : ∃ q, q = wr.alloc (.cells #[.string cw, .int .i64 ((k : Int) + 1), .int .i64 cn] 181) := ⟨_, rfl⟩;have hb3 : Below wr.heap.size wr w3 := by rw [h3]; exact below1 _ _
    rw [← h3];have hBn := hid (hBr.out.trans (hb3.mono hBr.out.size));clear h3 hb3 hx1 hBr hBf
    go_quiet (fail)
    go_wp2;go_roundw
    case rel => exact ⟨k + 1, by go_num, by omega, below_draws hBn.out _⟩
    case measure => simp [intOf]; omega
   ·obtain rfl : k = 11 := by omega
    have HRF := HR.out;rw [Hid] at HR;clear HR;have HRF := hid HRF;go_wp2;refine bodyPost_ret (v := .tuple #[.int .i64 0, .slice none 0 0, .bool false]) (by simp [results, Tryz.results104, go_sem]) rfl ?_;rw [HRF.out];exact ⟨⟨none, 0, rfl, Kind.Fresh.nil _ _ _ _ _ _⟩, hBf⟩
 | some l =>
  have hnl := numsO_len hn;rw [List.length_drop] at hnl;have HR : Hid (cmdR ws = match cmdO x l.length with | none => (0, [], false) | some k => ((k : Int) + 1, l, true)) := by rw [Hid, cmdR, hn, ← hx] <;> rfl
  rw [numsQ_yes hn] at hF2 ⊢;have HF2 := hid hF2;clear hF2 hn hw hx;have hll : l.length ≤ 1048577 := by omega
  have HLI : Hid (kI.In w2.heap.size w2 go2 l) := HF2.out.in;clear hnl hb2;dsimp only;go_wp2_with (with_reducible refine wpList_load_all _ rfl _ 182 rfl ⟨1, 0, none⟩ rfl 33 cmdF Tryz.isAggC Tryz.sizeC HAL.out cmdTab rfl ?_)
  go_loopw [16] (fun i wr => ∃ k : Nat, i = .int .i64 (k : Int) ∧ k ≤ 11 ∧ Hid (∀ j, j < k → ¬ (x = cmdW j ∧ l.length = cmdN j)) ∧ Hid (Below w2.heap.size w2 wr)) (fun i _ => 11 - (intOf i).toNat)
  case atStart => exact ⟨0, rfl, by omega, fun j hj => by omega, Below.refl _ _⟩
  case round =>
   obtain ⟨k, rfl, hk, hno, hBr⟩ := hrel;have hBf := HB2.out.trans (hBr.out.mono HB2.out.size)
   by_cases hlt : k < 11
   ·have hki : (k : Int) < 11 := by omega
    have hx1 := HIX.out k hlt wr;obtain ⟨cw, hcw⟩ : ∃ q, q = cmdW k := ⟨_, rfl⟩;obtain ⟨cn, hcn⟩ : ∃ q, q = cmdN k := ⟨_, rfl⟩;rw [← hcw, ← hcn] at hx1;have HCW := hid hcw;have HCN := hid hcn;clear hcw hcn
    go_upto_region 5 with fail
    obtain ⟨w3, h3⟩ : ∃ q, q = wr.alloc (.cells #[.string cw, .int .i64 ((k : Int) + 1), .int .i64 (cn : Int)] 181) := ⟨_, rfl⟩;have hb3 : Below wr.heap.size wr w3 := by rw [h3]; exact below1 _ _
    have X3 : Bx w3 wr.heap.size [.string cw, .int .i64 ((k : Int) + 1), .int .i64 (cn : Int)] := by rw [h3]; exact Bx.new [.string cw, .int .i64 ((k : Int) + 1), .int .i64 (cn : Int)] _ rfl
    rw [← h3];have hBn := hid (hBr.out.trans (hb3.mono hBr.out.size));have q0 := X3.c 0 rfl;have q1 := X3.c 1 rfl;have q2 := X3.c 2 rfl;have qz := X3.size;have e0 := (hBn.out.cell (p := ⟨b, off, none⟩) hbz).trans d0;have hBw := hid (HB2.out.trans (hBn.out.mono HB2.out.size));clear h3 hb3 hx1 hBr hBf X3
    by_cases hc : x = cw ∧ l.length = cn
    ·as_aux_lemma =>
     obtain ⟨rfl, hc2⟩ := hc;have f1 : (x.toList == x.toList) = true := by simp
     have f2 : ((cn : Int) == (l.length : Int)) = true := by rw [hc2]; simp
     have HR2 : Hid (cmdR ws = ((k : Int) + 1, l, true)) := by
      have h9 := HR.out;rw [cmdO_hit hlt ⟨HCW.out, hc2.trans HCN.out⟩ hno.out] at h9;exact h9
     clear hc2
     go_quiet (fail)
     go_wp2;refine bodyPost_ret (v := .tuple #[.int .i64 ((k : Int) + 1), .slice go2 l.length qc2, .bool true]) (by simp [results, Tryz.results104, go_sem]) rfl ?_;rw [HR2.out];exact ⟨⟨go2, qc2, rfl, (HF2.out.later (below_draws hBn.out _)).wide (Nat.le_refl _) (below_draws hBn.out _).size⟩, below_draws hBw.out _⟩
    ·have HNX : Hid (∀ j, j < k + 1 → ¬ (x = cmdW j ∧ l.length = cmdN j)) := fun j hj => by
      rcases Nat.lt_succ_iff_lt_or_eq.1 hj with h | rfl
      ·exact hno.out j h
      ·rw [← HCW.out, ← HCN.out]; exact hc
     by_cases hc1 : x = cw
     ·as_aux_lemma =>
      have f1 : (cw.toList == x.toList) = true := by rw [hc1]; simp
      have f2 : ((cn : Int) == (l.length : Int)) = false := by
       have : l.length ≠ cn := fun e => hc ⟨hc1, e⟩
       simp; omega
      clear hc hc1
      go_quiet (fail)
      go_wp2;go_roundw
      case rel => exact ⟨k + 1, by go_num, by omega, HNX, below_draws hBn.out _⟩
      case measure => simp [intOf]; omega
     ·as_aux_lemma =>
      have hm1 : cw.toList ≠ x.toList := fun e => hc1 (ba_toList_inj e.symm)
      have f1 : (cw.toList == x.toList) = false := by simpa using hm1
      clear hc hc1 hm1
      go_quiet (fail)
      go_wp2;go_roundw
      case rel => exact ⟨k + 1, by go_num, by omega, HNX, below_draws hBn.out _⟩
      case measure => simp [intOf]; omega
   ·obtain rfl : k = 11 := by omega
    have hR2 := HR.out;rw [cmdO_none hno.out] at hR2;have HRF := hid hR2;clear hR2;go_wp2;refine bodyPost_ret (v := .tuple #[.int .i64 0, .slice none 0 0, .bool false]) (by simp [results, Tryz.results104, go_sem]) rfl ?_;rw [HRF.out];exact ⟨⟨none, 0, rfl, Kind.Fresh.nil _ _ _ _ _ _⟩, hBf⟩
end
section
open Go.RowKit

set_option maxRecDepth 10000 in
set_option maxHeartbeats 8000000 in
theorem readCommand_2 (b off cap : Nat) (ws : List ByteArray) (w : World) (h0 : 0 < ws.length) (hl : ws.length ≤ 1048577) (_hcap : ws.length ≤ cap) (hS : ShortT ws) (hz : kS.In w.heap.size w (some ⟨b, off, none⟩) ws) (hT : PowTab w) (hE : NErr w) (hM : Cmds w) (hq : cap ≠ 1) :
  Calls Tryz.prog 104 #[.slice (some ⟨b, off, none⟩) ws.length cap] w (AnsCm w (cmdR ws)) := by
 have HZ := hid hz;have HM := hid hM;have hlen1 : (ws.drop 1).length = ws.length - 1 := List.length_drop;have HMM : Hid (∀ a c, kS.In w.heap.size w a (ws.drop 1) → Calls Tryz.prog 75 #[.slice a (ws.length - 1) c] w (AnsNB w (numsQ (ws.drop 1)))) := fun a c hz => by
  have := readNumbers_is a c (ws.drop 1) w (by omega) (fun x hx => hS x (List.mem_of_mem_drop hx)) hz hT hE;rw [hlen1] at this; exact this
 have hbz0 : b < w.heap.size := by obtain ⟨b2, off2, e, hb3, _⟩ := texts_at hz h0; cases e; exact hb3
 have HCC := hid (HMM.out _ (cap - 1) (texts_drop hz hbz0));clear HMM;clear hT hE hM hS hz hlen1;go_enter Tryz.func104, Tryz.ntmps104;go_wp2_with fail;refine HCC.out.mono ?_;rintro e w2 ⟨⟨go2, qc2, rfl, hno2, hF2⟩, hb2⟩;clear HCC hno2;have hB2 : Below w.heap.size w w2 := hb2;have hw := HM.out.later hb2;have HAL := hid hw.all;have d0 : w2.cell? ⟨b, off, none⟩ = some (.string (el ws 0)) := by
  obtain ⟨b2, off2, e, hb3, hc⟩ := texts_at HZ.out h0
  cases e
  have := (hb2.cell (p := ⟨b, off + 0, none⟩) hb3).trans (hc 0 h0);exact this
 obtain ⟨x, hx⟩ : ∃ x, el ws 0 = x := ⟨_, rfl⟩;rw [hx] at d0;have HX := hid hx;have hbz : b < w2.heap.size := by obtain ⟨b2, off2, e, hb3, _⟩ := texts_at HZ.out h0; cases e; exact Nat.lt_of_lt_of_le hb3 hB2.size
 have HB2 := hid hB2;have h0i : (0 : Int) < (ws.length : Int) := by omega
 have HIX : Hid (∀ (k : Nat), k < 11 → ∀ W : World, (Instr.index 182 cmdTab (.int .i64 (k : Int))).run Tryz.prog W = .ok (.agg #[.string (cmdW k), .int .i64 ((k : Int) + 1), .int .i64 (cmdN k : Int)]) W) := fun k hk W => Tryz.ixC k hk W
 cases hn : numsO (ws.drop 1) with
 | none =>
  as_aux_lemma =>
  have HR : Hid (cmdR ws = (0, [], false)) := by rw [Hid, cmdR, hn]
  rw [numsQ_no hn] at hF2 ⊢;clear hF2 hn hw hx hb2;dsimp only;go_wp2_with (with_reducible refine wpList_load_all _ rfl _ 182 rfl ⟨1, 0, none⟩ rfl 33 cmdF Tryz.isAggC Tryz.sizeC HAL.out cmdTab rfl ?_)
  go_loopw [16] (fun i wr => ∃ k : Nat, i = .int .i64 (k : Int) ∧ k ≤ 11 ∧ Hid (Below w2.heap.size w2 wr)) (fun i _ => 11 - (intOf i).toNat)
  case atStart => exact ⟨0, rfl, by omega, Below.refl _ _⟩
  case round =>
   obtain ⟨k, rfl, hk, hBr⟩ := hrel;have hBf := HB2.out.trans (hBr.out.mono HB2.out.size)
   by_cases hlt : k < 11
   ·have hki : (k : Int) < 11 := by omega
    have hx1 := HIX.out k hlt wr
    generalize cmdW k = cw at hx1
    generalize (cmdN k : Int) = cn at hx1
    go_upto_region 5 with fail
    obtain ⟨w3, h3⟩ : ∃ q, q = wr.alloc (.cells #[.string cw, .int .i64 ((k : Int) + 1), .int .i64 cn] 181) := ⟨_, rfl⟩;have hb3 : Below wr.heap.size wr w3 := by rw [h3]; exact below1 _ _
    rw [← h3];have hBn := hid (hBr.out.trans (hb3.mono hBr.out.size));clear h3 hb3 hx1 hBr hBf
    go_quiet (fail)
    go_wp2;go_roundw
    case rel => exact ⟨k + 1, by go_num, by omega, below_draws hBn.out _⟩
    case measure => simp [intOf]; omega
   ·obtain rfl : k = 11 := by omega
    have HRF := HR.out;rw [Hid] at HR;clear HR;have HRF := hid HRF;go_wp2;refine bodyPost_ret (v := .tuple #[.int .i64 0, .slice none 0 0, .bool false]) (by simp [results, Tryz.results104, go_sem]) rfl ?_;rw [HRF.out];exact ⟨⟨none, 0, rfl, Kind.Fresh.nil _ _ _ _ _ _⟩, hBf⟩
 | some l =>
  have hnl := numsO_len hn;rw [List.length_drop] at hnl;have HR : Hid (cmdR ws = match cmdO x l.length with | none => (0, [], false) | some k => ((k : Int) + 1, l, true)) := by rw [Hid, cmdR, hn, ← hx] <;> rfl
  rw [numsQ_yes hn] at hF2 ⊢;have HF2 := hid hF2;clear hF2 hn hw hx;have hll : l.length ≤ 1048577 := by omega
  have HLI : Hid (kI.In w2.heap.size w2 go2 l) := HF2.out.in;clear hnl hb2;dsimp only;go_wp2_with (with_reducible refine wpList_load_all _ rfl _ 182 rfl ⟨1, 0, none⟩ rfl 33 cmdF Tryz.isAggC Tryz.sizeC HAL.out cmdTab rfl ?_)
  go_loopw [16] (fun i wr => ∃ k : Nat, i = .int .i64 (k : Int) ∧ k ≤ 11 ∧ Hid (∀ j, j < k → ¬ (x = cmdW j ∧ l.length = cmdN j)) ∧ Hid (Below w2.heap.size w2 wr)) (fun i _ => 11 - (intOf i).toNat)
  case atStart => exact ⟨0, rfl, by omega, fun j hj => by omega, Below.refl _ _⟩
  case round =>
   obtain ⟨k, rfl, hk, hno, hBr⟩ := hrel;have hBf := HB2.out.trans (hBr.out.mono HB2.out.size)
   by_cases hlt : k < 11
   ·have hki : (k : Int) < 11 := by omega
    have hx1 := HIX.out k hlt wr;obtain ⟨cw, hcw⟩ : ∃ q, q = cmdW k := ⟨_, rfl⟩;obtain ⟨cn, hcn⟩ : ∃ q, q = cmdN k := ⟨_, rfl⟩;rw [← hcw, ← hcn] at hx1;have HCW := hid hcw;have HCN := hid hcn;clear hcw hcn
    go_upto_region 5 with fail
    obtain ⟨w3, h3⟩ : ∃ q, q = wr.alloc (.cells #[.string cw, .int .i64 ((k : Int) + 1), .int .i64 (cn : Int)] 181) := ⟨_, rfl⟩;have hb3 : Below wr.heap.size wr w3 := by rw [h3]; exact below1 _ _
    have X3 : Bx w3 wr.heap.size [.string cw, .int .i64 ((k : Int) + 1), .int .i64 (cn : Int)] := by rw [h3]; exact Bx.new [.string cw, .int .i64 ((k : Int) + 1), .int .i64 (cn : Int)] _ rfl
    rw [← h3];have hBn := hid (hBr.out.trans (hb3.mono hBr.out.size));have q0 := X3.c 0 rfl;have q1 := X3.c 1 rfl;have q2 := X3.c 2 rfl;have qz := X3.size;have e0 := (hBn.out.cell (p := ⟨b, off, none⟩) hbz).trans d0;have hBw := hid (HB2.out.trans (hBn.out.mono HB2.out.size));clear h3 hb3 hx1 hBr hBf X3
    by_cases hc : x = cw ∧ l.length = cn
    ·as_aux_lemma =>
     obtain ⟨rfl, hc2⟩ := hc;have f1 : (x.toList == x.toList) = true := by simp
     have f2 : ((cn : Int) == (l.length : Int)) = true := by rw [hc2]; simp
     have HR2 : Hid (cmdR ws = ((k : Int) + 1, l, true)) := by
      have h9 := HR.out;rw [cmdO_hit hlt ⟨HCW.out, hc2.trans HCN.out⟩ hno.out] at h9;exact h9
     clear hc2
     go_quiet (fail)
     go_wp2;refine bodyPost_ret (v := .tuple #[.int .i64 ((k : Int) + 1), .slice go2 l.length qc2, .bool true]) (by simp [results, Tryz.results104, go_sem]) rfl ?_;rw [HR2.out];exact ⟨⟨go2, qc2, rfl, (HF2.out.later (below_draws hBn.out _)).wide (Nat.le_refl _) (below_draws hBn.out _).size⟩, below_draws hBw.out _⟩
    ·have HNX : Hid (∀ j, j < k + 1 → ¬ (x = cmdW j ∧ l.length = cmdN j)) := fun j hj => by
      rcases Nat.lt_succ_iff_lt_or_eq.1 hj with h | rfl
      ·exact hno.out j h
      ·rw [← HCW.out, ← HCN.out]; exact hc
     by_cases hc1 : x = cw
     ·as_aux_lemma =>
      have f1 : (cw.toList == x.toList) = true := by rw [hc1]; simp
      have f2 : ((cn : Int) == (l.length : Int)) = false := by
       have : l.length ≠ cn := fun e => hc ⟨hc1, e⟩
       simp; omega
      clear hc hc1
      go_quiet (fail)
      go_wp2;go_roundw
      case rel => exact ⟨k + 1, by go_num, by omega, HNX, below_draws hBn.out _⟩
      case measure => simp [intOf]; omega
     ·as_aux_lemma =>
      have hm1 : cw.toList ≠ x.toList := fun e => hc1 (ba_toList_inj e.symm)
      have f1 : (cw.toList == x.toList) = false := by simpa using hm1
      clear hc hc1 hm1
      go_quiet (fail)
      go_wp2;go_roundw
      case rel => exact ⟨k + 1, by go_num, by omega, HNX, below_draws hBn.out _⟩
      case measure => simp [intOf]; omega
   ·obtain rfl : k = 11 := by omega
    have hR2 := HR.out;rw [cmdO_none hno.out] at hR2;have HRF := hid hR2;clear hR2;go_wp2;refine bodyPost_ret (v := .tuple #[.int .i64 0, .slice none 0 0, .bool false]) (by simp [results, Tryz.results104, go_sem]) rfl ?_;rw [HRF.out];exact ⟨⟨none, 0, rfl, Kind.Fresh.nil _ _ _ _ _ _⟩, hBf⟩
theorem readCommand_is (b off cap : Nat) (ws : List ByteArray) (w : World) (h0 : 0 < ws.length) (hl : ws.length ≤ 1048577) (hcap : ws.length ≤ cap) (hS : ShortT ws) (hz : kS.In w.heap.size w (some ⟨b, off, none⟩) ws) (hT : PowTab w) (hE : NErr w) (hM : Cmds w) :
  Calls Tryz.prog 104 #[.slice (some ⟨b, off, none⟩) ws.length cap] w (AnsCm w (cmdR ws)) := by
 by_cases hq : cap = 1
 ·exact readCommand_1 b off cap ws w h0 hl hcap hS hz hT hE hM hq
 ·exact readCommand_2 b off cap ws w h0 hl hcap hS hz hT hE hM hq
end
end Go.Proofs.YtdacedbfnlkghaaGreatDoor
