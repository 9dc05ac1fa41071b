
/- What is told of a script's pipe: the specification. No conditions but those written. A node read: what both sides find. No conditions but those written. -/
import Derived.Test.YtdacedbfnlkghaaGreatDoorPSsc
import Derived.Test.YtdacedbfnlkghaaGreatDoorPSsaSkt
import Derived.Test.YtdacedbfnlkghaaGreatDoorPSpsSsb
import Derived.Test.YtdacedbfnlkghaaGreatDoorPZoIs
import Derived.Test.YtdacedbfnlkghaaGreatDoorPEiMo
import Derived.Test.YtdacedbfnlkghaaGreatDoorPTphZi
namespace Go.Proofs.YtdacedbfnlkghaaGreatDoor
section
open Go.RowKit

theorem row_two (a b : Int) : (⟨#[32]⟩ : ByteArray) ++ numsT ⟨#[58]⟩ [a, b] = ((⟨#[32]⟩ ++ tx (Lib.itoa a)) ++ ⟨#[58]⟩) ++ tx (Lib.itoa b) := by
 have h1 : numsT ⟨#[58]⟩ [a, b] = joinB ([tx (Lib.itoa a)] ++ [tx (Lib.itoa b)]) ⟨#[58]⟩ := rfl;rw [h1, joinB_snoc (by simp), joinB_one];simp only [ByteArray.append_assoc]
theorem row_three (a b c : Int) : (⟨#[32]⟩ : ByteArray) ++ numsT ⟨#[58]⟩ [a, b, c] = ((((⟨#[32]⟩ ++ tx (Lib.itoa a)) ++ ⟨#[58]⟩) ++ tx (Lib.itoa b)) ++ ⟨#[58]⟩) ++ tx (Lib.itoa c) := by
 have h1 : numsT ⟨#[58]⟩ [a, b, c] = joinB (([tx (Lib.itoa a)] ++ [tx (Lib.itoa b)]) ++ [tx (Lib.itoa c)]) ⟨#[58]⟩ := rfl;rw [h1, joinB_snoc (by simp), joinB_snoc (by simp), joinB_one];simp only [ByteArray.append_assoc]
theorem row_four (a b c d : Int) : (⟨#[32]⟩ : ByteArray) ++ numsT ⟨#[58]⟩ [a, b, c, d] = ((((((⟨#[32]⟩ ++ tx (Lib.itoa a)) ++ ⟨#[58]⟩) ++ tx (Lib.itoa b)) ++ ⟨#[58]⟩) ++ tx (Lib.itoa c)) ++ ⟨#[58]⟩) ++ tx (Lib.itoa d) := by
 have h1 : numsT ⟨#[58]⟩ [a, b, c, d] = joinB ((([tx (Lib.itoa a)] ++ [tx (Lib.itoa b)]) ++ [tx (Lib.itoa c)]) ++ [tx (Lib.itoa d)]) ⟨#[58]⟩ := rfl;rw [h1, joinB_snoc (by simp), joinB_snoc (by simp), joinB_snoc (by simp), joinB_one];simp only [ByteArray.append_assoc]
theorem list_size {w : ByteArray} {rows : List (List Int)} (hw : w.size ≤ 100) (hn : rows.length ≤ 900000) (h : ∀ r ∈ rows, r.length ≤ 4 ∧ Ints64 r) : (listW w rows).size ≤ 200000000 := by
 have h1 := listB_size w rows hw h
 omega
set_option maxRecDepth 100000 in
set_option maxHeartbeats 8000000 in
theorem tells_rep (q : Nat) (W : World) (o : Option Addr) (c : Nat) (us : List LNode) (hi lo p bb : Nat) (xs : List Value) (ev fv uv : Value) (s : PP) (n : Nat) (h : QR q W o c us hi lo p bb xs ev fv uv s n) (go : Option Addr) (gn gc : Nat) :
  Calls Tryz.prog 112 #[.pointer (some ⟨q, 0, none⟩), .string ⟨#[114, 101, 112, 111, 114, 116]⟩, .slice go gn gc] W (AnsQR q W o c us hi lo p (repP s.it s.em.length s.fa.length (totT s.bx) s.cl) s n) := by
 obtain ⟨eo, ec, he, _, hEI⟩ := h.flow.emo.in;obtain ⟨fo, fc, hf, _, hFI⟩ := h.flow.fao.in;obtain ⟨uo, uc, hu, _, _⟩ := h.flow.fuo.in;obtain ⟨W1, h1⟩ : ∃ V, V = W.alloc (.cells #[.int .i64 s.ti, .int .i64 s.it, .bool s.cl, .slice (some ⟨bb, 0, none⟩) s.bx.length s.bx.length, .slice eo s.em.length ec, .slice fo s.fa.length fc, .slice uo s.fu.length uc] 48) := ⟨_, rfl⟩;have hb1 : Below W.heap.size W W1 := by rw [h1]; exact below1 _ _
 have XP : Bx W1 W.heap.size [.int .i64 s.ti, .int .i64 s.it, .bool s.cl, .slice (some ⟨bb, 0, none⟩) s.bx.length s.bx.length, .slice eo s.em.length ec, .slice fo s.fa.length fc, .slice uo s.fu.length uc] := by rw [h1]; exact Bx.new [.int .i64 s.ti, .int .i64 s.it, .bool s.cl, .slice (some ⟨bb, 0, none⟩) s.bx.length s.bx.length, .slice eo s.em.length ec, .slice fo s.fa.length fc, .slice uo s.fu.length uc] _ rfl
 have H1 := hid h1;have P1 := hid (h.later hb1);have HB1 := hid hb1;have HQW : Hid (q ≤ W.heap.size) := Nat.le_of_lt h.box.size;have EI := hid (hEI.later hb1);have FI := hid (hFI.later hb1);have BI := hid (FrTT.in (show FrTT bb W.heap.size W (some ⟨bb, 0, none⟩) s.bx.length s.bx from ⟨_, h.flow.hnd.fr⟩) |>.later hb1);have c1 := h.box.c 1 rfl;have cz := h.box.size;have p1 := h.flow.box.c 1 rfl;have p2 := h.flow.box.c 2 rfl;have p3 := h.flow.box.c 3 rfl;have p4 := h.flow.box.c 4 rfl;have p5 := h.flow.box.c 5 rfl;have p6 := h.flow.box.c 6 rfl;have p7 := h.flow.box.c 7 rfl;have pz := h.flow.box.size;rw [he] at p5;rw [hf] at p6;rw [hu] at p7;have HXP := hid XP;have HRW := hid (h.sci.raw h.few);clear h h1 hb1 XP he hf hu hEI hFI;go_enter Tryz.func112, Tryz.ntmps112
 go_upto_region 2 with fail
 rw [← H1.out];clear H1 c1 cz p1 p2 p3 p4 p5 p6 p7 pz;have x0 := HXP.out.c 0 rfl;have x1 := HXP.out.c 1 rfl;have x2 := HXP.out.c 2 rfl;have x3 := HXP.out.c 3 rfl;have x4 := HXP.out.c 4 rfl;have x5 := HXP.out.c 5 rfl;have x6 := HXP.out.c 6 rfl;have xz := HXP.out.size;have HC := hid (specReport_is s.ti s.it s.cl (some ⟨bb, 0, none⟩) s.bx.length s.bx eo s.em.length ec fo s.fa.length fc uo s.fu.length uc W1 (by have := HRW.out.it0; omega) (by have := HRW.out.it1; omega) (by have := HRW.out.em; omega) (by have := HRW.out.tot; omega) ⟨by have := HRW.out.len; have := P1.out.fit.1; rw [val_len] at *; omega, by have := HRW.out.tot; omega⟩ BI.out);obtain ⟨T, hT⟩ : ∃ T, T = repP s.it s.em.length s.fa.length (totT s.bx) s.cl := ⟨_, rfl⟩;rw [← hT] at HC;have HT := hid hT;clear hT;go_wp2_with fail;refine HC.out.mono ?_;rintro e w2 ⟨rfl, hb2⟩;have HB2 := hid hb2;clear hb2 HC x0 x1 x2 x3 x4 x5 x6 xz;go_wp2;refine bodyPost_ret (v := .string T) (by simp [results, Tryz.results112, go_sem]) rfl ?_;exact ⟨by rw [HT.out], bb, xs, ev, fv, uv, P1.out.later HB2.out, (HB1.out.mono HQW.out).trans (HB2.out.mono (Nat.le_trans HQW.out HB1.out.size))⟩
set_option maxRecDepth 100000 in
set_option maxHeartbeats 8000000 in
theorem tells_run (q : Nat) (W : World) (o : Option Addr) (c : Nat) (us : List LNode) (hi lo p bb : Nat) (xs : List Value) (ev fv uv : Value) (s : PP) (n : Nat) (h : QR q W o c us hi lo p bb xs ev fv uv s n) (go : Option Addr) (gn gc : Nat) :
  Calls Tryz.prog 112 #[.pointer (some ⟨q, 0, none⟩), .string ⟨#[114, 117, 110]⟩, .slice go gn gc] W (AnsQR q W o c us hi lo p (tx [115, 116, 101, 112, 115, 32] ++ tx (Lib.itoa (haltK (us.map valNode) s : Int))) (itS (us.map valNode) (haltK (us.map valNode) s) { s with cl := true }) n) := by
 obtain ⟨eo, ec, he, _, hEI⟩ := h.flow.emo.in;obtain ⟨fo, fc, hf, _, hFI⟩ := h.flow.fao.in;obtain ⟨uo, uc, hu, _, _⟩ := h.flow.fuo.in;obtain ⟨W1, h1⟩ : ∃ V, V = W.alloc (.cells #[.int .i64 s.ti, .int .i64 s.it, .bool s.cl, .slice (some ⟨bb, 0, none⟩) s.bx.length s.bx.length, .slice eo s.em.length ec, .slice fo s.fa.length fc, .slice uo s.fu.length uc] 48) := ⟨_, rfl⟩;have hb1 : Below W.heap.size W W1 := by rw [h1]; exact below1 _ _
 have XP : Bx W1 W.heap.size [.int .i64 s.ti, .int .i64 s.it, .bool s.cl, .slice (some ⟨bb, 0, none⟩) s.bx.length s.bx.length, .slice eo s.em.length ec, .slice fo s.fa.length fc, .slice uo s.fu.length uc] := by rw [h1]; exact Bx.new [.int .i64 s.ti, .int .i64 s.it, .bool s.cl, .slice (some ⟨bb, 0, none⟩) s.bx.length s.bx.length, .slice eo s.em.length ec, .slice fo s.fa.length fc, .slice uo s.fu.length uc] _ rfl
 have H1 := hid h1;have P1 := hid (h.later hb1);have HB1 := hid hb1;have HQW : Hid (q ≤ W.heap.size) := Nat.le_of_lt h.box.size;have EI := hid (hEI.later hb1);have FI := hid (hFI.later hb1);have BI := hid (FrTT.in (show FrTT bb W.heap.size W (some ⟨bb, 0, none⟩) s.bx.length s.bx from ⟨_, h.flow.hnd.fr⟩) |>.later hb1);have c1 := h.box.c 1 rfl;have cz := h.box.size;have p1 := h.flow.box.c 1 rfl;have p2 := h.flow.box.c 2 rfl;have p3 := h.flow.box.c 3 rfl;have p4 := h.flow.box.c 4 rfl;have p5 := h.flow.box.c 5 rfl;have p6 := h.flow.box.c 6 rfl;have p7 := h.flow.box.c 7 rfl;have pz := h.flow.box.size;rw [he] at p5;rw [hf] at p6;rw [hu] at p7;have HXP := hid XP;have HRW := hid (h.sci.raw h.few);clear h h1 hb1 XP he hf hu hEI hFI;go_enter Tryz.func112, Tryz.ntmps112
 go_upto_region 2 with fail
 rw [← H1.out];clear H1 c1 cz p1 p2 p3 p4 p5 p6 p7 pz;have hg := P1.out.good;obtain ⟨hK2, hK⟩ := P1.out.sci.halt hg.1 hg.2.1 hg.2.2 P1.out.few;have HSI := hid (P1.out.sci.ran hg.1 hg.2.1 hg.2.2 P1.out.few hK);have HRI := hid (P1.out.sci.run hg.1 hg.2.2 P1.out.few);obtain ⟨gb, goff, rfl, hgl⟩ := P1.out.some;have HRY := hid (runS_any lo W1 p bb gb goff c us xs ev fv uv s (haltK (us.map valNode) s) P1.out.flow (P1.out.gr.inHi.up dNode_ok P1.out.hi1) hgl hg.1 hg.2.1 HRI.out hK hK2);have c1 := P1.out.box.c 1 rfl;have cz := P1.out.box.size;obtain ⟨K, hKK⟩ : ∃ K, K = haltK (us.map valNode) s := ⟨_, rfl⟩;rw [← hKK] at HRY HSI hK2;have HKK := hid hKK;clear hKK hK hg HRI;go_wp2_with fail;refine HRY.out.mono ?_;rintro e w2 ⟨bb', xs', ev', fv', uv', rfl, hF2, hl2⟩;have HP2 := hid (P1.out.put hF2 hl2 HSI.out);have HB2 := hid ((HB1.out.mono HQW.out).trans (hl2.mono (Nat.le_of_lt P1.out.qlo)));clear hF2 hl2 HRY c1 cz;go_wp2_with fail;refine (num_any (K : Int) (by omega) (by omega) w2).mono ?_;rintro e w4 ⟨rfl, hb4⟩;obtain ⟨y, hy⟩ : ∃ y, y = tx (Lib.itoa (K : Int)) := ⟨_, rfl⟩;have hys : y.size ≤ 100 := by rw [hy]; exact tx_num (K : Int) (by omega) (by omega)
 have hy3 : ¬ 9223372036854775807 < 6 + y.size := by omega
 have HY := hid hy;rw [← hy];have HB4 := hid hb4;clear hy hb4;go_wp2;refine bodyPost_ret (v := .string (⟨#[115, 116, 101, 112, 115, 32]⟩ ++ y)) (by simp [results, Tryz.results112, go_sem]) rfl ?_;rw [← HKK.out, ← HY.out];exact ⟨rfl, bb', xs', ev', fv', uv', HP2.out.later HB4.out, HB2.out.trans (HB4.out.mono (Nat.le_of_lt HP2.out.box.size))⟩
set_option maxRecDepth 100000 in
set_option maxHeartbeats 8000000 in
theorem tells_out (q : Nat) (W : World) (o : Option Addr) (c : Nat) (us : List LNode) (hi lo p bb : Nat) (xs : List Value) (ev fv uv : Value) (s : PP) (n : Nat) (h : QR q W o c us hi lo p bb xs ev fv uv s n) (go : Option Addr) (gn gc : Nat) (hR : RgI s) :
  Calls Tryz.prog 112 #[.pointer (some ⟨q, 0, none⟩), .string ⟨#[111, 117, 116]⟩, .slice go gn gc] W (AnsQR q W o c us hi lo p (listW ⟨#[111, 117, 116]⟩ (s.em.map rowOut)) s n) := by
 obtain ⟨eo, ec, he, _, hEI⟩ := h.flow.emo.in;obtain ⟨fo, fc, hf, _, hFI⟩ := h.flow.fao.in;obtain ⟨uo, uc, hu, _, _⟩ := h.flow.fuo.in;obtain ⟨W1, h1⟩ : ∃ V, V = W.alloc (.cells #[.int .i64 s.ti, .int .i64 s.it, .bool s.cl, .slice (some ⟨bb, 0, none⟩) s.bx.length s.bx.length, .slice eo s.em.length ec, .slice fo s.fa.length fc, .slice uo s.fu.length uc] 48) := ⟨_, rfl⟩;have hb1 : Below W.heap.size W W1 := by rw [h1]; exact below1 _ _
 have XP : Bx W1 W.heap.size [.int .i64 s.ti, .int .i64 s.it, .bool s.cl, .slice (some ⟨bb, 0, none⟩) s.bx.length s.bx.length, .slice eo s.em.length ec, .slice fo s.fa.length fc, .slice uo s.fu.length uc] := by rw [h1]; exact Bx.new [.int .i64 s.ti, .int .i64 s.it, .bool s.cl, .slice (some ⟨bb, 0, none⟩) s.bx.length s.bx.length, .slice eo s.em.length ec, .slice fo s.fa.length fc, .slice uo s.fu.length uc] _ rfl
 have H1 := hid h1;have P1 := hid (h.later hb1);have HB1 := hid hb1;have HQW : Hid (q ≤ W.heap.size) := Nat.le_of_lt h.box.size;have EI := hid (hEI.later hb1);have FI := hid (hFI.later hb1);have BI := hid (FrTT.in (show FrTT bb W.heap.size W (some ⟨bb, 0, none⟩) s.bx.length s.bx from ⟨_, h.flow.hnd.fr⟩) |>.later hb1);have c1 := h.box.c 1 rfl;have cz := h.box.size;have p1 := h.flow.box.c 1 rfl;have p2 := h.flow.box.c 2 rfl;have p3 := h.flow.box.c 3 rfl;have p4 := h.flow.box.c 4 rfl;have p5 := h.flow.box.c 5 rfl;have p6 := h.flow.box.c 6 rfl;have p7 := h.flow.box.c 7 rfl;have pz := h.flow.box.size;rw [he] at p5;rw [hf] at p6;rw [hu] at p7;have HXP := hid XP;have HRW := hid (h.sci.raw h.few);clear h h1 hb1 XP he hf hu hEI hFI;go_enter Tryz.func112, Tryz.ntmps112
 go_upto_region 2 with fail
 rw [← H1.out];clear H1 c1 cz p1 p2 p3 p4 p5 p6 p7 pz;have x0 := HXP.out.c 0 rfl;have x1 := HXP.out.c 1 rfl;have x2 := HXP.out.c 2 rfl;have x3 := HXP.out.c 3 rfl;have x4 := HXP.out.c 4 rfl;have x5 := HXP.out.c 5 rfl;have x6 := HXP.out.c 6 rfl;have xz := HXP.out.size;have HR64 : Hid (∀ t ∈ s.em, Ints64 (rowOut t)) := fun t ht => (hR.em t ht).row
 have HLS : Hid (∀ k, (listW ⟨#[111, 117, 116]⟩ ((s.em.take k).map rowOut)).size ≤ 200000000) := fun k => list_size (by decide) (by rw [List.length_map, List.length_take]; have : s.em.length ≤ 900000 := (by have := HRW.out.em; omega); omega) (fun r hr => by
  obtain ⟨t, ht, rfl⟩ := List.mem_map.1 hr;exact ⟨by simp [rowOut], HR64.out t (List.mem_of_mem_take ht)⟩)
 have hll9 : s.em.length ≤ 900000 := (by have := HRW.out.em; omega);clear hR;obtain ⟨l, hl⟩ : ∃ l, l = s.em := ⟨_, rfl⟩;rw [← hl] at HR64 HLS hll9 EI x4 ⊢;have HL := hid hl;clear hl;go_wp2
 go_loopw [8, 45] (fun u i wr => ∃ k : Nat, k ≤ l.length ∧ i = .int .i64 k ∧ u = .string (listW ⟨#[111, 117, 116]⟩ ((l.take k).map rowOut)) ∧ Hid (Below W1.heap.size W1 wr)) (fun _ i _ => l.length - (intOf i).toNat)
 case atStart => exact ⟨0, Nat.zero_le _, rfl, by rw [List.take_zero, List.map_nil, listW_nil], Below.refl _ _⟩
 case round =>
  obtain ⟨k, hk, rfl, rfl, hB⟩ := hrel;have hsz := hid (HLS.out k)
  by_cases hlt : k < l.length
  ·obtain ⟨b, off, rfl, hb, hc⟩ := kOu_at EI.out hlt;obtain ⟨d0, d1, d2⟩ := hc k hlt;have e0 := (hB.out.cell (p := ⟨b, off + k * 3, none⟩) hb).trans d0;have e1 := (hB.out.cell (p := ⟨b, off + k * 3 + 1, none⟩) hb).trans d1;have e2 := (hB.out.cell (p := ⟨b, off + k * 3 + 2, none⟩) hb).trans d2;have hbz : b < wr.heap.size := Nat.lt_of_lt_of_le hb hB.out.size;have h64 := HR64.out (el l k) (el_mem hlt);have hsn : listW ⟨#[111, 117, 116]⟩ ((l.take (k + 1)).map rowOut) = listW ⟨#[111, 117, 116]⟩ ((l.take k).map rowOut) ++ (⟨#[32]⟩ ++ numsT ⟨#[58]⟩ (rowOut (el l k))) := by
    rw [take_succ_el hlt, List.map_append, List.map_cons, List.map_nil, listW_snoc]
   obtain ⟨acc, hacc⟩ : ∃ acc, acc = listW ⟨#[111, 117, 116]⟩ ((l.take k).map rowOut) := ⟨_, rfl⟩;rw [← hacc] at hsn ⊢;have hal : acc.size ≤ 200000000 := by rw [hacc]; exact hsz.out
   obtain ⟨t, ht⟩ : ∃ t, t = el l k := ⟨_, rfl⟩;rw [← ht] at e0 e1 e2 h64 hsn;obtain ⟨a0, a1, a2⟩ := t;dsimp only [rowOut] at e0 e1 e2 h64 hsn;rw [row_three] at hsn;have n0 := h64 a0 (by simp);have n1 := h64 a1 (by simp);have n2 := h64 a2 (by simp);have HN0 := hid (fun W => num_any a0 n0.1 n0.2 W);have s0 : (tx (Lib.itoa a0)).size ≤ 100 := tx_num a0 n0.1 n0.2;have HN1 := hid (fun W => num_any a1 n1.1 n1.2 W);have s1 : (tx (Lib.itoa a1)).size ≤ 100 := tx_num a1 n1.1 n1.2;have HN2 := hid (fun W => num_any a2 n2.1 n2.2 W);have s2 : (tx (Lib.itoa a2)).size ≤ 100 := tx_num a2 n2.1 n2.2;obtain ⟨t0, ht0⟩ : ∃ x, x = tx (Lib.itoa a0) := ⟨_, rfl⟩;obtain ⟨t1, ht1⟩ : ∃ x, x = tx (Lib.itoa a1) := ⟨_, rfl⟩;obtain ⟨t2, ht2⟩ : ∃ x, x = tx (Lib.itoa a2) := ⟨_, rfl⟩;rw [← ht0, ← ht1, ← ht2] at hsn;rw [← ht0] at HN0 s0;rw [← ht1] at HN1 s1;rw [← ht2] at HN2 s2;have HSN := hid hsn;obtain ⟨W2, h2⟩ : ∃ V, V = wr.alloc (.cells #[.int .i64 a0, .int .i64 a1, .int .i64 a2] 138) := ⟨_, rfl⟩;have XV : Bx W2 wr.heap.size [.int .i64 a0, .int .i64 a1, .int .i64 a2] := by rw [h2]; exact Bx.new [.int .i64 a0, .int .i64 a1, .int .i64 a2] _ rfl
   have hb2 : Below wr.heap.size wr W2 := by rw [h2]; exact below1 _ _
   have H2 := hid h2;have HX := hid XV;have HB2 := hid (hB.out.trans (hb2.mono hB.out.size));clear hacc ht h64 hsn h2 XV hb2 ht0 ht1 ht2 n0 n1 n2 d0 d1 d2 hc hsz
   go_upto_region 12 with fail
   rw [← H2.out];clear H2 e0 e1 e2;have hNE := later_some W2;have x0 := HX.out.at 0 rfl;have x1 := HX.out.at 1 rfl;have x2 := HX.out.at 2 rfl;refine wp_region_later W2 (by kernel_rfl) (by kernel_rfl) (Below.refl _ _) ?_
   repeat (go_big_quiet_step (first | (go_at_call 73; first | (with_reducible exact Calls.later (HN0.out _)) | (with_reducible exact Calls.later (HN1.out _)) | (with_reducible exact Calls.later (HN2.out _)))))
   refine wpQuiet_nil ?_;rintro w4 ⟨⟨w5, hb4⟩, hw5⟩;obtain rfl : w4 = w5 := hw5;clear x0 x1 x2 hNE;have HB4 := hid (HB2.out.trans (hb4.mono HB2.out.size));clear hb4;go_wp2;go_roundw
   case rel => exact ⟨k + 1, by omega, by go_num, by rw [HSN.out], HB4⟩
   case measure => simp [intOf]; omega
  ·obtain rfl : k = l.length := by omega
   rw [List.take_length];obtain ⟨T, hT⟩ : ∃ T, T = listW ⟨#[111, 117, 116]⟩ (l.map rowOut) := ⟨_, rfl⟩;rw [← hT];have HT := hid hT;have HB2 := hid hB.out;clear hT;go_wp2;refine bodyPost_ret (v := .string T) (by simp [results, Tryz.results112, go_sem]) rfl ?_;exact ⟨by rw [HT.out, HL.out], bb, xs, ev, fv, uv, P1.out.later HB2.out, (HB1.out.mono HQW.out).trans (HB2.out.mono (Nat.le_trans HQW.out HB1.out.size))⟩
set_option maxRecDepth 100000 in
set_option maxHeartbeats 8000000 in
theorem tells_lost (q : Nat) (W : World) (o : Option Addr) (c : Nat) (us : List LNode) (hi lo p bb : Nat) (xs : List Value) (ev fv uv : Value) (s : PP) (n : Nat) (h : QR q W o c us hi lo p bb xs ev fv uv s n) (go : Option Addr) (gn gc : Nat) (hR : RgI s) :
  Calls Tryz.prog 112 #[.pointer (some ⟨q, 0, none⟩), .string ⟨#[108, 111, 115, 116]⟩, .slice go gn gc] W (AnsQR q W o c us hi lo p (listW ⟨#[108, 111, 115, 116]⟩ (s.fa.map rowLost)) s n) := by
 obtain ⟨eo, ec, he, _, hEI⟩ := h.flow.emo.in;obtain ⟨fo, fc, hf, _, hFI⟩ := h.flow.fao.in;obtain ⟨uo, uc, hu, _, _⟩ := h.flow.fuo.in;obtain ⟨W1, h1⟩ : ∃ V, V = W.alloc (.cells #[.int .i64 s.ti, .int .i64 s.it, .bool s.cl, .slice (some ⟨bb, 0, none⟩) s.bx.length s.bx.length, .slice eo s.em.length ec, .slice fo s.fa.length fc, .slice uo s.fu.length uc] 48) := ⟨_, rfl⟩;have hb1 : Below W.heap.size W W1 := by rw [h1]; exact below1 _ _
 have XP : Bx W1 W.heap.size [.int .i64 s.ti, .int .i64 s.it, .bool s.cl, .slice (some ⟨bb, 0, none⟩) s.bx.length s.bx.length, .slice eo s.em.length ec, .slice fo s.fa.length fc, .slice uo s.fu.length uc] := by rw [h1]; exact Bx.new [.int .i64 s.ti, .int .i64 s.it, .bool s.cl, .slice (some ⟨bb, 0, none⟩) s.bx.length s.bx.length, .slice eo s.em.length ec, .slice fo s.fa.length fc, .slice uo s.fu.length uc] _ rfl
 have H1 := hid h1;have P1 := hid (h.later hb1);have HB1 := hid hb1;have HQW : Hid (q ≤ W.heap.size) := Nat.le_of_lt h.box.size;have EI := hid (hEI.later hb1);have FI := hid (hFI.later hb1);have BI := hid (FrTT.in (show FrTT bb W.heap.size W (some ⟨bb, 0, none⟩) s.bx.length s.bx from ⟨_, h.flow.hnd.fr⟩) |>.later hb1);have c1 := h.box.c 1 rfl;have cz := h.box.size;have p1 := h.flow.box.c 1 rfl;have p2 := h.flow.box.c 2 rfl;have p3 := h.flow.box.c 3 rfl;have p4 := h.flow.box.c 4 rfl;have p5 := h.flow.box.c 5 rfl;have p6 := h.flow.box.c 6 rfl;have p7 := h.flow.box.c 7 rfl;have pz := h.flow.box.size;rw [he] at p5;rw [hf] at p6;rw [hu] at p7;have HXP := hid XP;have HRW := hid (h.sci.raw h.few);clear h h1 hb1 XP he hf hu hEI hFI;go_enter Tryz.func112, Tryz.ntmps112
 go_upto_region 2 with fail
 rw [← H1.out];clear H1 c1 cz p1 p2 p3 p4 p5 p6 p7 pz;have x0 := HXP.out.c 0 rfl;have x1 := HXP.out.c 1 rfl;have x2 := HXP.out.c 2 rfl;have x3 := HXP.out.c 3 rfl;have x4 := HXP.out.c 4 rfl;have x5 := HXP.out.c 5 rfl;have x6 := HXP.out.c 6 rfl;have xz := HXP.out.size;have HR64 : Hid (∀ t ∈ s.fa, Ints64 (rowLost t)) := fun t ht => (hR.fa t ht).row
 have HLS : Hid (∀ k, (listW ⟨#[108, 111, 115, 116]⟩ ((s.fa.take k).map rowLost)).size ≤ 200000000) := fun k => list_size (by decide) (by rw [List.length_map, List.length_take]; have : s.fa.length ≤ 900000 := (by have := HRW.out.tot; omega); omega) (fun r hr => by
  obtain ⟨t, ht, rfl⟩ := List.mem_map.1 hr;exact ⟨by simp [rowLost], HR64.out t (List.mem_of_mem_take ht)⟩)
 have hll9 : s.fa.length ≤ 900000 := (by have := HRW.out.tot; omega);clear hR;obtain ⟨l, hl⟩ : ∃ l, l = s.fa := ⟨_, rfl⟩;rw [← hl] at HR64 HLS hll9 FI x5 ⊢;have HL := hid hl;clear hl;go_wp2
 go_loopw [11, 72] (fun u i wr => ∃ k : Nat, k ≤ l.length ∧ i = .int .i64 k ∧ u = .string (listW ⟨#[108, 111, 115, 116]⟩ ((l.take k).map rowLost)) ∧ Hid (Below W1.heap.size W1 wr)) (fun _ i _ => l.length - (intOf i).toNat)
 case atStart => exact ⟨0, Nat.zero_le _, rfl, by rw [List.take_zero, List.map_nil, listW_nil], Below.refl _ _⟩
 case round =>
  obtain ⟨k, hk, rfl, rfl, hB⟩ := hrel;have hsz := hid (HLS.out k)
  by_cases hlt : k < l.length
  ·obtain ⟨b, off, rfl, hb, hc⟩ := kLo_at FI.out hlt;obtain ⟨d0, d1, d2, d3⟩ := hc k hlt;have e0 := (hB.out.cell (p := ⟨b, off + k * 4, none⟩) hb).trans d0;have e1 := (hB.out.cell (p := ⟨b, off + k * 4 + 1, none⟩) hb).trans d1;have e2 := (hB.out.cell (p := ⟨b, off + k * 4 + 2, none⟩) hb).trans d2;have e3 := (hB.out.cell (p := ⟨b, off + k * 4 + 3, none⟩) hb).trans d3;have hbz : b < wr.heap.size := Nat.lt_of_lt_of_le hb hB.out.size;have h64 := HR64.out (el l k) (el_mem hlt);have hsn : listW ⟨#[108, 111, 115, 116]⟩ ((l.take (k + 1)).map rowLost) = listW ⟨#[108, 111, 115, 116]⟩ ((l.take k).map rowLost) ++ (⟨#[32]⟩ ++ numsT ⟨#[58]⟩ (rowLost (el l k))) := by
    rw [take_succ_el hlt, List.map_append, List.map_cons, List.map_nil, listW_snoc]
   obtain ⟨acc, hacc⟩ : ∃ acc, acc = listW ⟨#[108, 111, 115, 116]⟩ ((l.take k).map rowLost) := ⟨_, rfl⟩;rw [← hacc] at hsn ⊢;have hal : acc.size ≤ 200000000 := by rw [hacc]; exact hsz.out
   obtain ⟨t, ht⟩ : ∃ t, t = el l k := ⟨_, rfl⟩;rw [← ht] at e0 e1 e2 e3 h64 hsn;obtain ⟨a0, a1, a2, a3⟩ := t;dsimp only [rowLost] at e0 e1 e2 e3 h64 hsn;rw [row_four] at hsn;have n0 := h64 a0 (by simp);have n1 := h64 a1 (by simp);have n2 := h64 a2 (by simp);have n3 := h64 a3 (by simp);have HN0 := hid (fun W => num_any a0 n0.1 n0.2 W);have s0 : (tx (Lib.itoa a0)).size ≤ 100 := tx_num a0 n0.1 n0.2;have HN1 := hid (fun W => num_any a1 n1.1 n1.2 W);have s1 : (tx (Lib.itoa a1)).size ≤ 100 := tx_num a1 n1.1 n1.2;have HN2 := hid (fun W => num_any a2 n2.1 n2.2 W);have s2 : (tx (Lib.itoa a2)).size ≤ 100 := tx_num a2 n2.1 n2.2;have HN3 := hid (fun W => num_any a3 n3.1 n3.2 W);have s3 : (tx (Lib.itoa a3)).size ≤ 100 := tx_num a3 n3.1 n3.2;obtain ⟨t0, ht0⟩ : ∃ x, x = tx (Lib.itoa a0) := ⟨_, rfl⟩;obtain ⟨t1, ht1⟩ : ∃ x, x = tx (Lib.itoa a1) := ⟨_, rfl⟩;obtain ⟨t2, ht2⟩ : ∃ x, x = tx (Lib.itoa a2) := ⟨_, rfl⟩;obtain ⟨t3, ht3⟩ : ∃ x, x = tx (Lib.itoa a3) := ⟨_, rfl⟩;rw [← ht0, ← ht1, ← ht2, ← ht3] at hsn;rw [← ht0] at HN0 s0;rw [← ht1] at HN1 s1;rw [← ht2] at HN2 s2;rw [← ht3] at HN3 s3;have HSN := hid hsn;obtain ⟨W2, h2⟩ : ∃ V, V = wr.alloc (.cells #[.int .i64 a0, .int .i64 a1, .int .i64 a2, .int .i64 a3] 141) := ⟨_, rfl⟩;have XV : Bx W2 wr.heap.size [.int .i64 a0, .int .i64 a1, .int .i64 a2, .int .i64 a3] := by rw [h2]; exact Bx.new [.int .i64 a0, .int .i64 a1, .int .i64 a2, .int .i64 a3] _ rfl
   have hb2 : Below wr.heap.size wr W2 := by rw [h2]; exact below1 _ _
   have H2 := hid h2;have HX := hid XV;have HB2 := hid (hB.out.trans (hb2.mono hB.out.size));clear hacc ht h64 hsn h2 XV hb2 ht0 ht1 ht2 ht3 n0 n1 n2 n3 d0 d1 d2 d3 hc hsz
   go_upto_region 20 with fail
   rw [← H2.out];clear H2 e0 e1 e2 e3;have hNE := later_some W2;have x0 := HX.out.at 0 rfl;have x1 := HX.out.at 1 rfl;have x2 := HX.out.at 2 rfl;have x3 := HX.out.at 3 rfl;refine wp_region_later W2 (by kernel_rfl) (by kernel_rfl) (Below.refl _ _) ?_
   repeat (go_big_quiet_step (first | (go_at_call 73; first | (with_reducible exact Calls.later (HN0.out _)) | (with_reducible exact Calls.later (HN1.out _)) | (with_reducible exact Calls.later (HN2.out _)) | (with_reducible exact Calls.later (HN3.out _)))))
   refine wpQuiet_nil ?_;rintro w4 ⟨⟨w5, hb4⟩, hw5⟩;obtain rfl : w4 = w5 := hw5;clear x0 x1 x2 x3 hNE;have HB4 := hid (HB2.out.trans (hb4.mono HB2.out.size));clear hb4;go_wp2;go_roundw
   case rel => exact ⟨k + 1, by omega, by go_num, by rw [HSN.out], HB4⟩
   case measure => simp [intOf]; omega
  ·obtain rfl : k = l.length := by omega
   rw [List.take_length];obtain ⟨T, hT⟩ : ∃ T, T = listW ⟨#[108, 111, 115, 116]⟩ (l.map rowLost) := ⟨_, rfl⟩;rw [← hT];have HT := hid hT;have HB2 := hid hB.out;clear hT;go_wp2;refine bodyPost_ret (v := .string T) (by simp [results, Tryz.results112, go_sem]) rfl ?_;exact ⟨by rw [HT.out, HL.out], bb, xs, ev, fv, uv, P1.out.later HB2.out, (HB1.out.mono HQW.out).trans (HB2.out.mono (Nat.le_trans HQW.out HB1.out.size))⟩
set_option maxRecDepth 100000 in
set_option maxHeartbeats 8000000 in
theorem tells_mean (q : Nat) (W : World) (o : Option Addr) (c : Nat) (us : List LNode) (hi lo p bb : Nat) (xs : List Value) (ev fv uv : Value) (s : PP) (n : Nat) (h : QR q W o c us hi lo p bb xs ev fv uv s n) (go : Option Addr) (gc : Nat) (k v : Int) (hz : kI.In W.heap.size W go ([k, v] : List Int)) :
  Calls Tryz.prog 112 #[.pointer (some ⟨q, 0, none⟩), .string ⟨#[109, 101, 97, 110]⟩, .slice go 2 gc] W (AnsQR q W o c us hi lo p (meanT (us.map valNode) k v) s n) := by
 obtain ⟨eo, ec, he, _, hEI⟩ := h.flow.emo.in;obtain ⟨fo, fc, hf, _, hFI⟩ := h.flow.fao.in;obtain ⟨uo, uc, hu, _, _⟩ := h.flow.fuo.in;obtain ⟨W1, h1⟩ : ∃ V, V = W.alloc (.cells #[.int .i64 s.ti, .int .i64 s.it, .bool s.cl, .slice (some ⟨bb, 0, none⟩) s.bx.length s.bx.length, .slice eo s.em.length ec, .slice fo s.fa.length fc, .slice uo s.fu.length uc] 48) := ⟨_, rfl⟩;have hb1 : Below W.heap.size W W1 := by rw [h1]; exact below1 _ _
 have XP : Bx W1 W.heap.size [.int .i64 s.ti, .int .i64 s.it, .bool s.cl, .slice (some ⟨bb, 0, none⟩) s.bx.length s.bx.length, .slice eo s.em.length ec, .slice fo s.fa.length fc, .slice uo s.fu.length uc] := by rw [h1]; exact Bx.new [.int .i64 s.ti, .int .i64 s.it, .bool s.cl, .slice (some ⟨bb, 0, none⟩) s.bx.length s.bx.length, .slice eo s.em.length ec, .slice fo s.fa.length fc, .slice uo s.fu.length uc] _ rfl
 have H1 := hid h1;have P1 := hid (h.later hb1);have HB1 := hid hb1;have HQW : Hid (q ≤ W.heap.size) := Nat.le_of_lt h.box.size;have EI := hid (hEI.later hb1);have FI := hid (hFI.later hb1);have BI := hid (FrTT.in (show FrTT bb W.heap.size W (some ⟨bb, 0, none⟩) s.bx.length s.bx from ⟨_, h.flow.hnd.fr⟩) |>.later hb1);have c1 := h.box.c 1 rfl;have cz := h.box.size;have p1 := h.flow.box.c 1 rfl;have p2 := h.flow.box.c 2 rfl;have p3 := h.flow.box.c 3 rfl;have p4 := h.flow.box.c 4 rfl;have p5 := h.flow.box.c 5 rfl;have p6 := h.flow.box.c 6 rfl;have p7 := h.flow.box.c 7 rfl;have pz := h.flow.box.size;rw [he] at p5;rw [hf] at p6;rw [hu] at p7;have HXP := hid XP;have HRW := hid (h.sci.raw h.few);obtain ⟨nb, noff, rfl, hnb, hnc⟩ := ints_at hz (k := 0) (by simp);have d0 : W1.cell? ⟨nb, noff, none⟩ = some (.int .i64 k) := (hb1.cell (p := ⟨nb, noff, none⟩) hnb).trans (hnc 0 (by simp));have d1 : W1.cell? ⟨nb, noff + 1, none⟩ = some (.int .i64 v) := (hb1.cell (p := ⟨nb, noff + 1, none⟩) hnb).trans (hnc 1 (by simp));have HNB : Hid (nb < W1.heap.size) := Nat.lt_of_lt_of_le hnb hb1.size;have D0 := hid d0;have D1 := hid d1;clear hz hnc d0 d1;clear h h1 hb1 XP he hf hu hEI hFI;go_enter Tryz.func112, Tryz.ntmps112
 go_upto_region 2 with fail
 rw [← H1.out];clear H1 c1 cz p1 p2 p3 p4 p5 p6 p7 pz;have HC := hid (specMean_is o c us k v W1.drew (P1.out.fit.roomy (P1.out.later (Below.refl _ W1).drew).gr) (P1.out.later (Below.refl _ W1).drew).gr.in);have C0 : Hid (W1.cell? ⟨q, 0, none⟩ = some (.slice o us.length c) ∧ W1.cell? ⟨nb, noff, none⟩ = some (.int .i64 k) ∧ W1.cell? ⟨nb, noff + 1, none⟩ = some (.int .i64 v)) := ⟨P1.out.box.c 0 rfl, D0.out, D1.out⟩;have HQ1 : Hid (q < W1.heap.size) := P1.out.box.size;have HL := hid (meanR_len (us.map valNode) k v);have H64 := hid (meanR_row (us.map valNode) k v);obtain ⟨R, hR⟩ : ∃ R, R = meanR (us.map valNode) k v := ⟨_, rfl⟩;have HT : Hid (meanT (us.map valNode) k v = if R.2 = true then listW ⟨#[109, 101, 97, 110]⟩ (R.1.map rowEmit) else noT) := by rw [Hid, hR]; rfl
 rw [← hR] at HC HL H64;clear hR
 go_upto_region 23 with fail
 refine wp_walks (zl := [15]) (S := fun Y => Y.cell? ⟨q, 0, none⟩ = some (.slice o us.length c) ∧ Y.cell? ⟨nb, noff, none⟩ = some (.int .i64 k) ∧ Y.cell? ⟨nb, noff + 1, none⟩ = some (.int .i64 v)) (by kernel_rfl) C0.out (fun hH => ?_);refine Walks.tk 0 hH ?_;refine Walks.tk 1 hH ?_;refine Walks.tk 2 hH ?_;refine Walks.tk 3 hH ?_;refine Walks.tk 4 hH ?_;refine Walks.tk 5 hH ?_;refine Walks.tk 6 hH ?_;refine Walks.tk 7 hH ?_;refine Walks.tk 8 hH ?_;refine Walks.tk 9 hH ?_;refine Walks.on 10 fun K hK => ?_
 go_simp;refine HC.out.mono ?_;rintro e w2 ⟨⟨ro, rc, rfl, hF⟩, hb2⟩;have hbx : Below W1.heap.size W1 w2 := (Below.refl _ W1).drew.trans hb2;have E3 : Hid (w2.cell? ⟨q, 0, none⟩ = some (.slice o us.length c) ∧ w2.cell? ⟨nb, noff, none⟩ = some (.int .i64 k) ∧ w2.cell? ⟨nb, noff + 1, none⟩ = some (.int .i64 v)) := ⟨(hbx.cell (p := ⟨q, 0, none⟩) HQ1.out).trans C0.out.1, (hbx.cell (p := ⟨nb, noff, none⟩) HNB.out).trans C0.out.2.1, (hbx.cell (p := ⟨nb, noff + 1, none⟩) HNB.out).trans C0.out.2.2⟩;have HB2 := hid hbx;have HF := hid hF.in;clear hb2 hbx HC hF;refine hK.out _ _ (fun _ => E3.out) (fun _ => ?_);clear hK K;refine Walks.on 11 fun K hK => ?_
 go_simp;refine hK.out _ _ (fun _ => E3.out) (fun hH => ?_);clear hK K;refine Walks.tk 13 E3.out ?_;refine Walks.on 12 fun K hK => ?_
 go_simp;refine hK.out _ _ (fun _ => E3.out) (fun hH => ?_);clear hK K;refine Walks.on 14 fun K hK => ?_
 go_simp;refine hK.out _ _ (fun _ => E3.out) (fun hH => ?_);clear hK K;refine Walks.on 15 fun K hK => ?_
 go_simp;refine hK.out _ _ (fun _ => E3.out) (fun hH => ?_);clear hK K;refine Walks.done (by kernel_rfl) ?_ _;obtain ⟨l, R2⟩ := R;dsimp only at HL H64 HT HF ⊢
 cases R2 with
 | false =>
  go_wp2;refine bodyPost_ret (v := .string ⟨#[110, 111]⟩) (by simp [results, Tryz.results112, go_sem]) rfl ?_;exact ⟨by rw [HT.out, if_neg (by decide)]; rfl, bb, xs, ev, fv, uv, P1.out.later HB2.out, (HB1.out.mono HQW.out).trans (HB2.out.mono (Nat.le_trans HQW.out HB1.out.size))⟩
 | true =>
  have HTT : Hid (meanT (us.map valNode) k v = listW ⟨#[109, 101, 97, 110]⟩ (l.map rowEmit)) := by rw [Hid, HT.out, if_pos rfl]
  have hll9 : l.length ≤ 400 := HL.out;have HR64 : Hid (∀ t ∈ l, Ints64 (rowEmit t)) := H64.out;have HLS : Hid (∀ k, (listW ⟨#[109, 101, 97, 110]⟩ ((l.take k).map rowEmit)).size ≤ 200000000) := fun k => list_size (by decide) (by rw [List.length_map, List.length_take]; have := HL.out; omega) (fun r hr => by
   obtain ⟨t, ht, rfl⟩ := List.mem_map.1 hr;exact ⟨by simp [rowEmit], HR64.out t (List.mem_of_mem_take ht)⟩)
  go_wp2
  go_loopw [16, 117] (fun u i wr => ∃ k2 : Nat, k2 ≤ l.length ∧ i = .int .i64 k2 ∧ u = .string (listW ⟨#[109, 101, 97, 110]⟩ ((l.take k2).map rowEmit)) ∧ Hid (Below w2.heap.size w2 wr)) (fun _ i _ => l.length - (intOf i).toNat)
  case atStart => exact ⟨0, Nat.zero_le _, rfl, by rw [List.take_zero, List.map_nil, listW_nil], Below.refl _ _⟩
  case round =>
   obtain ⟨k2, hk, rfl, rfl, hB⟩ := hrel;have hsz := hid (HLS.out k2)
   by_cases hlt : k2 < l.length
   ·obtain ⟨b, off, rfl, hb, hc⟩ := kE_at HF.out hlt;obtain ⟨d0, d1⟩ := hc k2 hlt;have e0 := (hB.out.cell (p := ⟨b, off + k2 * 2, none⟩) hb).trans d0;have e1 := (hB.out.cell (p := ⟨b, off + k2 * 2 + 1, none⟩) hb).trans d1;have hbz : b < wr.heap.size := Nat.lt_of_lt_of_le hb hB.out.size;have h64 := HR64.out (el l k2) (el_mem hlt);have hsn : listW ⟨#[109, 101, 97, 110]⟩ ((l.take (k2 + 1)).map rowEmit) = listW ⟨#[109, 101, 97, 110]⟩ ((l.take k2).map rowEmit) ++ (⟨#[32]⟩ ++ numsT ⟨#[58]⟩ (rowEmit (el l k2))) := by
     rw [take_succ_el hlt, List.map_append, List.map_cons, List.map_nil, listW_snoc]
    obtain ⟨acc, hacc⟩ : ∃ acc, acc = listW ⟨#[109, 101, 97, 110]⟩ ((l.take k2).map rowEmit) := ⟨_, rfl⟩;rw [← hacc] at hsn ⊢;have hal : acc.size ≤ 200000000 := by rw [hacc]; exact hsz.out
    obtain ⟨t, ht⟩ : ∃ t, t = el l k2 := ⟨_, rfl⟩;rw [← ht] at e0 e1 h64 hsn;obtain ⟨a0, a1⟩ := t;dsimp only [rowEmit] at e0 e1 h64 hsn;rw [row_two] at hsn;have n0 := h64 a0 (by simp);have n1 := h64 a1 (by simp);have HN0 := hid (fun W => num_any a0 n0.1 n0.2 W);have s0 : (tx (Lib.itoa a0)).size ≤ 100 := tx_num a0 n0.1 n0.2;have HN1 := hid (fun W => num_any a1 n1.1 n1.2 W);have s1 : (tx (Lib.itoa a1)).size ≤ 100 := tx_num a1 n1.1 n1.2;obtain ⟨t0, ht0⟩ : ∃ x, x = tx (Lib.itoa a0) := ⟨_, rfl⟩;obtain ⟨t1, ht1⟩ : ∃ x, x = tx (Lib.itoa a1) := ⟨_, rfl⟩;rw [← ht0, ← ht1] at hsn;rw [← ht0] at HN0 s0;rw [← ht1] at HN1 s1;have HSN := hid hsn;obtain ⟨W2, h2⟩ : ∃ V, V = wr.alloc (.cells #[.int .i64 a0, .int .i64 a1] 199) := ⟨_, rfl⟩;have XV : Bx W2 wr.heap.size [.int .i64 a0, .int .i64 a1] := by rw [h2]; exact Bx.new [.int .i64 a0, .int .i64 a1] _ rfl
    have hb2 : Below wr.heap.size wr W2 := by rw [h2]; exact below1 _ _
    have H2 := hid h2;have HX := hid XV;have HB5 := hid (hB.out.trans (hb2.mono hB.out.size));clear hacc ht h64 hsn h2 XV hb2 ht0 ht1 n0 n1 d0 d1 hc hsz
    go_upto_region 30 with fail
    rw [← H2.out];clear H2 e0 e1;have hNE := later_some W2;have x0 := HX.out.at 0 rfl;have x1 := HX.out.at 1 rfl;refine wp_region_later W2 (by kernel_rfl) (by kernel_rfl) (Below.refl _ _) ?_
    repeat (go_big_quiet_step (first | (go_at_call 73; first | (with_reducible exact Calls.later (HN0.out _)) | (with_reducible exact Calls.later (HN1.out _)))))
    refine wpQuiet_nil ?_;rintro w4 ⟨⟨w5, hb4⟩, hw5⟩;obtain rfl : w4 = w5 := hw5;clear x0 x1 hNE;have HB4 := hid (HB5.out.trans (hb4.mono HB5.out.size));clear hb4;go_wp2;go_roundw
    case rel => exact ⟨k2 + 1, by omega, by go_num, by rw [HSN.out], HB4⟩
    case measure => simp [intOf]; omega
   ·obtain rfl : k2 = l.length := by omega
    rw [List.take_length];clear HT;obtain ⟨T, hT⟩ : ∃ T, T = listW ⟨#[109, 101, 97, 110]⟩ (l.map rowEmit) := ⟨_, rfl⟩;rw [← hT];have HT := hid hT;have HB6 := hid hB.out;clear hT;go_wp2;refine bodyPost_ret (v := .string T) (by simp [results, Tryz.results112, go_sem]) rfl ?_;exact ⟨by rw [HTT.out, HT.out], bb, xs, ev, fv, uv, P1.out.later (HB2.out.trans (HB6.out.mono HB2.out.size)), (HB1.out.mono HQW.out).trans ((HB2.out.trans (HB6.out.mono HB2.out.size)).mono (Nat.le_trans HQW.out HB1.out.size))⟩
end
section
open Go.RowKit

/-- The kind among the first words. -/
def kindAt (x : ByteArray) : Nat → Int
 | 0 => 0
 | k + 1 => if 0 < k ∧ x = wordB (k : Int) then (k : Int) else kindAt x k
theorem kindAt_five (x : ByteArray) : kindAt x 5 = match kindO x with | some k => k | none => 0 := by
 by_cases h0 : x = wordB ((0 : Nat) : Int)
 ·subst h0; decide
 by_cases h1 : x = wordB ((1 : Nat) : Int)
 ·subst h1; decide
 by_cases h2 : x = wordB ((2 : Nat) : Int)
 ·subst h2; decide
 by_cases h3 : x = wordB ((3 : Nat) : Int)
 ·subst h3; decide
 by_cases h4 : x = wordB ((4 : Nat) : Int)
 ·subst h4; decide
 rw [kindO_none fun j hj => by
  rcases (show j = 0 ∨ j = 1 ∨ j = 2 ∨ j = 3 ∨ j = 4 from by omega) with rfl | rfl | rfl | rfl | rfl
  ·exact h0
  ·exact h1
  ·exact h2
  ·exact h3
  ·exact h4]
 have g1 : x ≠ wordB 1 := h1;have g2 : x ≠ wordB 2 := h2;have g3 : x ≠ wordB 3 := h3;have g4 : x ≠ wordB 4 := h4
 simp [kindAt, g1, g2, g3, g4]
theorem kindO_word {x : ByteArray} {k : Int} (h : kindO x = some k) : x = wordB k := by
 unfold kindO at h
 split at h
 ·next e => obtain rfl : 0 = k := Option.some.inj h; rw [e]; rfl
 ·split at h
  ·next e => obtain rfl : 1 = k := Option.some.inj h; exact e
  ·split at h
   ·next e => obtain rfl : 2 = k := Option.some.inj h; exact e
   ·split at h
    ·next e => obtain rfl : 3 = k := Option.some.inj h; exact e
    ·split at h
     ·next e => obtain rfl : 4 = k := Option.some.inj h; exact e
     ·cases h
theorem hasT_kind {nm : ByteArray} {kd sa sb cp : Int} {nx : List Int} (h : hasT nm kd sa sb cp nx = true) : kd ≠ 0 := by
 obtain ⟨j, h1, h2, rfl⟩ := (hasT_has h).kin
 omega
theorem num_text {s : ByteArray} {n : Int} (h : numL s.data.toList = some n) : s = tx (Lib.itoa n) := by
 have := (itoa_numL h).1
 apply ba_ext
 rw [this]; rfl
theorem nums_texts : ∀ {ws : List ByteArray} {l : List Int}, numsO ws = some l → ws = numBs l
 | [], l, h => by obtain rfl : [] = l := Option.some.inj h; rfl
 | x :: r, l, h => by
  rw [numsO] at h
  cases hx : numL x.data.toList with
  | none => rw [hx] at h; cases h
  | some n =>
   rw [hx] at h;dsimp only at h
   cases hr : numsO r with
   | none => rw [hr] at h; cases h
   | some b =>
    rw [hr] at h;obtain rfl : n :: b = l := Option.some.inj h;rw [num_text hx, nums_texts hr]; rfl
theorem next_text {s : ByteArray} {nx : List Int} (h : nextR s = (nx, true)) : s = nextT nx := by
 unfold nextR at h
 split at h
 ·next e =>
  obtain rfl : [] = nx := by simpa using h
  rw [e]; rfl
 ·cases hn : numsO (splitB s 44) with
  | none => rw [numsQ_no hn] at h; simp at h
  | some l =>
   rw [numsQ_yes hn] at h;obtain rfl : l = nx := by simpa using h
   have hw := nums_texts hn;have hj := splitB_join s 44;have e44 : ((44 : UInt8).toNat : Int) = 44 := rfl;rw [e44, hw] at hj;have hp := splitB_pos s 44;rw [e44, hw, numBs_len] at hp;rw [nextT, if_neg (by omega)];exact hj.symm
theorem stageT_join (kd sa sb : Int) : stageT kd sa sb = joinB [wordB kd, tx (Lib.itoa sa), tx (Lib.itoa sb)] ⟨#[58]⟩ := by
 apply ba_ext
 simp only [stageT, numsT, numBs, ba_app, joinB_data, List.map_cons, List.map_nil, Lib.join_cons, Lib.joinTail, List.flatten_cons, List.flatten_nil, List.append_nil, List.append_assoc]
/-- The parts of a node's text have no blank. -/
theorem itoa_free {n : Int} {m : UInt8} (hm : m ≠ 45) (hd : digD m = false) : m ∉ Lib.itoa n := by
 have hdec : ∀ u, m ∉ Lib.decDigits u := fun u h => by rw [dec_all u m h] at hd; cases hd
 unfold Lib.itoa
 split
 ·intro h
  rcases List.mem_cons.1 h with h | h
  ·exact hm h
  ·exact hdec _ h
 ·exact hdec _
theorem mem_joinTail {m : UInt8} {sep : List UInt8} (hs : m ∉ sep) : ∀ {r : List (List UInt8)}, (∀ x ∈ r, m ∉ x) → m ∉ Lib.joinTail sep r
 | [], _ => by simp [Lib.joinTail]
 | x :: r, h => by
  have ih := mem_joinTail hs (r := r) fun y hy => h y (by simp [hy])
  simp only [Lib.joinTail, List.map_cons, List.flatten_cons, List.mem_append, not_or] at ih ⊢;exact ⟨⟨hs, h x (by simp)⟩, ih⟩
theorem mem_joinB {m : UInt8} {sep : ByteArray} (hs : m ∉ sep.data.toList) {r : List ByteArray} (h : ∀ x ∈ r, m ∉ x.data.toList) : m ∉ (joinB r sep).data.toList := by
 rw [joinB_data]
 cases r with
 | nil => simp [Lib.join_nil]
 | cons x r =>
  rw [List.map_cons, Lib.join_cons, List.mem_append, not_or];refine ⟨h x (by simp), mem_joinTail hs fun y hy => ?_⟩;obtain ⟨z, hz, rfl⟩ := List.mem_map.1 hy;exact h z (by simp [hz])
theorem tx_free {n : Int} {m : UInt8} (hm : m ≠ 45) (hd : digD m = false) : m ∉ (tx (Lib.itoa n)).data.toList := by
 have := itoa_free (n := n) hm hd
 simpa [tx] using this
theorem stageT_free (kd sa sb : Int) : (32 : UInt8) ∉ (stageT kd sa sb).data.toList := by
 rw [stageT_join];refine mem_joinB (by decide) fun x hx => ?_
 simp only [List.mem_cons, List.not_mem_nil, or_false] at hx
 rcases hx with rfl | rfl | rfl
 ·unfold wordB
  split
  ·decide
  ·split
   ·decide
   ·split
    ·decide
    ·split <;> decide
 ·exact tx_free (by decide) (by decide)
 ·exact tx_free (by decide) (by decide)
theorem nextT_free (nx : List Int) : (32 : UInt8) ∉ (nextT nx).data.toList := by
 unfold nextT
 split
 ·decide
 ·refine mem_joinB (by decide) fun x hx => ?_
  obtain ⟨z, _, rfl⟩ := List.mem_map.1 hx;exact tx_free (by decide) (by decide)
theorem name_free {nm : ByteArray} (h : nameB nm = true) : (32 : UInt8) ∉ nm.data.toList := by
 intro hm;obtain ⟨k, hk, e⟩ := List.getElem_of_mem hm;have hk' : k < nm.size := by rw [Array.length_toList] at hk; exact hk
 have e2 : nm[k]'hk' = 32 := e;have : nameB nm = false := nameB_no hk' (by rw [byteI_at hk', e2]; decide);rw [h] at this; cases this
/-- A node's text is cut into its five parts. -/
theorem node_parts {nm : ByteArray} {kd sa sb cp : Int} {nx : List Int} (h : nameB nm = true) : splitB (nodeB nm kd sa sb cp nx) 32 = [⟨#[110, 111, 100, 101]⟩, nm, stageT kd sa sb, tx (Lib.itoa cp), nextT nx] := by
 have := splitB_of_join (ps := [⟨#[110, 111, 100, 101]⟩, nm, stageT kd sa sb, tx (Lib.itoa cp), nextT nx]) (m := 32) (by simp) fun p hp => by
  simp only [List.mem_cons, List.not_mem_nil, or_false] at hp
  rcases hp with rfl | rfl | rfl | rfl | rfl
  ·decide
  ·exact name_free h
  ·exact stageT_free _ _ _
  ·exact tx_free (by decide) (by decide)
  ·exact nextT_free _
 exact this
theorem hasT_name {nm : ByteArray} {kd sa sb cp : Int} {nx : List Int} (h : hasT nm kd sa sb cp nx = true) : nameB nm = true := by
 simp only [hasT, Bool.and_eq_true] at h;exact h.1
/-- What is read, as the specification asks it. -/
theorem readR_as {s : ByteArray} {s0 s1 s2 s3 s4 t0 t1 t2 : ByteArray} {a b cp : Int} {nx : List Int} (h5 : splitB s 32 = [s0, s1, s2, s3, s4]) (h3 : splitB s2 58 = [t0, t1, t2]) (ha : numL t1.data.toList = some a) (hb : numL t2.data.toList = some b) (hc : numL s3.data.toList = some cp) (hn : nextR s4 = (nx, true)) :
  readR s = if hasT s1 (kindAt t0 5) a b cp nx = true ∧ nodeB s1 (kindAt t0 5) a b cp nx = s then ((s1, kindAt t0 5, a, b, cp, nx), true) else zeroN := by
 have hnums : numsO ([t0, t1, t2].drop 1) = some [a, b] := by simp [numsO, ha, hb]
 have hst := stageQ_two hnums;have e0 : el [t0, t1, t2] 0 = t0 := rfl;rw [e0] at hst;have hnr := numR_yes hc;have hsj := splitB_join s 32;have e32 : ((32 : UInt8).toNat : Int) = 32 := rfl;rw [e32, h5] at hsj;have hs2 := splitB_join s2 58;have e58 : ((58 : UInt8).toNat : Int) = 58 := rfl;rw [e58, h3] at hs2
 unfold readR
 rw [h5];have g0 : el [s0, s1, s2, s3, s4] 0 = s0 := rfl;have g1 : el [s0, s1, s2, s3, s4] 1 = s1 := rfl;have g2 : el [s0, s1, s2, s3, s4] 2 = s2 := rfl;have g3 : el [s0, s1, s2, s3, s4] 3 = s3 := rfl;have g4 : el [s0, s1, s2, s3, s4] 4 = s4 := rfl;rw [g0, g1, g2, g3, g4, h3, hn, hnr];have hkf := kindAt_five t0
 by_cases hc1 : hasT s1 (kindAt t0 5) a b cp nx = true ∧ nodeB s1 (kindAt t0 5) a b cp nx = s
 ·rw [if_pos hc1];obtain ⟨hh, hnb⟩ := hc1;have hp := node_parts (kd := kindAt t0 5) (sa := a) (sb := b) (cp := cp) (nx := nx) (hasT_name hh);rw [hnb, h5] at hp;obtain rfl : s0 = ⟨#[110, 111, 100, 101]⟩ := by simp only [List.cons.injEq] at hp; exact hp.1
  rw [if_pos ⟨rfl, rfl⟩];have hk0 := hasT_kind hh
  cases hko : kindO t0 with
  | none => rw [hko] at hkf; exact absurd hkf hk0
  | some k =>
   rw [hko] at hst hkf;dsimp only at hst hkf;rw [hst, ← hkf];dsimp only;rw [if_pos ⟨rfl, rfl, rfl, hh⟩]
 ·rw [if_neg hc1]
  by_cases hn0 : s0 = ⟨#[110, 111, 100, 101]⟩
  ·rw [if_pos ⟨rfl, hn0⟩]
   cases hko : kindO t0 with
   | none =>
    rw [hko] at hst;rw [hst, if_neg (fun h => by cases h.1)]
   | some k =>
    rw [hko] at hst hkf;dsimp only at hst hkf;rw [hst];dsimp only;rw [if_neg];rintro ⟨_, _, _, hh⟩;refine hc1 ⟨by rw [hkf]; exact hh, ?_⟩;rw [hkf, ← hsj, hn0];have w0 := kindO_word hko;have w1 := num_text ha;have w2 := num_text hb;have w3 := num_text hc;have w4 := next_text hn;have w5 : s2 = stageT k a b := by rw [stageT_join, ← w0, ← w1, ← w2, hs2]
    rw [nodeB, ← w5, ← w3, ← w4]
  ·rw [if_neg (fun h => hn0 h.2)]
theorem readR_five {s : ByteArray} (h : (splitB s 32).length ≠ 5) : readR s = zeroN := by rw [readR, if_neg (fun h2 => h h2.1)]
theorem readR_stage {s : ByteArray} (h : (stageQ (splitB (el (splitB s 32) 2) 58)).2 = false) : readR s = zeroN := by
 unfold readR
 split
 ·rw [if_neg (fun h2 => by rw [h] at h2; cases h2.1)]
 ·rfl
theorem readR_num {s : ByteArray} (h : (numR (el (splitB s 32) 3)).2 = false) : readR s = zeroN := by
 unfold readR
 split
 ·rw [if_neg (fun h2 => by rw [h] at h2; cases h2.2.1)]
 ·rfl
theorem readR_next {s : ByteArray} (h : (nextR (el (splitB s 32) 4)).2 = false) : readR s = zeroN := by
 unfold readR
 split
 ·rw [if_neg (fun h2 => by rw [h] at h2; cases h2.2.2.1)]
 ·rfl
theorem stage_three {ps : List ByteArray} (hp : 0 < ps.length) (h : ps.length ≠ 3) : (stageQ ps).2 = false := by
 cases hn : numsO (ps.drop 1) with
 | none => rw [stageQ_nums hn]
 | some l => rw [stageQ_len hn (by have := numsO_len hn; rw [List.length_drop] at this; omega)]
theorem stage_num {t0 t1 t2 : ByteArray} (h : numL t1.data.toList = none ∨ numL t2.data.toList = none) : (stageQ [t0, t1, t2]).2 = false := by
 have hn : numsO ([t0, t1, t2].drop 1) = none := by
  rcases h with h | h
  ·exact numsO_none (x := t1) (by simp) h
  ·exact numsO_none (x := t2) (by simp) h
 rw [stageQ_nums hn]
end
end Go.Proofs.YtdacedbfnlkghaaGreatDoor
