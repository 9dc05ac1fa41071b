
/- Running out: both sides. No conditions but those written. The walk of the law of RunOut: it returns true. No conditions but those written. The walk of the law of running out: it returns true. No conditions but those written. -/
import Derived.Test.YtllmpinmbajpgaaGreatDoorPFzbRnj
import Derived.Test.YtllmpinmbajpgaaGreatDoorPRnbMvk
import Derived.Test.YtllmpinmbajpgaaGreatDoorPMnHs
import Derived.Test.YtllmpinmbajpgaaGreatDoorPDppMf
namespace Go.Proofs.YtllmpinmbajpgaaGreatDoor
section
open Go.RowKit

/-- What running out answers. -/
def roR (gs : List PNode) (ms : List (Int × Int × Int)) (K : Nat) : PP × Int × Bool := if pipeB gs = true ∧ ms.length ≤ 300 then (itS gs K { (playP gs (srcP gs gs.length) ms (pp0 gs.length)).2 with cl := true }, (K : Int), true) else ({ ti := 0, it := 0, cl := false, bx := [], em := [], fa := [], fu := [] }, 0, false)
def AnsRo (w : World) (r : PP × Int × Bool) (e : Ending) (w' : World) : Prop :=
 (∃ bo bc eo ec fo fc uo uc, e = .returned (.tuple #[.agg #[.int .i64 r.1.ti, .int .i64 r.1.it, .bool r.1.cl, .slice bo r.1.bx.length bc, .slice eo r.1.em.length ec, .slice fo r.1.fa.length fc, .slice uo r.1.fu.length uc], .int .i64 r.2.1, .bool r.2.2]) ∧
  FrPipe w.heap.size w'.heap.size w' bo bc r.1.bx eo ec r.1.em fo fc r.1.fa uo uc r.1.fu) ∧ Below w.heap.size w w'
set_option maxRecDepth 100000 in
set_option maxHeartbeats 4000000 in
theorem implRun_any (ao : Option Addr) (cap : Nat) (ts : List LNode) (ea : Nat → Addr) (mo : Option Addr) (mc : Nat) (ms : List (Int × Int × Int)) (w : World) (hC : Roomy ts cap) (hE : Errs w ea) (hz : DIn dNode w.heap.size w ao ts) (hM : kMv.In w.heap.size w mo ms) (h64 : ∀ k, k < ms.length → (el ms k).1 ≤ 9223372036854775807) (K : Nat) (hK : pipeB (ts.map valNode) = true ∧ ms.length ≤ 300 → Halts (ts.map valNode) { (playP (ts.map valNode) (srcP (ts.map valNode) (ts.map valNode).length) ms (pp0 (ts.map valNode).length)).2 with cl := true } K) (hK2 : K ≤ 1000000000000000000) :
  Calls Tryz.prog 16 #[.slice ao ts.length cap, .slice mo ms.length mc] w (AnsRo w (roR (ts.map valNode) ms K)) := by
 have hb0 := below1 w (.cells #[.int .i64 0, .int .i64 0, .bool false, .slice none 0 0, .slice none 0 0, .slice none 0 0, .slice none 0 0] 32);obtain ⟨W0, hW0⟩ : ∃ W0, W0 = w.alloc (.cells #[.int .i64 0, .int .i64 0, .bool false, .slice none 0 0, .slice none 0 0, .slice none 0 0, .slice none 0 0] 32) := ⟨_, rfl⟩;have HW0 := hid hW0;have X0 : Bx W0 w.heap.size [.int .i64 0, .int .i64 0, .bool false, .slice none 0 0, .slice none 0 0, .slice none 0 0, .slice none 0 0] := by rw [hW0]; exact Bx.new (w := w) [.int .i64 0, .int .i64 0, .bool false, .slice none 0 0, .slice none 0 0, .slice none 0 0, .slice none 0 0] 32 rfl
 rw [← hW0] at hb0;have HX0 := hid X0;have HP := hid (played_any ao cap ts ea mo mc ms W0 hC (hE.later hb0) (hz.later dNode_ok hb0) (hM.later hb0) h64);have Hb0 := hid hb0;have hwz := X0.size;have HZ := hid hz;have HFI := hid hC.fit;clear hC hE hz hM h64 hW0 hb0 X0
 by_cases hok : pipeB (ts.map valNode) = true ∧ ms.length ≤ 300
 ·have HR0 : Hid (roR (ts.map valNode) ms K = (itS (ts.map valNode) K { (playP (ts.map valNode) (srcP (ts.map valNode) ts.length) ms (pp0 ts.length)).2 with cl := true }, (K : Int), true)) := by rw [Hid, roR, if_pos hok, val_len]
  obtain ⟨s, hs⟩ : ∃ s, s = (playP (ts.map valNode) (srcP (ts.map valNode) ts.length) ms (pp0 ts.length)).2 := ⟨_, rfl⟩;rw [← hs] at HR0;have hst := run_start hok;have hK3 := hK hok;rw [val_len, ← hs] at hst hK3;have h0 : codeG (ts.map valNode) = 0 := by have := hok.1; simp [pipeB] at this; exact this.1
  have h1 : 0 < ts.length := by have := (codeG_zero h0).1; rw [val_len] at this; omega
  obtain ⟨gb, goff, rfl, hgb, _⟩ := hNode_at HZ.out.1 h1;have HST := hid hst;have HK3 := hid hK3;clear hst hK3 h0;go_enter Tryz.func16, Tryz.ntmps16;go_wp2_with fail;rw [← HW0.out];refine HP.out.mono ?_;rintro e w1 ⟨hq, hb1⟩;rw [if_pos hok] at hq;obtain ⟨lo, p, bb, so, sc, xs, ev, fv, uv, v, rfl, hlo, hI, F, hO, hA⟩ := hq;rw [← hs] at F;have hlo1 : w.heap.size < lo := Nat.lt_of_lt_of_le hwz hlo;have HB1 := hid (Hb0.out.trans (hb1.mono Hb0.out.size));have HRN := hid (runI_any lo w1 p bb gb goff cap ts (.slice so (srcP (ts.map valNode) ts.length).length sc) xs ev fv uv s K F ((HZ.out.below dNode_ok HB1.out).up dNode_ok (by omega)) HFI.out h1 HST.out.1 HST.out.2.1 HST.out.2.2 HK3.out hK2);have R0 := HX0.out.later hb1;clear F hO hA hs hok hlo HP HFI;go_wp2_with fail;refine HRN.out.mono ?_;rintro e w2 ⟨bb, xs, ev, fv, uv, rfl, F, hb2⟩;have HR : Hid (roR (ts.map valNode) ms K = (itS (ts.map valNode) K { s with cl := true }, (K : Int), true)) := HR0;obtain ⟨s2, hs2⟩ : ∃ s2, s2 = itS (ts.map valNode) K { s with cl := true } := ⟨_, rfl⟩;rw [← hs2] at F HR;have R1 := R0.keep hb2.size (hb2.block _ hlo1);have HB2 := hid (HB1.out.trans (hb2.mono (by omega)));clear hs2 hb2 hb1 R0 HR0 HRN HB1;have c0 := F.box.c 2 rfl;have c1 := F.box.c 3 rfl;have c2 := F.box.c 4 rfl;have c3 := F.box.c 5 rfl;have c4 := F.box.c 6 rfl;have c5 := F.box.c 7 rfl;have c6 := F.box.c 8 rfl;have y0 := R1.c 0 rfl;have z0 := R1.f 0 rfl;have y1 := R1.c 1 rfl;have z1 := R1.f 1 rfl;have y2 := R1.c 2 rfl;have z2 := R1.f 2 rfl;have y3 := R1.c 3 rfl;have z3 := R1.f 3 rfl;have y4 := R1.c 4 rfl;have z4 := R1.f 4 rfl;have y5 := R1.c 5 rfl;have z5 := R1.f 5 rfl;have y6 := R1.c 6 rfl;have z6 := R1.f 6 rfl;obtain ⟨eo, ec, he, _, hEf⟩ := F.emo.fresh;obtain ⟨fo, fc, hf, _, hFf⟩ := F.fao.fresh;obtain ⟨uo, uc, hu, _, hUf⟩ := F.fuo.fresh;rw [he] at c4;rw [hf] at c5;rw [hu] at c6;have hlob := F.lob;have HBX := hid (F.hnd.fr);have HEF := hid hEf;have HFF := hid hFf;have HUF := hid hUf;have HL := hid (F.hnd.len);clear F he hf hu hEf hFf hUf R1;go_wp2;refine bodyPost_ret (v := .tuple #[.agg #[.int .i64 s2.ti, .int .i64 s2.it, .bool s2.cl, .slice (some ⟨bb, 0, none⟩) s2.bx.length s2.bx.length, .slice eo s2.em.length ec, .slice fo s2.fa.length fc, .slice uo s2.fu.length uc], (.int .i64 (K : Int)), .bool true]) (by simp [results, Tryz.results16, go_sem, y0, y1, y2, y3, y4, y5, y6]) rfl ?_;obtain ⟨w5, h5⟩ : ∃ w5, w5 = (((((((w2.setCell ⟨w.heap.size, 0, none⟩ (.int .i64 s2.ti)).setCell ⟨w.heap.size, 1, none⟩ (.int .i64 s2.it)).setCell ⟨w.heap.size, 2, none⟩ (.bool s2.cl)).setCell ⟨w.heap.size, 3, none⟩ (.slice (some ⟨bb, 0, none⟩) s2.bx.length s2.bx.length)).setCell ⟨w.heap.size, 4, none⟩ (.slice eo s2.em.length ec)).setCell ⟨w.heap.size, 5, none⟩ (.slice fo s2.fa.length fc)).setCell ⟨w.heap.size, 6, none⟩ (.slice uo s2.fu.length uc)) := ⟨_, rfl⟩;rw [← h5, HR.out];have hk : ∀ b, b ≠ w.heap.size → w5.heap[b]? = w2.heap[b]? := fun b hb => by rw [h5]; exact set7_far hb _ _ _ _ _ _ _
  have hz5 : w5.heap.size = w2.heap.size := by rw [h5]; simp [World.setCell]
  have hkF : ∀ b, lo ≤ b → b < w2.heap.size → b < w2.heap.size → w5.heap[b]? = w2.heap[b]? := fun b h1 _ _ => hk b (by omega)
  refine ⟨⟨_, _, _, _, _, _, _, _, rfl, ⟨⟨_, (HBX.out.keep fun b h1 h2 h3 => hk b (by omega)).wide (by omega) (by omega)⟩, (HEF.out.keep hkF).wide (by omega) (by omega), (HFF.out.keep hkF).wide (by omega) (by omega), (HUF.out.keep hkF).wide (by omega) (by omega)⟩⟩, ?_⟩;rw [h5];exact ((((((HB2.out.setCell (p := ⟨w.heap.size, 0, none⟩) (Nat.le_refl _) _).setCell (p := ⟨w.heap.size, 1, none⟩) (Nat.le_refl _) _).setCell (p := ⟨w.heap.size, 2, none⟩) (Nat.le_refl _) _).setCell (p := ⟨w.heap.size, 3, none⟩) (Nat.le_refl _) _).setCell (p := ⟨w.heap.size, 4, none⟩) (Nat.le_refl _) _).setCell (p := ⟨w.heap.size, 5, none⟩) (Nat.le_refl _) _).setCell (p := ⟨w.heap.size, 6, none⟩) (Nat.le_refl _) _
 ·have HR : Hid (roR (ts.map valNode) ms K = ({ ti := 0, it := 0, cl := false, bx := [], em := [], fa := [], fu := [] }, 0, false)) := by rw [Hid, roR, if_neg hok]
  go_enter Tryz.func16, Tryz.ntmps16;go_wp2_with fail;rw [← HW0.out];refine HP.out.mono ?_;rintro e w1 ⟨hq, hb1⟩;rw [if_neg hok] at hq;obtain rfl := hq;have R1 := HX0.out.later hb1;have y0 := R1.c 0 rfl;have z0 := R1.f 0 rfl;have y1 := R1.c 1 rfl;have z1 := R1.f 1 rfl;have y2 := R1.c 2 rfl;have z2 := R1.f 2 rfl;have y3 := R1.c 3 rfl;have z3 := R1.f 3 rfl;have y4 := R1.c 4 rfl;have z4 := R1.f 4 rfl;have y5 := R1.c 5 rfl;have z5 := R1.f 5 rfl;have y6 := R1.c 6 rfl;have z6 := R1.f 6 rfl;have HB1 := hid (Hb0.out.trans (hb1.mono Hb0.out.size));clear hb1 R1;go_wp2;refine bodyPost_ret (v := .tuple #[.agg #[.int .i64 0, .int .i64 0, .bool false, .slice none 0 0, .slice none 0 0, .slice none 0 0, .slice none 0 0], .int .i64 0, .bool false]) (by simp [results, Tryz.results16, go_sem, y0, y1, y2, y3, y4, y5, y6]) rfl ?_;rw [HR.out];refine ⟨⟨_, _, _, _, _, _, _, _, rfl, ⟨⟨[], FrRT.nil _ _ _ _ _⟩, .inl rfl, .inl rfl, .inl rfl⟩⟩, ?_⟩;exact ((((((HB1.out.setCell (p := ⟨w.heap.size, 0, none⟩) (Nat.le_refl _) _).setCell (p := ⟨w.heap.size, 1, none⟩) (Nat.le_refl _) _).setCell (p := ⟨w.heap.size, 2, none⟩) (Nat.le_refl _) _).setCell (p := ⟨w.heap.size, 3, none⟩) (Nat.le_refl _) _).setCell (p := ⟨w.heap.size, 4, none⟩) (Nat.le_refl _) _).setCell (p := ⟨w.heap.size, 5, none⟩) (Nat.le_refl _) _).setCell (p := ⟨w.heap.size, 6, none⟩) (Nat.le_refl _) _
set_option maxRecDepth 100000 in
set_option maxHeartbeats 4000000 in
theorem specRun_any (ao : Option Addr) (cap : Nat) (ts : List LNode) (mo : Option Addr) (mc : Nat) (ms : List (Int × Int × Int)) (w : World) (hC : Roomy ts cap) (hz : DIn dNode w.heap.size w ao ts) (hM : kMv.In w.heap.size w mo ms) (h64 : ∀ k, k < ms.length → (el ms k).1 ≤ 9223372036854775807) (K : Nat) (hK : pipeB (ts.map valNode) = true ∧ ms.length ≤ 300 → Halts (ts.map valNode) { (playP (ts.map valNode) (srcP (ts.map valNode) (ts.map valNode).length) ms (pp0 (ts.map valNode).length)).2 with cl := true } K) (hK2 : K ≤ 1000000000000000000) :
  Calls Tryz.prog 17 #[.slice ao ts.length cap, .slice mo ms.length mc] w (AnsRo w (roR (ts.map valNode) ms K)) := by
 have hb0 := below1 w (.cells #[.int .i64 0, .int .i64 0, .bool false, .slice none 0 0, .slice none 0 0, .slice none 0 0, .slice none 0 0] 32);obtain ⟨W0, hW0⟩ : ∃ W0, W0 = w.alloc (.cells #[.int .i64 0, .int .i64 0, .bool false, .slice none 0 0, .slice none 0 0, .slice none 0 0, .slice none 0 0] 32) := ⟨_, rfl⟩;have HW0 := hid hW0;have X0 : Bx W0 w.heap.size [.int .i64 0, .int .i64 0, .bool false, .slice none 0 0, .slice none 0 0, .slice none 0 0, .slice none 0 0] := by rw [hW0]; exact Bx.new (w := w) [.int .i64 0, .int .i64 0, .bool false, .slice none 0 0, .slice none 0 0, .slice none 0 0, .slice none 0 0] 32 rfl
 rw [← hW0] at hb0;have HX0 := hid X0;have HP := hid (l12Play_any ao cap ts mo mc ms W0 hC (hz.later dNode_ok hb0) (hM.later hb0) h64);have Hb0 := hid hb0;have hwz := X0.size;have HZ := hid hz;clear hC hz hM h64 hW0 hb0 X0
 by_cases hok : pipeB (ts.map valNode) = true ∧ ms.length ≤ 300
 ·have HR0 : Hid (roR (ts.map valNode) ms K = (itS (ts.map valNode) K { (playP (ts.map valNode) (srcP (ts.map valNode) ts.length) ms (pp0 ts.length)).2 with cl := true }, (K : Int), true)) := by rw [Hid, roR, if_pos hok, val_len]
  obtain ⟨s, hs⟩ : ∃ s, s = (playP (ts.map valNode) (srcP (ts.map valNode) ts.length) ms (pp0 ts.length)).2 := ⟨_, rfl⟩;rw [← hs] at HR0;have hst := run_start hok;have hK3 := hK hok;rw [val_len, ← hs] at hst hK3;have h0 : codeG (ts.map valNode) = 0 := by have := hok.1; simp [pipeB] at this; exact this.1
  have h1 : 0 < ts.length := by have := (codeG_zero h0).1; rw [val_len] at this; omega
  obtain ⟨gb, goff, rfl, hgb, _⟩ := hNode_at HZ.out.1 h1;have HST := hid hst;have HK3 := hid hK3;clear hst hK3 h0;go_enter Tryz.func17, Tryz.ntmps17;go_wp2_with fail;rw [← HW0.out];refine HP.out.mono ?_;rintro e w1 ⟨hq, hb1⟩;rw [if_pos hok] at hq;obtain ⟨lo, p, bb, xs, ev, fv, uv, v, rfl, hlo, F, hO, hA⟩ := hq;rw [← hs] at F;have hlo1 : w.heap.size < lo := Nat.lt_of_lt_of_le hwz hlo;have HB1 := hid (Hb0.out.trans (hb1.mono Hb0.out.size));have HRN := hid (runS_any lo w1 p bb gb goff cap ts xs ev fv uv s K F ((HZ.out.below dNode_ok HB1.out).up dNode_ok (by omega)) h1 HST.out.1 HST.out.2.1 HST.out.2.2 HK3.out hK2);have R0 := HX0.out.later hb1;clear F hO hA hs hok hlo HP;go_wp2_with fail;refine HRN.out.mono ?_;rintro e w2 ⟨bb, xs, ev, fv, uv, rfl, F, hb2⟩;have HR : Hid (roR (ts.map valNode) ms K = (itS (ts.map valNode) K { s with cl := true }, (K : Int), true)) := HR0;obtain ⟨s2, hs2⟩ : ∃ s2, s2 = itS (ts.map valNode) K { s with cl := true } := ⟨_, rfl⟩;rw [← hs2] at F HR;have R1 := R0.keep hb2.size (hb2.block _ hlo1);have HB2 := hid (HB1.out.trans (hb2.mono (by omega)));clear hs2 hb2 hb1 R0 HR0 HRN HB1;have c0 := F.box.c 1 rfl;have c1 := F.box.c 2 rfl;have c2 := F.box.c 3 rfl;have c3 := F.box.c 4 rfl;have c4 := F.box.c 5 rfl;have c5 := F.box.c 6 rfl;have c6 := F.box.c 7 rfl;have y0 := R1.c 0 rfl;have z0 := R1.f 0 rfl;have y1 := R1.c 1 rfl;have z1 := R1.f 1 rfl;have y2 := R1.c 2 rfl;have z2 := R1.f 2 rfl;have y3 := R1.c 3 rfl;have z3 := R1.f 3 rfl;have y4 := R1.c 4 rfl;have z4 := R1.f 4 rfl;have y5 := R1.c 5 rfl;have z5 := R1.f 5 rfl;have y6 := R1.c 6 rfl;have z6 := R1.f 6 rfl;obtain ⟨eo, ec, he, _, hEf⟩ := F.emo.fresh;obtain ⟨fo, fc, hf, _, hFf⟩ := F.fao.fresh;obtain ⟨uo, uc, hu, _, hUf⟩ := F.fuo.fresh;rw [he] at c4;rw [hf] at c5;rw [hu] at c6;have hlob := F.lob;have HBX := hid (F.hnd.fr);have HEF := hid hEf;have HFF := hid hFf;have HUF := hid hUf;have HL := hid (F.hnd.len);clear F he hf hu hEf hFf hUf R1;go_wp2;refine bodyPost_ret (v := .tuple #[.agg #[.int .i64 s2.ti, .int .i64 s2.it, .bool s2.cl, .slice (some ⟨bb, 0, none⟩) s2.bx.length s2.bx.length, .slice eo s2.em.length ec, .slice fo s2.fa.length fc, .slice uo s2.fu.length uc], (.int .i64 (K : Int)), .bool true]) (by simp [results, Tryz.results17, go_sem, y0, y1, y2, y3, y4, y5, y6]) rfl ?_;obtain ⟨w5, h5⟩ : ∃ w5, w5 = (((((((w2.setCell ⟨w.heap.size, 0, none⟩ (.int .i64 s2.ti)).setCell ⟨w.heap.size, 1, none⟩ (.int .i64 s2.it)).setCell ⟨w.heap.size, 2, none⟩ (.bool s2.cl)).setCell ⟨w.heap.size, 3, none⟩ (.slice (some ⟨bb, 0, none⟩) s2.bx.length s2.bx.length)).setCell ⟨w.heap.size, 4, none⟩ (.slice eo s2.em.length ec)).setCell ⟨w.heap.size, 5, none⟩ (.slice fo s2.fa.length fc)).setCell ⟨w.heap.size, 6, none⟩ (.slice uo s2.fu.length uc)) := ⟨_, rfl⟩;rw [← h5, HR.out];have hk : ∀ b, b ≠ w.heap.size → w5.heap[b]? = w2.heap[b]? := fun b hb => by rw [h5]; exact set7_far hb _ _ _ _ _ _ _
  have hz5 : w5.heap.size = w2.heap.size := by rw [h5]; simp [World.setCell]
  have hkF : ∀ b, lo ≤ b → b < w2.heap.size → b < w2.heap.size → w5.heap[b]? = w2.heap[b]? := fun b h1 _ _ => hk b (by omega)
  refine ⟨⟨_, _, _, _, _, _, _, _, rfl, ⟨⟨_, (HBX.out.keep fun b h1 h2 h3 => hk b (by omega)).wide (by omega) (by omega)⟩, (HEF.out.keep hkF).wide (by omega) (by omega), (HFF.out.keep hkF).wide (by omega) (by omega), (HUF.out.keep hkF).wide (by omega) (by omega)⟩⟩, ?_⟩;rw [h5];exact ((((((HB2.out.setCell (p := ⟨w.heap.size, 0, none⟩) (Nat.le_refl _) _).setCell (p := ⟨w.heap.size, 1, none⟩) (Nat.le_refl _) _).setCell (p := ⟨w.heap.size, 2, none⟩) (Nat.le_refl _) _).setCell (p := ⟨w.heap.size, 3, none⟩) (Nat.le_refl _) _).setCell (p := ⟨w.heap.size, 4, none⟩) (Nat.le_refl _) _).setCell (p := ⟨w.heap.size, 5, none⟩) (Nat.le_refl _) _).setCell (p := ⟨w.heap.size, 6, none⟩) (Nat.le_refl _) _
 ·have HR : Hid (roR (ts.map valNode) ms K = ({ ti := 0, it := 0, cl := false, bx := [], em := [], fa := [], fu := [] }, 0, false)) := by rw [Hid, roR, if_neg hok]
  go_enter Tryz.func17, Tryz.ntmps17;go_wp2_with fail;rw [← HW0.out];refine HP.out.mono ?_;rintro e w1 ⟨hq, hb1⟩;rw [if_neg hok] at hq;obtain ⟨q, rfl⟩ := hq;have R1 := HX0.out.later hb1;have y0 := R1.c 0 rfl;have z0 := R1.f 0 rfl;have y1 := R1.c 1 rfl;have z1 := R1.f 1 rfl;have y2 := R1.c 2 rfl;have z2 := R1.f 2 rfl;have y3 := R1.c 3 rfl;have z3 := R1.f 3 rfl;have y4 := R1.c 4 rfl;have z4 := R1.f 4 rfl;have y5 := R1.c 5 rfl;have z5 := R1.f 5 rfl;have y6 := R1.c 6 rfl;have z6 := R1.f 6 rfl;have HB1 := hid (Hb0.out.trans (hb1.mono Hb0.out.size));clear hb1 R1;go_wp2;refine bodyPost_ret (v := .tuple #[.agg #[.int .i64 0, .int .i64 0, .bool false, .slice none 0 0, .slice none 0 0, .slice none 0 0, .slice none 0 0], .int .i64 0, .bool false]) (by simp [results, Tryz.results17, go_sem, y0, y1, y2, y3, y4, y5, y6]) rfl ?_;rw [HR.out];refine ⟨⟨_, _, _, _, _, _, _, _, rfl, ⟨⟨[], FrRT.nil _ _ _ _ _⟩, .inl rfl, .inl rfl, .inl rfl⟩⟩, ?_⟩;exact ((((((HB1.out.setCell (p := ⟨w.heap.size, 0, none⟩) (Nat.le_refl _) _).setCell (p := ⟨w.heap.size, 1, none⟩) (Nat.le_refl _) _).setCell (p := ⟨w.heap.size, 2, none⟩) (Nat.le_refl _) _).setCell (p := ⟨w.heap.size, 3, none⟩) (Nat.le_refl _) _).setCell (p := ⟨w.heap.size, 4, none⟩) (Nat.le_refl _) _).setCell (p := ⟨w.heap.size, 5, none⟩) (Nat.le_refl _) _).setCell (p := ⟨w.heap.size, 6, none⟩) (Nat.le_refl _) _
end
section
open Go.RowKit

theorem run_ends (gs : List PNode) (ms : List (Int × Int × Int)) : ∃ K, K ≤ 1000000000000000000 ∧ (pipeB gs = true ∧ ms.length ≤ 300 → Halts gs { (playP gs (srcP gs gs.length) ms (pp0 gs.length)).2 with cl := true } K) := by
 by_cases hok : pipeB gs = true ∧ ms.length ≤ 300
 ·obtain ⟨hG, hR, hI⟩ := run_start hok;obtain ⟨K, hK, hH⟩ := halts hG hR (400 * 31 ^ 10) _ hI (by have := phi_most hG hI hR; omega);exact ⟨K, by omega, fun _ => hH⟩
 ·exact ⟨0, by omega, fun h => absurd h hok⟩
theorem roR_small (gs : List PNode) (ms : List (Int × Int × Int)) (K : Nat) : SmallP (roR gs ms K).1 [] := by
 unfold roR
 split
 ·rename_i hok;obtain ⟨hG, hR, hI⟩ := run_start hok;have h := hI.it hG hR K
  revert h
  generalize itS gs K { (playP gs (srcP gs gs.length) ms (pp0 gs.length)).2 with cl := true } = s2
  intro h;have h1 := h.len;have h2 := tot_cap hG h.inv h.len;have h3 := h.em;have h4 := h.fa2;obtain ⟨n, hn⟩ := h.bnd;have h5 := hG.edg.many;have h6 := hn.fu;have hwn : 0 ≤ bxsF (fun k _ => wdP gs (orderP gs) k) s2.bx := bxsF_nn fun i t hi _ => by have := wdP_one hR hG.edg hG.st (show i < gs.length by omega); omega
  exact ⟨⟨by dsimp only; omega, by dsimp only; omega⟩, by dsimp only; omega, by dsimp only; omega, by dsimp only; omega, by simp⟩
 ·exact ⟨⟨by simp, by simp [totT]⟩, by simp, by simp, by simp, by simp⟩
end
section
open Go.RowKit

set_option maxRecDepth 100000 in
set_option maxHeartbeats 32000000 in
theorem lawRunOut_any (co : Option Addr) (cap : Nat) (bs : List Int) (ea : Nat → Addr) (w : World) (hl : bs.length ≤ 9223372036854775807) (hb : BytesIn w.heap.size w co bs) (hE : Errs w ea) :
  Calls Tryz.prog 4 #[.slice co bs.length cap] w fun e w' => e = .returned (.bool true) ∧ Below w.heap.size w w' := by
 by_cases hbig : 1048576 < bs.length
 ·have hbig' : decide ((1048576 : Int) < (bs.length : Int)) = true := by simp; omega
  clear hbig;go_enter Tryz.func4, Tryz.ntmps4;go_wp2;go_ret;exact ⟨rfl, Below.refl _ _⟩
 have hbig' : decide ((1048576 : Int) < (bs.length : Int)) = false := by simp; omega
 have HE := hid hE;clear hbig hE;go_enter Tryz.func4, Tryz.ntmps4;go_wp2_with fail;refine (drawRun_any co cap bs w hl hb).mono ?_;rintro e w1 ⟨⟨o, c, us, mo, mc, ms, rfl, hS, hD, hM, hml, h64⟩, hb1⟩;have hB1 : Below w.heap.size w w1 := hb1;have D1 := hid hD;have M1 := hid hM;have H64 := hid h64;have hul : us.length ≤ 11 := hS.1;have RM := hid (hD.roomy (by omega) fun a ha => by have := hS.2 a ha; omega);obtain ⟨K, hK2, hK⟩ := run_ends (us.map valNode) ms;have hsm := roR_small (us.map valNode) ms K;obtain ⟨⟨s, cn, y⟩, hR⟩ : ∃ Q, roR (us.map valNode) ms K = Q := ⟨_, rfl⟩;rw [hR] at hsm;have hbl := hsm.b.1;have hel := hsm.e;have hfl := hsm.f;dsimp only at hbl hel hfl;have hyy : (y != y) = false := by simp
 have hcc : (cn != cn) = false := by simp
 have HR := hid hR;have HKK := hid hK;clear hb1 hD hM hS h64 hR hK hsm;(try dsimp only);have hcon := implRun_any o c us ea mo mc ms w1 RM.out (HE.out.later hB1) D1.out.in M1.out H64.out K HKK.out hK2;rw [HR.out] at hcon
 (try dsimp only at hcon)
 go_wp2_with fail;refine hcon.mono ?_;rintro e w2' ⟨⟨bo, bc, eo, ec, fo, fc, uo, uc, rfl, hP2⟩, hb20⟩
 (try dsimp only at hP2)
 obtain ⟨w2, h2⟩ : ∃ q, q = w2'.alloc (.cells #[.int .i64 s.ti, .int .i64 s.it, .bool s.cl, .slice bo s.bx.length bc, .slice eo s.em.length ec, .slice fo s.fa.length fc, .slice uo s.fu.length uc] 32) := ⟨_, rfl⟩;have hb2a : Below w2'.heap.size w2' w2 := by rw [h2]; exact below1 _ _
 have KP2 : Hid (Bx w2 w2'.heap.size [.int .i64 s.ti, .int .i64 s.it, .bool s.cl, .slice bo s.bx.length bc, .slice eo s.em.length ec, .slice fo s.fa.length fc, .slice uo s.fu.length uc]) := by rw [Hid, h2]; exact Bx.new (w := w2') [.int .i64 s.ti, .int .i64 s.it, .bool s.cl, .slice bo s.bx.length bc, .slice eo s.em.length ec, .slice fo s.fa.length fc, .slice uo s.fu.length uc] 32 rfl
 have H2 := hid h2;have hb2 := hb20.trans (hb2a.mono hb20.size);have PB2 := hid (hP2.later hb2a).in;clear hb20 hb2a h2 hcon hP2;have hB2 := hB1.trans (hb2.mono hB1.size);have D2 := hid (D1.out.later hb2);have M2 := hid (M1.out.later hb2);clear D1 M1 hb2;have hcon := specRun_any o c us mo mc ms w2 RM.out D2.out.in M2.out H64.out K HKK.out hK2;rw [HR.out] at hcon
 (try dsimp only at hcon)
 (try dsimp only);go_wp2_with fail;rw [← H2.out];refine hcon.mono ?_;rintro e w3' ⟨⟨bo3, bc3, eo3, ec3, fo3, fc3, uo3, uc3, rfl, _⟩, hb30⟩;obtain ⟨w3, h3⟩ : ∃ q, q = w3'.alloc (.cells #[.int .i64 s.ti, .int .i64 s.it, .bool s.cl, .slice bo3 s.bx.length bc3, .slice eo3 s.em.length ec3, .slice fo3 s.fa.length fc3, .slice uo3 s.fu.length uc3] 32) := ⟨_, rfl⟩;have hb3a : Below w3'.heap.size w3' w3 := by rw [h3]; exact below1 _ _
 have KQ3 : Hid (Bx w3 w3'.heap.size [.int .i64 s.ti, .int .i64 s.it, .bool s.cl, .slice bo3 s.bx.length bc3, .slice eo3 s.em.length ec3, .slice fo3 s.fa.length fc3, .slice uo3 s.fu.length uc3]) := by rw [Hid, h3]; exact Bx.new (w := w3') [.int .i64 s.ti, .int .i64 s.it, .bool s.cl, .slice bo3 s.bx.length bc3, .slice eo3 s.em.length ec3, .slice fo3 s.fa.length fc3, .slice uo3 s.fu.length uc3] 32 rfl
 have H3 := hid h3;have hb3 := hb30.trans (hb3a.mono hb30.size);clear hcon hb30 hb3a h3 KQ3;have hB3 := hB2.trans (hb3.mono hB2.size);have D3 := hid (D2.out.later hb3);have M3 := hid (M2.out.later hb3);have PB3 := hid (PB2.out.later hb3);have KP3 := hid (KP2.out.later hb3);clear D2 M2 PB2 KP2 hb3;(try dsimp only)
 go_upto_region 6 with fail
 rw [← H3.out];clear H3 H2
 cases y with
 | false =>
  go_wp2;go_ret;exact ⟨rfl, hB3⟩
 | true =>
  have hok : pipeB (us.map valNode) = true ∧ ms.length ≤ 300 := Decidable.byContradiction fun hn => by have := HR.out; rw [roR, if_neg hn] at this; simp at this
  have hra := run_acct (s2 := s) hok (HKK.out hok) (by have := HR.out; rw [roR, if_pos hok] at this; exact (congrArg Prod.fst this).symm);obtain ⟨hcl, hlen, hbx, hmn, hacc⟩ := hra;obtain ⟨⟨L, yL⟩, hL⟩ : ∃ Q, offR (us.map valNode) ms = Q := ⟨_, rfl⟩;have hLm : L.length ≤ 1048576 := by have := offR_len (us.map valNode) ms; rw [hL] at this; dsimp only at this; omega
  rw [hL] at hacc;have HBX := hid hbx;have HMN := hid hmn;have HACC := hid hacc;have HL := hid hL;have HCL := hid hcl;clear hacc hL hbx hmn hcl hlen hok HKK HR hK2;have k3 := KP3.out.c 3 rfl;obtain ⟨hs, hRT⟩ := PB3.out.1;have HRT := hid hRT;clear hRT;go_wp2
  go_loopw [63] (fun i wr => ∃ t : Nat, i = .int .i64 (t : Int) ∧ t ≤ s.bx.length ∧ wr = w3) (fun i _ => s.bx.length - (intOf i).toNat)
  case atStart => exact ⟨0, rfl, Nat.zero_le _, rfl⟩
  case round =>
   obtain ⟨t, rfl, ht, hwr⟩ := hrel;rw [hwr];clear hwr wr
   by_cases hlt : t < s.bx.length
   ·have hti : (t : Int) < (s.bx.length : Int) := by omega
    obtain ⟨b, off, ro, rc, rfl, hb8, hc8, _, _⟩ := HRT.out.at hlt;rw [HBX.out t, List.length_nil] at hc8;go_wp2;go_roundw
    case rel => exact ⟨t + 1, by go_num, by omega, by first | trivial | rfl⟩
    case measure => simp [intOf]; omega
   ·obtain rfl : t = s.bx.length := by omega
    clear k3 HRT HBX;have hcon := specOff_any o c us mo mc ms w3 RM.out D3.out.in M3.out H64.out;rw [HL.out] at hcon
    (try dsimp only at hcon)
    (try dsimp only);go_wp2_with fail;refine hcon.mono ?_;rintro e w4 ⟨⟨o4, c4, rfl, hF4⟩, hb4⟩;have L4 := hid hF4.in;clear hcon hF4;have hB4 := hB3.trans (hb4.mono hB3.size);have D4 := hid (D3.out.later hb4);have KP4 := hid (KP3.out.later hb4);have PB4 := hid (PB3.out.later hb4);clear D3 KP3 PB3 hb4;clear M3;(try dsimp only);go_wp2
    go_loopw [79] (fun i wr => ∃ t : Nat, i = .int .i64 (t : Int) ∧ t ≤ L.length ∧ Hid (Below w4.heap.size w4 wr)) (fun i _ => L.length - (intOf i).toNat)
    case atStart => exact ⟨0, rfl, Nat.zero_le _, Below.refl _ _⟩
    case round =>
     obtain ⟨i, rfl, hi, hBr⟩ := hrel
     by_cases hlt : i < L.length
     ·have hii : (i : Int) < (L.length : Int) := by omega
      obtain ⟨b, off, rfl, hb8, hc8⟩ := kMv_at L4.out hlt;obtain ⟨d0, d1, d2⟩ := hc8 i hlt;have e0 := (hBr.out.cell (p := ⟨b, off + i * 3, none⟩) hb8).trans d0;have e1 := (hBr.out.cell (p := ⟨b, off + i * 3 + 1, none⟩) hb8).trans d1;have e2 := (hBr.out.cell (p := ⟨b, off + i * 3 + 2, none⟩) hb8).trans d2;have HA := HACC.out i hlt
      (try dsimp only at HA)
      obtain ⟨⟨m1, m2, m3⟩, em⟩ : ∃ t, t = el L i := ⟨_, rfl⟩;rw [← em] at e0 e1 e2 HA;dsimp only at e0 e1 e2 HA;obtain ⟨HA1, HA2⟩ := HA;obtain ⟨⟨Al, ya⟩, hAl⟩ : ∃ Q, meanR (us.map valNode) m2 m3 = Q := ⟨_, rfl⟩;rw [hAl] at HA1 HA2;obtain rfl : ya = true := HA2;have hll := sortR_le (congrArg Prod.snd HA1);have hAlen : Al.length ≤ 400 := by have h1 := congrArg Prod.fst HA1; rw [sortR, if_neg (by omega)] at h1; dsimp only at h1; rw [← h1, (sortE_perm _).length_eq]; exact hll
      rw [← allQ_all] at HA1 hll;have HLL := hid hll;have HSO := hid HA1;have HME := hid hAl;have hpe : ∀ m, (emL (i : Int) (s.em.take m)).length ≤ 400 := fun m => by have h1 := em_pre (i : Int) s.em m; have h2 := HLL.out; rw [allQ_all, List.length_append] at h2; omega
      have hpf : ∀ m, (allQ (us.map valNode) s (i : Int) m).length ≤ 400 := fun m => by have h1 := allQ_le (us.map valNode) s (i : Int) m; rw [← allQ_all] at h1; have h2 := HLL.out; omega
      have HPE := hid hpe;have HPF := hid hpf;clear em hc8 d0 d1 d2 hAl HA1 hll hpe hpf;obtain ⟨w5, h5⟩ : ∃ q, q = wr.alloc (.cells #[.int .i64 m1, .int .i64 m2, .int .i64 m3] 42) := ⟨_, rfl⟩;have hb5a : Below wr.heap.size wr w5 := by rw [h5]; exact below1 _ _
      have K5 : Hid (Bx w5 wr.heap.size [.int .i64 m1, .int .i64 m2, .int .i64 m3]) := by rw [Hid, h5]; exact Bx.new (w := wr) [.int .i64 m1, .int .i64 m2, .int .i64 m3] 42 rfl
      have H5 := hid h5;have B45 := hid (hBr.out.trans (hb5a.mono hBr.out.size));have PB5 := hid (PB4.out.later B45.out);have KP5 := hid (KP4.out.later B45.out);have D5 := hid (D4.out.later B45.out);have hB5 := hB4.trans (B45.out.mono hB4.size);have k4 := KP5.out.c 4 rfl;have kz := KP5.out.size;have h45 : w4.heap.size ≤ w5.heap.size := B45.out.size;clear hb5a h5
      go_upto_region 20 with fail
      rw [← H5.out];clear H5 e0 e1 e2;go_wp2;clear k4
      go_loopw [17, 87] (fun u q wr => ∃ (m : Nat) (v : Value), v = u ∧ q = .int .i64 (m : Int) ∧ m ≤ s.em.length ∧ Hid (kE.Own w5.heap.size wr v (emL (i : Int) (s.em.take m))) ∧ Hid (Below w5.heap.size w5 wr)) (fun _ i _ => s.em.length - (intOf i).toNat)
      case atStart => exact ⟨0, _, rfl, rfl, Nat.zero_le _, Kind.Own.nil _ _ _, Below.refl _ _⟩
      case round =>
       obtain ⟨m, v, rfl, rfl, hm, hO, hB⟩ := hrel
       by_cases hlt2 : m < s.em.length
       ·have hmi : (m : Int) < (s.em.length : Int) := by omega
        obtain ⟨b, off, rfl, hb, hc⟩ := kOu_at PB5.out.2.1 hlt2;obtain ⟨d0, d1, d2⟩ := hc m hlt2;have e0 := (hB.out.cell (p := ⟨b, off + m * 3, none⟩) hb).trans d0;have e1 := (hB.out.cell (p := ⟨b, off + m * 3 + 1, none⟩) hb).trans d1;have e2 := (hB.out.cell (p := ⟨b, off + m * 3 + 2, none⟩) hb).trans d2;have hwz := hB.out.size;have HS := hid (emL_succ (i := (i : Int)) hlt2);have hle := HPE.out m;obtain ⟨⟨t1, t2, t3⟩, et⟩ : ∃ t, t = el s.em m := ⟨_, rfl⟩;rw [← et] at e0 e1 e2 HS;dsimp only at e0 e1 e2 HS;clear d0 d1 d2 hc et
        by_cases h1 : t1 = (i : Int)
        ·rw [if_pos h1] at HS;have hd1 : (t1 == (i : Int)) = true := by simpa using h1
         obtain ⟨X, hX⟩ : ∃ X, X = (wr.alloc (.cells #[.int .i64 t1, .int .i64 t2, .int .i64 t3] 53)).alloc (.cells #[.int .i64 t2, .int .i64 t3] 55) := ⟨_, rfl⟩;have hbX : Below wr.heap.size wr X := by rw [hX]; exact below2 _ _ _
         have hNX : kE.In X.heap.size X (some ⟨wr.heap.size + 1, 0, none⟩) [(t2, t3)] := by
          have hx : Bx X (wr.heap.size + 1) [.int .i64 t2, .int .i64 t3] := by
           have := Bx.new (w := wr.alloc (.cells #[.int .i64 t1, .int .i64 t2, .int .i64 t3] 53)) [.int .i64 t2, .int .i64 t3] 55 rfl;rw [show (wr.alloc (.cells #[.int .i64 t1, .int .i64 t2, .int .i64 t3] 53)).heap.size = wr.heap.size + 1 by simp] at this;rw [hX]; exact this
          exact emits_mk hx.size (hx.c 0 rfl) (hx.c 1 rfl)
         have HX := hid hX;have HOX := hid (hO.out.below hbX);have HN := hid hNX;have HBX := hid (hB.out.trans (hbX.mono hwz));have hlX : w5.heap.size ≤ X.heap.size := HBX.out.size;clear hX hbX hNX hO hB h1;go_wp2_with (at_builtin; rw [← HX.out]; refine Kind.appN kE_ok X rfl (.tmp 95) (.tmp 101) rfl w5.heap.size v (emL (i : Int) (s.em.take m)) rfl HOX.out hlX (some ⟨wr.heap.size + 1, 0, none⟩) [(t2, t3)] 1 1 rfl rfl (by simp) _ HN.out (by rw [List.length_singleton]; omega) ?_; intro v' w6 hO6 hB6 hG6 hw6; have HO6 := hid hO6; have HB6 := hid (HBX.out.trans (hB6.mono (Nat.le_refl _))); clear hO6 hB6 hG6 hw6);go_roundw
         case rel => exact ⟨m + 1, v', rfl, by go_num, by omega, by rw [HS.out]; exact HO6.out, HB6⟩
         case measure => simp [intOf]; omega
        ·rw [if_neg h1, List.append_nil] at HS;have hd1 : (t1 == (i : Int)) = false := by simpa using h1
         clear h1;go_wp2;go_roundw
         case rel => exact ⟨m + 1, _, rfl, by go_num, by omega, by rw [HS.out]; exact hO.out.below (below1 _ _), hB.out.trans ((below1 _ _).mono hwz)⟩
         case measure => simp [intOf]; omega
       ·obtain rfl : m = s.em.length := by omega
        rw [List.take_length, ← allQ_zero (us.map valNode) s (i : Int)] at hO;have k5 := (KP5.out.later hB.out).c 5 rfl;have kz2 := (KP5.out.later hB.out).size;obtain ⟨wb, hwb⟩ : ∃ q, q = wr := ⟨_, rfl⟩;rw [← hwb] at hO hB k5 kz2 ⊢;clear hwb wr;go_wp2;clear k5
        go_loopw [17, 107] (fun u q wr => ∃ (m : Nat) (v : Value), v = u ∧ q = .int .i64 (m : Int) ∧ m ≤ s.fa.length ∧ Hid (kE.Own w5.heap.size wr v (allQ (us.map valNode) s (i : Int) m)) ∧ Hid (Below w5.heap.size w5 wr)) (fun _ i _ => s.fa.length - (intOf i).toNat)
        case atStart => exact ⟨0, _, rfl, rfl, Nat.zero_le _, hO, hB⟩
        case round =>
         clear hO hB;obtain ⟨m, v, rfl, rfl, hm, hO, hB⟩ := hrel
         by_cases hlt2 : m < s.fa.length
         ·have hmi : (m : Int) < (s.fa.length : Int) := by omega
          obtain ⟨b, off, rfl, hb, hc⟩ := kLo_at PB5.out.2.2.1 hlt2;obtain ⟨d0, d1, d2, d3⟩ := hc m hlt2;have e0 := (hB.out.cell (p := ⟨b, off + m * 4, none⟩) hb).trans d0;have e1 := (hB.out.cell (p := ⟨b, off + m * 4 + 1, none⟩) hb).trans d1;have e2 := (hB.out.cell (p := ⟨b, off + m * 4 + 2, none⟩) hb).trans d2;have e3 := (hB.out.cell (p := ⟨b, off + m * 4 + 3, none⟩) hb).trans d3;have hwz := hB.out.size;have HS := hid (allQ_succ (gs := (us.map valNode)) (s := s) (i := (i : Int)) hlt2);have hmn := HMN.out (el s.fa m) (el_mem hlt2);have hle := HPF.out m;have hle2 := HPF.out (m + 1);obtain ⟨⟨t1, t2, t3, t4⟩, et⟩ : ∃ t, t = el s.fa m := ⟨_, rfl⟩;rw [← et] at e0 e1 e2 e3 HS hmn;dsimp only at e0 e1 e2 e3 HS hmn;clear d0 d1 d2 d3 hc et
          by_cases h1 : t1 = (i : Int)
          ·rw [if_pos h1] at HS;have hd1 : (t1 == (i : Int)) = true := by simpa using h1
           have hnn : 0 ≤ t2 := meanR_nn (gs := (us.map valNode)) (k := t2) (v := t3) (by rw [hmn]);have ht2 : ((t2.toNat : Nat) : Int) = t2 := by omega
           rw [ht2, hmn] at HS;dsimp only at HS;rw [HS.out, List.length_append] at hle2;obtain ⟨Q, hQ⟩ : ∃ Q, Q = sortE (meanG (us.map valNode) t2.toNat t3) := ⟨_, rfl⟩;rw [← hQ] at HS hmn hle2;obtain ⟨X, hX⟩ : ∃ X, X = wr.alloc (.cells #[.int .i64 t1, .int .i64 t2, .int .i64 t3, .int .i64 t4] 57) := ⟨_, rfl⟩;have hbX : Below wr.heap.size wr X := by rw [hX]; exact below1 _ _
           have HX := hid hX;have HOX := hid (hO.out.below hbX);have HBX := hid (hB.out.trans (hbX.mono hwz));have hcon := specMean_is o c us t2 t3 X RM.out (D5.out.later HBX.out).in;rw [hmn] at hcon
           unfold AnsEB at hcon
           (try dsimp only at hcon)
           have HCO := hid hcon;clear hX hbX hO hB h1 hQ hmn hcon ht2 hnn;go_wp2_with fail;rw [← HX.out];refine HCO.out.mono ?_;rintro e w7 ⟨⟨o7, c7, rfl, hF7⟩, hb7⟩;have HF7 := hid hF7.in;have HO7 := hid (HOX.out.below hb7);have HB7 := hid (HBX.out.trans (hb7.mono HBX.out.size));have hl7 : w5.heap.size ≤ w7.heap.size := HB7.out.size;clear hF7 hb7 HCO HOX HBX HX;(try dsimp only);go_wp2_with (at_builtin; refine Kind.appE kE_ok w7 rfl (.tmp 126) (.tmp 127) rfl w5.heap.size v (allQ (us.map valNode) s (i : Int) m) rfl HO7.out hl7 o7 Q Q.length c7 rfl rfl _ HF7.out (by omega) ?_; intro v' w8 hO8 hB8; have HO8 := hid hO8; have HB8 := hid (HB7.out.trans (hB8.mono (Nat.le_refl _))); clear hO8 hB8);go_roundw
           case rel => exact ⟨m + 1, v', rfl, by go_num, by omega, by rw [HS.out]; exact HO8.out, HB8⟩
           case measure => simp [intOf]; omega
          ·rw [if_neg h1, List.append_nil] at HS;have hd1 : (t1 == (i : Int)) = false := by simpa using h1
           clear h1 hmn;go_wp2;go_roundw
           case rel => exact ⟨m + 1, _, rfl, by go_num, by omega, by rw [HS.out]; exact hO.out.below (below1 _ _), hB.out.trans ((below1 _ _).mono hwz)⟩
           case measure => simp [intOf]; omega
         ·obtain rfl : m = s.fa.length := by omega
          have HOB := hid hO.out;obtain ⟨ao, ac, rfl, _, hAI⟩ := HOB.out.in;have B5r := hid hB.out;have hBq := hB5.trans (hB.out.mono hB5.size);have D8 := hid (D5.out.later hB.out);have q5 := (K5.out.later hB.out).c 1 rfl;have q6 := (K5.out.later hB.out).c 2 rfl;have hqz := (K5.out.later hB.out).size;have hcon := implSort_any ao ac (allQ (us.map valNode) s (i : Int) s.fa.length) wr (by have := HPF.out s.fa.length; omega) hAI;rw [HSO.out] at hcon
          unfold AnsEB at hcon
          (try dsimp only at hcon)
          obtain ⟨wc, hwc⟩ : ∃ q, q = wr := ⟨_, rfl⟩;rw [← hwc] at hcon B5r D8 q5 q6 hqz hBq ⊢;clear hwc hO hB HOB hAI;clear wr;go_wp2_with fail;refine hcon.mono ?_;rintro e w9 ⟨⟨o9, c9, rfl, hF9⟩, hb9⟩;have K9 := (K5.out.later (B5r.out.trans (hb9.mono B5r.out.size)));have f1 := K9.c 1 rfl;have f2 := K9.c 2 rfl;have fz := K9.size;have A9 := hid hF9.in;have D9 := hid (D8.out.later hb9);have hB9 := hBq.trans (hb9.mono hBq.size);have B49 := hid ((B45.out.trans (B5r.out.mono B45.out.size)).trans (hb9.mono (Nat.le_trans B45.out.size B5r.out.size)));have hcon := specMean_is o c us m2 m3 w9 RM.out D9.out.in;rw [HME.out] at hcon
          unfold AnsEB at hcon
          (try dsimp only at hcon)
          clear hF9 hb9 q5 q6 hqz K9;(try dsimp only);go_wp2_with fail;refine hcon.mono ?_;rintro e w10 ⟨⟨o10, c10, rfl, hF10⟩, hb10⟩;have A10 := hid (A9.out.later hb10);have Z10 := hid hF10.in;have hB10 := hB9.trans (hb10.mono hB9.size);have B410 := hid (B49.out.trans (hb10.mono B49.out.size));clear hF10 hb10 hcon f1 f2 fz;(try dsimp only);go_wp2_with fail;refine (sameEmits_same o9 o10 c9 c10 Al w10 (by omega) A10.out Z10.out).mono ?_;rintro e w11 ⟨rfl, hb11⟩;have B411 := hid (B410.out.trans (hb11.mono B410.out.size));clear hb11;go_wp2;go_roundw
          case rel => exact ⟨i + 1, by go_num, by omega, B411⟩
          case measure => simp [intOf]; omega
     ·obtain rfl : i = L.length := by omega
      have k2 := (KP4.out.later hBr.out).c 2 rfl;have kz := (KP4.out.later hBr.out).size;rw [HCL.out] at k2;have hBw := hB4.trans (hBr.out.mono hB4.size);go_wp2;go_ret;exact ⟨rfl, hBw⟩
end
end Go.Proofs.YtllmpinmbajpgaaGreatDoor
