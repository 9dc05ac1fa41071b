
/- The pipe behind a script: the program. No conditions but those written. The answers told one behind another: the program. No conditions but those written. A script run: the specification; what its functions answer. No conditions but those written. How the arguments that come in are read. No conditions but those written. How rows that come in are read. No conditions but those written. -/
import Derived.Test.YtdacedbfnlkghaaGreatDoorPSseSgt
import Derived.Test.YtdacedbfnlkghaaGreatDoorPSpsSsb
import Derived.Test.YtdacedbfnlkghaaGreatDoorPXkTnb
import Derived.Shelf.Strings.Builder1
import Derived.Test.YtdacedbfnlkghaaGreatDoorPTpbTpe
import Derived.Test.YtdacedbfnlkghaaGreatDoorPGenBx
import Derived.ProofKit
import Derived.Deep.SlicePairs
import Derived.Lib.SmallJoins
namespace Go.Proofs.YtdacedbfnlkghaaGreatDoor
section
open Go.RowKit
end
section
open Go.RowKit

/-- strings.Builder's bodies as strings.Join's laying has them, and WriteByte. -/
def Tryz.renWB : Go.Shelf.Ren := { Tryz.laysJoin_ren with f := fun k => if k = 167 then 42 else Tryz.laysJoin_ren.f k }
theorem Tryz.laysWS : Lays.n166 Tryz.prog Tryz.laysJoin_ren := { Tryz.laysJoin with }
theorem Tryz.laysSt : Lays.n169 Tryz.prog Tryz.laysJoin_ren := { Tryz.laysJoin with }
set_option maxRecDepth 100000 in
theorem Tryz.laysWB : Lays.n167 Tryz.prog Tryz.renWB := { Tryz.laysJoin with f167 := by kernel_rfl, f240 := by kernel_rfl, f276 := by kernel_rfl, t5 := Tryz.extraJoin.t5, a5 := Tryz.extraJoin.a5, z5 := Tryz.extraJoin.z5, v5 := Tryz.extraJoin.v5 }
set_option maxRecDepth 100000 in
theorem Tryz.extraWB : Builder.Extra Tryz.prog Tryz.renWB := { Tryz.extraJoin with }
/-- A builder at b that holds these bytes; below B nothing of it lies. -/
def BuS (B b : Nat) (l : List UInt8) (w : World) : Prop := Lib.IsBuilder 78 5 B b (Lib.byteCells l) w
theorem wrStr_is (B b : Nat) (l : List UInt8) (s : ByteArray) (w : World) (h : BuS B b l w) (hlen : l.length + s.size ≤ 140737488355328) (hB : B ≤ w.heap.size) :
  Calls Tryz.prog 41 #[.pointer (some ⟨b, 0, none⟩), .string s] w fun e w' => (∃ m : Int, e = .returned (.tuple #[.int .i64 m, .nilIface])) ∧ BuS B b (l ++ s.data.toList) w' ∧ Below B w w' := by
 have hc : Calls Tryz.prog 41 #[.pointer (some ⟨b, 0, none⟩), .string s] w _ := Any.Builder_WriteString Tryz.laysWS Tryz.extraJoin B b (Lib.byteCells l) s w h (by rw [Lib.byteCells_length]; exact hlen) hB;refine hc.mono ?_;rintro e w' ⟨rfl, hb, hl⟩;refine ⟨⟨_, rfl⟩, .inr ?_, hl⟩;rw [Lib.byteCells_append];exact hb
theorem wrByte_is (B b : Nat) (l : List UInt8) (w : World) (h : BuS B b l w) (hlen : l.length + 1 ≤ 140737488355328) (hB : B ≤ w.heap.size) :
  Calls Tryz.prog 42 #[.pointer (some ⟨b, 0, none⟩), .int .u8 10] w fun e w' => e = .returned .nilIface ∧ BuS B b (l ++ [10]) w' ∧ Below B w w' := by
 have hc : Calls Tryz.prog 42 #[.pointer (some ⟨b, 0, none⟩), .int .u8 10] w _ := Any.Builder_WriteByte Tryz.laysWB Tryz.extraWB B b (Lib.byteCells l) 10 w h (by rw [Lib.byteCells_length]; exact hlen) hB;refine hc.mono ?_;rintro e w' ⟨rfl, hb, hl⟩;refine ⟨rfl, .inr ?_, hl⟩;rw [Lib.byteCells_append];exact hb
theorem wrTold_is (B b : Nat) (l : List UInt8) (w : World) (h : BuS B b l w) (hB : B ≤ w.heap.size) :
  Calls Tryz.prog 43 #[.pointer (some ⟨b, 0, none⟩)] w fun e w' => e = .returned (.string (tx l)) ∧ Below B w w' := by
 have hc : Calls Tryz.prog 43 #[.pointer (some ⟨b, 0, none⟩)] w _ := Any.Builder_String_any Tryz.laysSt Tryz.extraJoin B b l w h hB;exact hc
theorem BuS.new (w : World) : BuS w.heap.size w.heap.size [] (w.alloc (.cells #[.pointer none, .slice none 0 0] 78)) := Lib.fresh_isBuilder _ _ w
end
section
open Go.RowKit

theorem catT (l : List ByteArray) (t : ByteArray) : tx (catL (l ++ [t])) = tx (catL l) ++ (t ++ ⟨#[10]⟩) := by
 rw [catL_snoc, ← tx_app, ← tx_app, tx_data]; rfl
theorem catL_few {l : List ByteArray} (h : l.length ≤ 200) : (tx (catL (linesA st0 l).2)).size ≤ 200 * 200000001 := by
 rw [tx_size];have h1 := catL_len (linesA st0 l).2 (m := 200000000) fun t ht => linesA_size _ SSI.start t ht
 rw [linesA_len] at h1;exact Nat.le_trans h1 (Nat.mul_le_mul h (Nat.le_refl _))
set_option maxRecDepth 100000 in
set_option maxHeartbeats 8000000 in
theorem l13Run_is (s : ByteArray) (w : World) (hs : s.size ≤ 1048576) :
  Calls Tryz.prog 44 #[.string s] w (AnsLR w s) := by
 have HP := hid (l13Split_is s 10 w hs);have hpos := splitB_pos s 10;have hlen := splitB_len s 10;have e10 : ((10 : UInt8).toNat : Int) = 10 := rfl
 try rw [e10] at hpos
 try rw [e10] at hlen
 have HFIT := hid (linesR_fit s);have HLR := hid (linesR_len s);have HYES := hid (linesR_yes (s := s));have HNO := hid (linesR_no (s := s));obtain ⟨ps, hps⟩ : ∃ ps, ps = splitB s 10 := ⟨_, rfl⟩;rw [← hps] at HP hpos hlen HYES HNO;clear hps e10;obtain ⟨m, hm⟩ : ∃ m, ps.length = m + 1 := ⟨ps.length - 1, by omega⟩;have HM := hid hm;go_enter Tryz.func44, Tryz.ntmps44;go_wp2_with fail;refine HP.out.mono ?_;rintro e w1 ⟨⟨go, qc, rfl, hno, hF⟩, hb1⟩;obtain ⟨g, rfl, hg1, hg2, hg3, _⟩ := hF.at hpos;have hcap := hF.cap;have HI := hid hF.in;have HTX : Hid (∀ j, j < ps.length → w1.cell? ⟨g, j, none⟩ = some (.string (el ps j))) := fun j hj => texts_c HI.out j hj
 obtain ⟨W2, h2⟩ : ∃ V, V = w1.alloc (.cells #[.slice none 0 0, .pointer none, .bool false, .int .i64 0, .int .i64 0] 89) := ⟨_, rfl⟩;have hb2 : Below w1.heap.size w1 W2 := by rw [h2]; exact below1 _ _
 have X2 : Bx W2 w1.heap.size [.slice none 0 0, .pointer none, .bool false, .int .i64 0, .int .i64 0] := by rw [h2]; exact Bx.new [.slice none 0 0, .pointer none, .bool false, .int .i64 0, .int .i64 0] _ rfl
 have SC : Hid (ScQ w1.heap.size W2 st0) := .inl ⟨rfl, none, 0, [], w1.heap.size + 1, ⟨X2, gr_nil, ⟨by simp, fun a ha => by cases ha⟩, X2.size, Nat.le_refl _⟩, rfl⟩;have H2 := hid h2;have HB2 := hid hb2;have HB1 := hid hb1;have HBW := hid (hb1.trans (hb2.mono hb1.size));have cm := (hb2.cell (p := ⟨g, m, none⟩) hg3).trans (HTX.out m (by omega));have hg4 : g < W2.heap.size := Nat.lt_of_lt_of_le hg3 hb2.size;have hw1 : IntKind.i64.wrap ((ps.length : Int) - 1) = (m : Int) := by rw [IntKind.wrap_i64] <;> omega
 have hmi : (m : Int) < (ps.length : Int) := by omega
 have hme : ps.length - 1 = m := by omega
 rw [hme] at HYES HNO;clear hF HP hno h2 hb2 X2 hb1 hg1 hg2 hm hme
 go_upto_region 3 with fail
 rw [← H2.out];clear H2
 by_cases h3 : s.size ≤ 3000
 case neg =>
  have hd : decide ((3000 : Int) < (s.size : Int)) = true := by simp; omega
  have HL := hid (HNO.out fun h => h3 h.1);clear h3 HYES HNO;go_wp2;refine bodyPost_ret (v := .tuple #[.pointer (some ⟨w1.heap.size, 0, none⟩), .string ⟨#[]⟩, .bool false]) (by simp [results, Tryz.results44, go_sem]) rfl ?_;rw [AnsLR, HL.out, if_neg (by decide)];exact ⟨⟨_, rfl⟩, HBW.out⟩
 have hd : decide ((3000 : Int) < (s.size : Int)) = false := by simp; omega
 by_cases h200 : 200 < m
 ·have hd2 : decide ((200 : Int) < (m : Int)) = true := by simp; omega
  have HL := hid (HNO.out fun h => by have := HM.out; omega);clear h3 HYES HNO;go_wp2;refine bodyPost_ret (v := .tuple #[.pointer (some ⟨w1.heap.size, 0, none⟩), .string ⟨#[]⟩, .bool false]) (by simp [results, Tryz.results44, go_sem]) rfl ?_;rw [AnsLR, HL.out, if_neg (by decide)];exact ⟨⟨_, rfl⟩, HBW.out⟩
 have hd2 : decide ((200 : Int) < (m : Int)) = false := by simp; omega
 by_cases hl : el ps m = ⟨#[]⟩
 case neg =>
  have HL := hid (HNO.out fun h => hl h.2.2)
  generalize el ps m = x at cm hl
  have hm1 : x.toList ≠ [] := fun e => hl (ba_toList_inj (by rw [e, Lib.toList_data]))
  have hm2 : x.toList.isEmpty = false := by simpa using hm1
  clear hl hm1 h3 HYES HNO;go_wp2;refine bodyPost_ret (v := .tuple #[.pointer (some ⟨w1.heap.size, 0, none⟩), .string ⟨#[]⟩, .bool false]) (by simp [results, Tryz.results44, go_sem]) rfl ?_;rw [AnsLR, HL.out, if_neg (by decide)];exact ⟨⟨_, rfl⟩, HBW.out⟩
 have HL := hid (HYES.out ⟨h3, by have := HM.out; omega, hl⟩);rw [hl] at cm;obtain ⟨ls, hls⟩ : ∃ ls, ls = ps.take m := ⟨_, rfl⟩;have hll : ls.length = m := by rw [hls, List.length_take]; omega
 have HEL : Hid (∀ k, k < m → el ps k = el ls k) := fun k hk => by rw [hls]; simp [el, hk]
 rw [← hls] at HL;have HFI : Hid (∀ x ∈ ls, x.size ≤ 3000) := fun x hx => HFIT.out x (by rw [HL.out]; exact hx)
 have HLL := hid hll;have hqc : (m : Int) ≤ (qc : Int) := by have := HM.out; omega
 clear hls hl hll h3 HYES HNO;go_wp2
 go_loopw [7, 39] (fun u i wr => ∃ k : Nat, k ≤ m ∧ i = .int .i64 (k : Int) ∧ u = .string (tx (catL (linesA st0 (ls.take k)).2)) ∧ Hid (ScQ w1.heap.size wr (linesA st0 (ls.take k)).1) ∧ Hid (Below w1.heap.size w1 wr)) (fun _ i _ => m - (intOf i).toNat)
 case atStart => exact ⟨0, Nat.zero_le _, rfl, rfl, SC, HB2⟩
 case round =>
  obtain ⟨k, hk, rfl, rfl, hS, hB⟩ := hrel
  by_cases hlt : k < m
  ·have hltl : k < ls.length := by rw [HLL.out]; exact hlt
   have d1 := (hB.out.cell (p := ⟨g, k, none⟩) hg3).trans (HTX.out k (by have := HM.out; omega));rw [HEL.out k hlt] at d1;have hgr : g < wr.heap.size := Nat.lt_of_lt_of_le hg3 hB.out.size;have HI2 := linesA_inv (ls.take k) SSI.start;have HLN := hid (lineS_any w1.heap.size wr (linesA st0 (ls.take k)).1 (el ls k) hS.out HI2 (HFI.out _ (el_mem hltl)));have hts := ansR_size HI2 (el ls k);have hcs := catL_few (l := ls.take k) (by rw [List.length_take]; omega);have hsn := linesA_snoc (ls.take k) st0 (el ls k);rw [← take_succ_el hltl] at hsn;obtain ⟨A, hA⟩ : ∃ A, A = linesA st0 (ls.take k) := ⟨_, rfl⟩;rw [← hA] at hS hcs HLN hts hsn ⊢;obtain ⟨x, hx⟩ : ∃ x, x = el ls k := ⟨_, rfl⟩;rw [← hx] at d1 HLN hts hsn;have HSN := hid hsn;have HBr := hid hB.out;have HZr := hid hS.out.size;clear hA hx hsn HI2 hS hB;obtain ⟨st, xs⟩ := A;dsimp only at HLN hts hcs HSN HZr ⊢;obtain ⟨acc, hacc⟩ : ∃ acc, acc = tx (catL xs) := ⟨_, rfl⟩;rw [← hacc] at hcs ⊢;have HAC := hid hacc;obtain ⟨R, hR⟩ : ∃ R, R = ansR st x := ⟨_, rfl⟩;have HRR := hid hR;have HL2 : Hid (Calls Tryz.prog 86 #[.pointer (some ⟨w1.heap.size, 0, none⟩), .string x] wr fun e W' => e = .returned (.string R.2) ∧ ScQ w1.heap.size W' R.1 ∧ Below w1.heap.size wr W') := by rw [Hid, hR]; exact HLN.out
   rw [← hR] at hts HSN;obtain ⟨st2, t⟩ := R;dsimp only at HL2 hts HSN;clear hacc hR HLN;have hz10 : (⟨#[10]⟩ : ByteArray).size = 1 := rfl;have hs1 : ¬ 9223372036854775807 < t.size + 1 := by omega
   have hs2 : ¬ 9223372036854775807 < acc.size + (t.size + 1) := by omega
   go_wp2_with fail;refine HL2.out.mono ?_;rintro e w4 ⟨rfl, hS4, hb4⟩;have HS4 := hid hS4;have HB4 := hid (HBr.out.trans hb4);clear hS4 hb4 HL2 d1;go_wp2;go_roundw
   case rel => exact ⟨k + 1, by omega, by go_num, by rw [HSN.out]; dsimp only; rw [catT, ← HAC.out], by rw [HSN.out]; exact HS4, HB4⟩
   case measure => simp [intOf]; omega
  ·obtain rfl : k = m := by omega
   rw [List.take_of_length_le (by rw [HLL.out]; exact Nat.le_refl _)] at hS ⊢;obtain ⟨acc, hacc⟩ : ∃ acc, acc = tx (catL (linesA st0 ls).2) := ⟨_, rfl⟩;rw [← hacc];have HAC := hid hacc;have HS := hid hS.out;have HBr := hid hB.out;clear hacc hS hB;go_wp2;refine bodyPost_ret (v := .tuple #[.pointer (some ⟨w1.heap.size, 0, none⟩), .string acc, .bool true]) (by simp [results, Tryz.results44, go_sem]) rfl ?_;rw [AnsLR, HL.out, if_pos rfl];exact ⟨⟨_, HB1.out.size, by rw [HAC.out], HS.out⟩, HB1.out.trans (HBr.out.mono HB1.out.size)⟩
set_option maxRecDepth 100000 in
set_option maxHeartbeats 8000000 in
theorem specRunPipe_is (s : ByteArray) (w : World) (hs : s.size ≤ 1048576) :
  Calls Tryz.prog 14 #[.string s] w (AnsRP w s) := by
 have HP : Hid (Calls Tryz.prog 44 #[.string s] w fun e W' => (∃ q b, e = .returned (.tuple #[.pointer (some ⟨q, 0, none⟩), .string (tx (catL (linesA st0 (linesR s).1).2)), .bool b])) ∧ Below w.heap.size w W') := by
  refine (l13Run_is s w hs).mono ?_;rintro e W' ⟨hA, hb⟩;refine ⟨?_, hb⟩
  by_cases hg : (linesR s).2 = true
  ·rw [if_pos hg] at hA;obtain ⟨q, _, he, _⟩ := hA;exact ⟨q, true, he⟩
  ·rw [if_neg hg] at hA;obtain ⟨q, he⟩ := hA;refine ⟨q, false, ?_⟩;rw [he, linesR_bad hg]; rfl
 rw [show AnsRP w s = fun e W' => e = .returned (.string (tx (catL (linesA st0 (linesR s).1).2))) ∧ Below w.heap.size w W' from rfl];obtain ⟨T, hT⟩ : ∃ T, T = tx (catL (linesA st0 (linesR s).1).2) := ⟨_, rfl⟩;rw [← hT] at HP ⊢;clear hT;go_enter Tryz.func14, Tryz.ntmps14;go_wp2_with fail;refine HP.out.mono ?_;rintro e w1 ⟨⟨q, b, rfl⟩, hb1⟩;have HB := hid hb1;clear hb1 HP;go_wp2;refine bodyPost_ret (v := .string T) (by simp [results, Tryz.results14, go_sem]) rfl ?_;exact ⟨rfl, HB.out⟩
set_option maxRecDepth 100000 in
set_option maxHeartbeats 8000000 in
theorem runPipe_is (n0 : Nat) (s : ByteArray) (W : World) (ea : Nat → Addr) (hs : s.size ≤ 1048576) (hV : Env n0 W ea) (hn : n0 ≤ W.heap.size) :
  Calls Tryz.prog 13 #[.string s] W (AnsRP W s) := by
 obtain ⟨xs, hxs⟩ : ∃ xs, xs = (linesA st0 (linesR s).1).2 := ⟨_, rfl⟩;have HFT : Hid (∀ k, (catL (xs.take k)).length ≤ 200 * 200000001) := fun k => by rw [hxs]; exact catL_fit s k
 have HSZ : Hid (∀ t ∈ xs, t.size ≤ 200000000) := fun t ht => linesA_size _ SSI.start t (by rw [hxs] at ht; exact ht)
 have hxl : xs.length ≤ 200 := by rw [hxs, linesA_len]; exact linesR_len s
 have HP : Hid (Calls Tryz.prog 40 #[.string s] W fun e W' => (∃ pq ao c b, e = .returned (.tuple #[.pointer pq, .slice ao xs.length c, .bool b]) ∧ kS.In W'.heap.size W' ao xs) ∧ Below W.heap.size W W') := by
  refine (playScript_is n0 s W ea hs hV hn).mono ?_;rintro e W' ⟨hA, hb⟩;refine ⟨?_, hb⟩
  by_cases hg : (linesR s).2 = true
  ·rw [if_pos hg] at hA;obtain ⟨q, O, ao, c, _, he, _, hI⟩ := hA;exact ⟨_, ao, c, true, by rw [hxs]; exact he, by rw [hxs]; exact hI⟩
  ·rw [if_neg hg] at hA;rw [linesR_bad hg] at hxs;have h0 : xs = [] := hxs;exact ⟨none, none, 0, false, by rw [hA, h0]; rfl, by rw [h0]; exact .inl rfl⟩
 rw [show AnsRP W s = fun e W' => e = .returned (.string (tx (catL (linesA st0 (linesR s).1).2))) ∧ Below W.heap.size W W' from rfl, ← hxs];clear hxs hV;go_enter Tryz.func13, Tryz.ntmps13;go_wp2_with fail;refine HP.out.mono ?_;rintro e w1 ⟨⟨pq, ao, c, b, rfl, hI⟩, hb1⟩;obtain ⟨W2, h2⟩ : ∃ V, V = w1.alloc (.cells #[.pointer none, .slice none 0 0] 78) := ⟨_, rfl⟩;have HU : Hid (BuS w1.heap.size w1.heap.size (catL (xs.take 0)) W2) := by rw [h2]; exact BuS.new w1
 have hb2 : Below w1.heap.size w1 W2 := by rw [h2]; exact below1 _ _
 have HI := hid hI;have HB1 := hid hb1;have HB2 := hid hb2;have H2 := hid h2;clear h2 hb2 hI hb1 HP
 go_upto_region 3 with fail
 rw [← H2.out];clear H2;go_wp2
 go_loopw [17] (fun i wr => ∃ k : Nat, k ≤ xs.length ∧ i = .int .i64 (k : Int) ∧ Hid (BuS w1.heap.size w1.heap.size (catL (xs.take k)) wr) ∧ Hid (Below w1.heap.size w1 wr)) (fun i _ => xs.length - (intOf i).toNat)
 case atStart => exact ⟨0, Nat.zero_le _, rfl, HU, HB2⟩
 case round =>
  obtain ⟨k, hk, rfl, hU, hB⟩ := hrel
  by_cases hlt : k < xs.length
  ·obtain ⟨tb, off, rfl, hb, hc⟩ := texts_at HI.out hlt;have e0 := (hB.out.cell (p := ⟨tb, off + k, none⟩) hb).trans (hc k hlt);have hbz : tb < wr.heap.size := Nat.lt_of_lt_of_le hb hB.out.size;have hts := HSZ.out _ (el_mem hlt);have hft := HFT.out k;have hsn : catL (xs.take (k + 1)) = (catL (xs.take k) ++ (el xs k).data.toList) ++ [10] := by rw [take_succ_el hlt, catL_snoc, List.append_assoc]
   obtain ⟨t, ht⟩ : ∃ t, t = el xs k := ⟨_, rfl⟩;rw [← ht] at e0 hts hsn;obtain ⟨acc, hacc⟩ : ∃ acc, acc = catL (xs.take k) := ⟨_, rfl⟩;rw [← hacc] at hU hft hsn;have HSN := hid hsn;have HW := hid (wrStr_is w1.heap.size w1.heap.size acc t wr hU.out (by omega) hB.out.size);have HBr := hid hB.out;have hdl : t.data.toList.length = t.size := Array.length_toList;have HLN : Hid ((acc ++ t.data.toList).length + 1 ≤ 140737488355328) := by rw [Hid, List.length_append, hdl]; omega
   clear ht hacc hsn hU hB hc hdl;go_wp2_with fail;refine HW.out.mono ?_;rintro e w4 ⟨⟨mm, rfl⟩, hU4, hb4⟩;have HB4 := hid (HBr.out.trans hb4);have HW2 := hid (wrByte_is w1.heap.size w1.heap.size (acc ++ t.data.toList) w4 hU4 HLN.out HB4.out.size);clear hU4 hb4 HW e0;go_wp2_with fail;refine HW2.out.mono ?_;rintro e w5 ⟨rfl, hU5, hb5⟩;have HB5 := hid (HB4.out.trans hb5);have HU5 := hid hU5;clear hU5 hb5 HW2;go_wp2;go_roundw
   case rel => exact ⟨k + 1, by omega, by go_num, by rw [HSN.out]; exact HU5, HB5⟩
   case measure => simp [intOf]; omega
  ·obtain rfl : k = xs.length := by omega
   rw [List.take_length] at hU;have HW := hid (wrTold_is w1.heap.size w1.heap.size (catL xs) wr hU.out hB.out.size);have HBr := hid hB.out;obtain ⟨T, hT⟩ : ∃ T, T = tx (catL xs) := ⟨_, rfl⟩;rw [← hT] at HW;have HT := hid hT;clear hU hB hT;go_wp2_with fail;refine HW.out.mono ?_;rintro e w4 ⟨rfl, hb4⟩;have HB4 := hid (HBr.out.trans hb4);clear hb4 HW;go_wp2;refine bodyPost_ret (v := .string T) (by simp [results, Tryz.results13, go_sem]) rfl ?_;exact ⟨by rw [HT.out], HB1.out.trans (HB4.out.mono HB1.out.size)⟩
end
section
open Go.ChangeShapes Go.WideShapes Go.ChangeAt Go.RowKit Go.Joins Go.Deep

theorem Tryz.own : ownKnob Tryz.prog.godebug = none := by kernel_rfl
theorem Tryz.laidOut : laidOutB Tryz.prog = true := by kernel_rfl
end
section
open Go.ChangeShapes Go.WideShapes Go.ChangeAt Go.RowKit Go.Joins Go.Deep
end
end Go.Proofs.YtdacedbfnlkghaaGreatDoor
