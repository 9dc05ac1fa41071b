
/- A pipe told in a line: both sides. No conditions but those written. A command's move: the program. No conditions but those written. A graph in its own memory to which a read node is added; what a script has come to, plainly. No conditions but those written. A script's object where it is not begun, and a node added: the program. No conditions but those written. errors.Is at the program's own errors. No conditions but those written. -/
import Derived.Test.YtdacedbfnlkghaaGreatDoorPEiMo
import Derived.Test.YtdacedbfnlkghaaGreatDoorPZcZh
import Derived.Test.YtdacedbfnlkghaaGreatDoorPXkTnb
import Derived.Test.YtdacedbfnlkghaaGreatDoorPXrQt
import Derived.Test.YtdacedbfnlkghaaGreatDoorPScmMj
import Derived.Deep.RegionLaw
import Derived.Deep.RegionWith
import Derived.Test.YtdacedbfnlkghaaGreatDoorPTphZi
import Derived.Test.YtdacedbfnlkghaaGreatDoorPCvbSlo
import Derived.Deep.Cut
import Derived.Deep.DeepCutAuto
import Derived.Test.YtdacedbfnlkghaaGreatDoorPOsZe
import Derived.LaidEql
import Derived.Stop.Asserts
import Derived.RowKitTokens
namespace Go.Proofs.YtdacedbfnlkghaaGreatDoor
section
open Go.RowKit

set_option maxHeartbeats 1000000 in
theorem countT_is (ao : Option Addr) (cap : Nat) (ls : List (List (Int × Int × Int))) (w : World) (hl : ls.length ≤ 1048576 ∧ totT ls ≤ 1048576) (hz : InTT w.heap.size w ao ls) :
  Calls Tryz.prog 169 #[.slice ao ls.length cap] w fun e w' => e = .returned (.int .i64 (totT ls : Int)) ∧ w' = w := by
 obtain ⟨hs, hz⟩ := hz;have h1 := hl.1;have h2 := hl.2;go_enter Tryz.func169, Tryz.ntmps169;go_wp2
 go_loop [3, 8] (fun v i => ∃ k : Nat, k ≤ ls.length ∧ i = .int .i64 k ∧ v = .int .i64 (totT (ls.take k) : Int)) (fun _ i => ls.length - (intOf i).toNat)
 case atStart => exact ⟨0, Nat.zero_le _, rfl, by simp [totT]⟩
 case round =>
  obtain ⟨k, hk, rfl, rfl⟩ := hrel
  by_cases hlt : k < ls.length
  ·obtain ⟨b, off, o, c, rfl, hb, hc, _, _⟩ := hz.at hlt;have ht := totT_take hlt;have hle := totT_el hlt
   generalize (el ls k).length = x at hc ht hle
   have HT := hid ht;clear ht;go_wp2;go_round
   case rel => exact ⟨k + 1, by omega, by go_num, by rw [HT.out]; go_num⟩
   case measure => simp [intOf]; omega
  ·obtain rfl : k = ls.length := by omega
   rw [List.take_length];go_wp2;go_ret;exact ⟨rfl, rfl⟩
set_option maxHeartbeats 1000000 in
theorem liveS_is (ti it : Int) (cl : Bool) (ao : Option Addr) (cap : Nat) (ls : List (List (Int × Int × Int))) (emo : Option Addr) (nem emc : Nat) (fao : Option Addr) (nfa fac : Nat) (fuo : Option Addr) (nfu fuc : Nat) (w : World) (hl : ls.length ≤ 1048576 ∧ totT ls ≤ 1048576) (hz : InTT w.heap.size w ao ls) :
  Calls Tryz.prog 183 #[.agg #[.int .i64 ti, .int .i64 it, .bool cl, .slice ao ls.length cap, .slice emo nem emc, .slice fao nfa fac, .slice fuo nfu fuc]] w fun e w' => e = .returned (.int .i64 (totT ls : Int)) ∧ Below w.heap.size w w' := by
 obtain ⟨hs, hz⟩ := hz;have h1 := hl.1;have h2 := hl.2;have hB := below1 w (.cells #[.int .i64 ti, .int .i64 it, .bool cl, .slice ao ls.length cap, .slice emo nem emc, .slice fao nfa fac, .slice fuo nfu fuc] 48);have HZ := hid (hz.later hB);have HB := hid hB;obtain ⟨V, hV⟩ : ∃ V, V = w.alloc (.cells #[.int .i64 ti, .int .i64 it, .bool cl, .slice ao ls.length cap, .slice emo nem emc, .slice fao nfa fac, .slice fuo nfu fuc] 48) := ⟨_, rfl⟩;rw [← hV] at HZ HB;have HV := hid hV;clear hV hz hB;go_enter Tryz.func183, Tryz.ntmps183;go_wp2;rw [← HV.out]
 go_loop [3, 9] (fun v i => ∃ k : Nat, k ≤ ls.length ∧ i = .int .i64 k ∧ v = .int .i64 (totT (ls.take k) : Int)) (fun _ i => ls.length - (intOf i).toNat)
 case atStart => exact ⟨0, Nat.zero_le _, rfl, by simp [totT]⟩
 case round =>
  obtain ⟨k, hk, rfl, rfl⟩ := hrel
  by_cases hlt : k < ls.length
  ·obtain ⟨b, off, o, c, rfl, hb, hc, _, _⟩ := HZ.out.at hlt;have ht := totT_take hlt;have hle := totT_el hlt
   generalize (el ls k).length = x at hc ht hle
   have HT := hid ht;clear ht;go_wp2;go_round
   case rel => exact ⟨k + 1, by omega, by go_num, by rw [HT.out]; go_num⟩
   case measure => simp [intOf]; omega
  ·obtain rfl : k = ls.length := by omega
   rw [List.take_length];go_wp2;go_ret;exact ⟨rfl, HB.out⟩
theorem ba_nil (a : ByteArray) : a ++ tx [] = a := by apply ByteArray.ext; simp [tx, ByteArray.data_append]
theorem ba_assoc (a b c : ByteArray) : (a ++ b) ++ c = a ++ (b ++ c) := by apply ByteArray.ext; simp [ByteArray.data_append]
/-- What is told of a pipe. -/
def repP (it : Int) (nem nfa live : Nat) (cl : Bool) : ByteArray :=
 (((((((tx [105, 116, 101, 109, 115, 32] ++ tx (Lib.itoa it)) ++ tx [32, 101, 109, 105, 116, 116, 101, 100, 32]) ++ tx (Lib.itoa (nem : Int))) ++ tx [32, 102, 97, 105, 108, 101, 100, 32]) ++ tx (Lib.itoa (nfa : Int))) ++ tx [32, 108, 105, 118, 101, 32]) ++ tx (Lib.itoa (live : Int))) ++ (if cl then tx [32, 99, 108, 111, 115, 101, 100] else tx [])
set_option maxRecDepth 100000 in
set_option maxHeartbeats 1000000 in
theorem specReport_is (ti it : Int) (cl : Bool) (ao : Option Addr) (cap : Nat) (ls : List (List (Int × Int × Int))) (emo : Option Addr) (nem emc : Nat) (fao : Option Addr) (nfa fac : Nat) (fuo : Option Addr) (nfu fuc : Nat) (w : World) (hi0 : -9223372036854775808 ≤ it) (hi1 : it ≤ 9223372036854775807) (hle : nem ≤ 1048576) (hlf : nfa ≤ 1048576) (hl : ls.length ≤ 1048576 ∧ totT ls ≤ 1048576) (hz : InTT w.heap.size w ao ls) :
  Calls Tryz.prog 142 #[.agg #[.int .i64 ti, .int .i64 it, .bool cl, .slice ao ls.length cap, .slice emo nem emc, .slice fao nfa fac, .slice fuo nfu fuc]] w fun e w' => e = .returned (.string (repP it nem nfa (totT ls) cl)) ∧ Below w.heap.size w w' := by
 have h2 := hl.2;have hN1 := fun W => num_any it hi0 hi1 W
 have hN2 := fun W => num_any (nem : Int) (by omega) (by omega) W
 have hN3 := fun W => num_any (nfa : Int) (by omega) (by omega) W
 have hN4 := fun W => num_any (totT ls : Int) (by omega) (by omega) W
 have s1 : (tx (Lib.itoa it)).size ≤ 21 := by rw [tx_size]; exact itoa_short _ hi0 hi1
 have s2 : (tx (Lib.itoa (nem : Int))).size ≤ 21 := by rw [tx_size]; exact itoa_short _ (by omega) (by omega)
 have s3 : (tx (Lib.itoa (nfa : Int))).size ≤ 21 := by rw [tx_size]; exact itoa_short _ (by omega) (by omega)
 have s4 : (tx (Lib.itoa (totT ls : Int))).size ≤ 21 := by rw [tx_size]; exact itoa_short _ (by omega) (by omega)
 have hR : repP it nem nfa (totT ls) cl = (((((((tx [105, 116, 101, 109, 115, 32] ++ tx (Lib.itoa it)) ++ tx [32, 101, 109, 105, 116, 116, 101, 100, 32]) ++ tx (Lib.itoa (nem : Int))) ++ tx [32, 102, 97, 105, 108, 101, 100, 32]) ++ tx (Lib.itoa (nfa : Int))) ++ tx [32, 108, 105, 118, 101, 32]) ++ tx (Lib.itoa (totT ls : Int))) ++ (if cl then tx [32, 99, 108, 111, 115, 101, 100] else tx []) := rfl
 generalize tx (Lib.itoa it) = t1 at *
 generalize tx (Lib.itoa (nem : Int)) = t2 at *
 generalize tx (Lib.itoa (nfa : Int)) = t3 at *
 generalize tx (Lib.itoa (totT ls : Int)) = t4 at *
 have HR := hid hR;have HN1 := hid hN1;have HN2 := hid hN2;have HN3 := hid hN3;have HN4 := hid hN4;have HL := hid hl;have hB := below1 w (.cells #[.int .i64 ti, .int .i64 it, .bool cl, .slice ao ls.length cap, .slice emo nem emc, .slice fao nfa fac, .slice fuo nfu fuc] 48);have XV := Bx.new (w := w) [.int .i64 ti, .int .i64 it, .bool cl, .slice ao ls.length cap, .slice emo nem emc, .slice fao nfa fac, .slice fuo nfu fuc] 48 rfl;have HZ := hid (hz.later hB);obtain ⟨V, hV⟩ : ∃ V, V = w.alloc (.cells #[.int .i64 ti, .int .i64 it, .bool cl, .slice ao ls.length cap, .slice emo nem emc, .slice fao nfa fac, .slice fuo nfu fuc] 48) := ⟨_, rfl⟩;have XV' : Bx V w.heap.size [.int .i64 ti, .int .i64 it, .bool cl, .slice ao ls.length cap, .slice emo nem emc, .slice fao nfa fac, .slice fuo nfu fuc] := by rw [hV]; exact XV
 rw [← hV] at HZ hB;have HB := hid hB;have HV := hid hV;have HX := hid XV';clear hV hz hB XV XV' hN1 hN2 hN3 hN4 hR hl;go_enter Tryz.func142, Tryz.ntmps142;have hNE := later_some V;have x0 := HX.out.at 0 rfl;have x1 := HX.out.at 1 rfl;have x2 := HX.out.at 2 rfl;have x3 := HX.out.at 3 rfl;have x4 := HX.out.at 4 rfl;have x5 := HX.out.at 5 rfl;have x6 := HX.out.at 6 rfl;go_wp2_with fail;rw [← HV.out];refine wp_region_later V (by kernel_rfl) (by kernel_rfl) (Below.refl _ _) ?_
 repeat (go_big_quiet_step (first
  | (go_at_call 183; exact Calls.later (liveS_is ti it cl ao cap ls emo nem emc fao nfa fac fuo nfu fuc _ HL.out (by rename_i W; exact HZ.out.later W.h)))
  | (go_at_call 73; first | (with_reducible exact Calls.later (HN1.out _)) | (with_reducible exact Calls.later (HN2.out _)) | (with_reducible exact Calls.later (HN3.out _)) | (with_reducible exact Calls.later (HN4.out _)))))
 refine wpQuiet_nil ?_;rintro w4 ⟨⟨w5, hb4⟩, hw5⟩;obtain rfl : w4 = w5 := hw5;clear x0 x1 x2 x3 x4 x5 x6 hNE;have X4 := HX.out.later hb4;have y2 := X4.c 2 rfl;have HB4 := hid (HB.out.trans (hb4.mono HB.out.size));clear hb4 X4
 cases cl
 ·go_wp2;go_ret;exact ⟨by rw [HR.out, if_neg (by simp), ba_nil]; rfl, HB4.out⟩
 ·go_wp2;go_ret;exact ⟨by rw [HR.out]; rfl, HB4.out⟩
set_option maxRecDepth 100000 in
set_option maxHeartbeats 1000000 in
theorem implReport_is (ti it : Int) (cl : Bool) (ao : Option Addr) (cap : Nat) (ls : List (List (Int × Int × Int))) (emo : Option Addr) (nem emc : Nat) (fao : Option Addr) (nfa fac : Nat) (fuo : Option Addr) (nfu fuc : Nat) (w : World) (hi0 : -9223372036854775808 ≤ it) (hi1 : it ≤ 9223372036854775807) (hle : nem ≤ 1048576) (hlf : nfa ≤ 1048576) (hl : ls.length ≤ 1048576 ∧ totT ls ≤ 1048576) (hz : InTT w.heap.size w ao ls) (hT : PowTab w) :
  Calls Tryz.prog 129 #[.agg #[.int .i64 ti, .int .i64 it, .bool cl, .slice ao ls.length cap, .slice emo nem emc, .slice fao nfa fac, .slice fuo nfu fuc]] w fun e w' => e = .returned (.string (repP it nem nfa (totT ls) cl)) ∧ Below w.heap.size w w' := by
 have h2 := hl.2;have hN1 := fun W => itoa_any it hi0 hi1 W
 have hN2 := fun W => itoa_any (nem : Int) (by omega) (by omega) W
 have hN3 := fun W => itoa_any (nfa : Int) (by omega) (by omega) W
 have hN4 := fun W => itoa_any (totT ls : Int) (by omega) (by omega) W
 have s1 : (tx (Lib.itoa it)).size ≤ 21 := by rw [tx_size]; exact itoa_short _ hi0 hi1
 have s2 : (tx (Lib.itoa (nem : Int))).size ≤ 21 := by rw [tx_size]; exact itoa_short _ (by omega) (by omega)
 have s3 : (tx (Lib.itoa (nfa : Int))).size ≤ 21 := by rw [tx_size]; exact itoa_short _ (by omega) (by omega)
 have s4 : (tx (Lib.itoa (totT ls : Int))).size ≤ 21 := by rw [tx_size]; exact itoa_short _ (by omega) (by omega)
 have hR : repP it nem nfa (totT ls) cl = (((tx [105, 116, 101, 109, 115, 32] ++ tx (Lib.itoa it)) ++ (tx [32, 101, 109, 105, 116, 116, 101, 100, 32] ++ tx (Lib.itoa (nem : Int)))) ++ (tx [32, 102, 97, 105, 108, 101, 100, 32] ++ tx (Lib.itoa (nfa : Int)))) ++ (tx [32, 108, 105, 118, 101, 32] ++ tx (Lib.itoa (totT ls : Int))) ++ (if cl then tx [32, 99, 108, 111, 115, 101, 100] else tx []) := by simp only [repP, ba_assoc]
 generalize tx (Lib.itoa it) = t1 at *
 generalize tx (Lib.itoa (nem : Int)) = t2 at *
 generalize tx (Lib.itoa (nfa : Int)) = t3 at *
 generalize tx (Lib.itoa (totT ls : Int)) = t4 at *
 have HR := hid hR;have HN1 := hid hN1;have HN2 := hid hN2;have HN3 := hid hN3;have HN4 := hid hN4;have HL := hid hl;have hB0 := below1 w (.cells #[.int .i64 ti, .int .i64 it, .bool cl, .slice ao ls.length cap, .slice emo nem emc, .slice fao nfa fac, .slice fuo nfu fuc] 48);have X0 := hid (Bx.new (w := w) [.int .i64 ti, .int .i64 it, .bool cl, .slice ao ls.length cap, .slice emo nem emc, .slice fao nfa fac, .slice fuo nfu fuc] 48 rfl);have HZ := hid hz;have HT := hid hT;clear hz hT hN1 hN2 hN3 hN4 hR hl;go_enter Tryz.func129, Tryz.ntmps129;go_wp2_with fail;refine (HN1.out _ (HT.out.later hB0)).mono ?_;rintro e w1 ⟨rfl, hb1⟩;have hB1 := hB0.trans (hb1.mono hB0.size);have X1 := hid (X0.out.later hb1);clear hb1 X0 hB0;have x4 := X1.out.c 4 rfl;go_wp2_with fail;refine (HN2.out _ (HT.out.later hB1)).mono ?_;rintro e w2 ⟨rfl, hb2⟩;have hB2 := hB1.trans (hb2.mono hB1.size);have X2 := hid (X1.out.later hb2);clear hb2 X1 hB1 x4;have x5 := X2.out.c 5 rfl;go_wp2_with fail;refine (HN3.out _ (HT.out.later hB2)).mono ?_;rintro e w3 ⟨rfl, hb3⟩;have hB3 := hB2.trans (hb3.mono hB2.size);have X3 := hid (X2.out.later hb3);clear hb3 X2 hB2 x5;have x3 := X3.out.c 3 rfl;go_wp2_with fail;refine (countT_is ao cap ls _ HL.out (HZ.out.later hB3)).mono ?_;rintro e w4 ⟨rfl, hw4⟩;rw [hw4]; clear hw4 w4
 go_wp2_with fail;refine (HN4.out _ (HT.out.later hB3)).mono ?_;rintro e w4 ⟨rfl, hb4⟩;have HB4 := hid (hB3.trans (hb4.mono hB3.size));have y2 := (X3.out.later hb4).c 2 rfl;clear hb4 X3 hB3 x3
 cases cl
 ·go_wp2;go_ret;exact ⟨by rw [HR.out, if_neg (by simp), ba_nil]; rfl, HB4.out⟩
 ·go_wp2;go_ret;exact ⟨by rw [HR.out]; rfl, HB4.out⟩
end
section
open Go.RowKit

/-- The move of a command with its numbers. -/
def mvR (k : Int) (l : List Int) : Int × Int × Int := if k = 1 then (k, el l 0, el l 1) else if k = 2 ∨ k = 3 then (k, el l 0, 0) else if k = 4 then (k, 0, el l 0) else (k, 0, 0)
set_option maxHeartbeats 4000000 in
theorem moveOf_1 (x0 x1 : Int) (ao : Option Addr) (c : Nat) (w : World) (hz : kI.In w.heap.size w ao ([x0, x1] : List Int)) :
  Calls Tryz.prog 136 #[.int .i64 1, .slice ao 2 c] w fun e w' => e = .returned (.agg #[.int .i64 1, .int .i64 x0, .int .i64 x1]) ∧ Below w.heap.size w w' := by
 obtain ⟨b, off, rfl, hb, hc⟩ := ints_at hz (k := 0) (by simp);have d0 : w.cell? ⟨b, off, none⟩ = some (.int .i64 x0) := hc 0 (by simp);have d1 : w.cell? ⟨b, off + 1, none⟩ = some (.int .i64 x1) := hc 1 (by simp);clear hc hz;obtain ⟨w1, h1⟩ : ∃ q, q = (w.alloc (.cells #[.int .i64 0, .int .i64 0, .int .i64 0] 127)).alloc (.cells #[.int .i64 1, .int .i64 0, .int .i64 0] 127) := ⟨_, rfl⟩;have hb1 : Below w.heap.size w w1 := by rw [h1]; exact below2 _ _ _
 have hs1 : w1.heap.size = w.heap.size + 2 := by rw [h1]; simp
 have XR : Bx w1 w.heap.size [.int .i64 0, .int .i64 0, .int .i64 0] := by rw [h1]; exact (Bx.new (w := w) [.int .i64 0, .int .i64 0, .int .i64 0] _ rfl).alloc _
 have XA : Bx w1 (w.heap.size + 1) [.int .i64 1, .int .i64 0, .int .i64 0] := by rw [h1]; exact Bx.new (w := w.alloc (.cells #[.int .i64 0, .int .i64 0, .int .i64 0] 127)) [.int .i64 1, .int .i64 0, .int .i64 0] _ (by simp)
 have H1 := hid h1;have e0 := (hb1.cell (p := ⟨b, off, none⟩) hb).trans d0;have e1 := (hb1.cell (p := ⟨b, off + 1, none⟩) hb).trans d1;have HB1 := hid hb1;have hsz := hs1;clear h1 hb1 hs1 d0 d1;have r0 := XR.c 0 rfl;have r1 := XR.c 1 rfl;have r2 := XR.c 2 rfl;have s0 := XR.f 0 rfl;have s1 := XR.f 1 rfl;have s2 := XR.f 2 rfl;have a0 := XA.c 0 rfl;have a1 := XA.c 1 rfl;have a2 := XA.c 2 rfl;have b0 := XA.f 0 rfl;have b1 := XA.f 1 rfl;have b2 := XA.f 2 rfl;clear XR XA;go_enter Tryz.func136, Tryz.ntmps136
 go_upto_region 2 with fail
 rw [← H1.out];clear H1;go_wp2
 go_region
 all_goals go_wp2
 all_goals refine bodyPost_ret (v := .agg #[.int .i64 1, .int .i64 x0, .int .i64 x1]) (by simp [results, Tryz.results136, go_sem, r0, r1, r2]) rfl ⟨rfl, ?_⟩
 all_goals repeat' (first | exact HB1.out | refine Below.drew ?_ | refine Below.setCell ?_ (by dsimp only; omega) _)
set_option maxHeartbeats 4000000 in
theorem moveOf_2 (x0 : Int) (ao : Option Addr) (c : Nat) (w : World) (hz : kI.In w.heap.size w ao ([x0] : List Int)) :
  Calls Tryz.prog 136 #[.int .i64 2, .slice ao 1 c] w fun e w' => e = .returned (.agg #[.int .i64 2, .int .i64 x0, .int .i64 0]) ∧ Below w.heap.size w w' := by
 obtain ⟨b, off, rfl, hb, hc⟩ := ints_at hz (k := 0) (by simp);have d0 : w.cell? ⟨b, off, none⟩ = some (.int .i64 x0) := hc 0 (by simp);clear hc hz;obtain ⟨w1, h1⟩ : ∃ q, q = (w.alloc (.cells #[.int .i64 0, .int .i64 0, .int .i64 0] 127)).alloc (.cells #[.int .i64 2, .int .i64 0, .int .i64 0] 127) := ⟨_, rfl⟩;have hb1 : Below w.heap.size w w1 := by rw [h1]; exact below2 _ _ _
 have hs1 : w1.heap.size = w.heap.size + 2 := by rw [h1]; simp
 have XR : Bx w1 w.heap.size [.int .i64 0, .int .i64 0, .int .i64 0] := by rw [h1]; exact (Bx.new (w := w) [.int .i64 0, .int .i64 0, .int .i64 0] _ rfl).alloc _
 have XA : Bx w1 (w.heap.size + 1) [.int .i64 2, .int .i64 0, .int .i64 0] := by rw [h1]; exact Bx.new (w := w.alloc (.cells #[.int .i64 0, .int .i64 0, .int .i64 0] 127)) [.int .i64 2, .int .i64 0, .int .i64 0] _ (by simp)
 have H1 := hid h1;have e0 := (hb1.cell (p := ⟨b, off, none⟩) hb).trans d0;have HB1 := hid hb1;have hsz := hs1;clear h1 hb1 hs1 d0;have r0 := XR.c 0 rfl;have r1 := XR.c 1 rfl;have r2 := XR.c 2 rfl;have s0 := XR.f 0 rfl;have s1 := XR.f 1 rfl;have s2 := XR.f 2 rfl;have a0 := XA.c 0 rfl;have a1 := XA.c 1 rfl;have a2 := XA.c 2 rfl;have b0 := XA.f 0 rfl;have b1 := XA.f 1 rfl;have b2 := XA.f 2 rfl;clear XR XA;go_enter Tryz.func136, Tryz.ntmps136
 go_upto_region 2 with fail
 rw [← H1.out];clear H1;go_wp2
 all_goals refine bodyPost_ret (v := .agg #[.int .i64 2, .int .i64 x0, .int .i64 0]) (by simp [results, Tryz.results136, go_sem, r0, r1, r2]) rfl ⟨rfl, ?_⟩
 all_goals repeat' (first | exact HB1.out | refine Below.drew ?_ | refine Below.setCell ?_ (by dsimp only; omega) _)
set_option maxHeartbeats 4000000 in
theorem moveOf_3 (x0 : Int) (ao : Option Addr) (c : Nat) (w : World) (hz : kI.In w.heap.size w ao ([x0] : List Int)) :
  Calls Tryz.prog 136 #[.int .i64 3, .slice ao 1 c] w fun e w' => e = .returned (.agg #[.int .i64 3, .int .i64 x0, .int .i64 0]) ∧ Below w.heap.size w w' := by
 obtain ⟨b, off, rfl, hb, hc⟩ := ints_at hz (k := 0) (by simp);have d0 : w.cell? ⟨b, off, none⟩ = some (.int .i64 x0) := hc 0 (by simp);clear hc hz;obtain ⟨w1, h1⟩ : ∃ q, q = (w.alloc (.cells #[.int .i64 0, .int .i64 0, .int .i64 0] 127)).alloc (.cells #[.int .i64 3, .int .i64 0, .int .i64 0] 127) := ⟨_, rfl⟩;have hb1 : Below w.heap.size w w1 := by rw [h1]; exact below2 _ _ _
 have hs1 : w1.heap.size = w.heap.size + 2 := by rw [h1]; simp
 have XR : Bx w1 w.heap.size [.int .i64 0, .int .i64 0, .int .i64 0] := by rw [h1]; exact (Bx.new (w := w) [.int .i64 0, .int .i64 0, .int .i64 0] _ rfl).alloc _
 have XA : Bx w1 (w.heap.size + 1) [.int .i64 3, .int .i64 0, .int .i64 0] := by rw [h1]; exact Bx.new (w := w.alloc (.cells #[.int .i64 0, .int .i64 0, .int .i64 0] 127)) [.int .i64 3, .int .i64 0, .int .i64 0] _ (by simp)
 have H1 := hid h1;have e0 := (hb1.cell (p := ⟨b, off, none⟩) hb).trans d0;have HB1 := hid hb1;have hsz := hs1;clear h1 hb1 hs1 d0;have r0 := XR.c 0 rfl;have r1 := XR.c 1 rfl;have r2 := XR.c 2 rfl;have s0 := XR.f 0 rfl;have s1 := XR.f 1 rfl;have s2 := XR.f 2 rfl;have a0 := XA.c 0 rfl;have a1 := XA.c 1 rfl;have a2 := XA.c 2 rfl;have b0 := XA.f 0 rfl;have b1 := XA.f 1 rfl;have b2 := XA.f 2 rfl;clear XR XA;go_enter Tryz.func136, Tryz.ntmps136
 go_upto_region 2 with fail
 rw [← H1.out];clear H1;go_wp2
 all_goals refine bodyPost_ret (v := .agg #[.int .i64 3, .int .i64 x0, .int .i64 0]) (by simp [results, Tryz.results136, go_sem, r0, r1, r2]) rfl ⟨rfl, ?_⟩
 all_goals repeat' (first | exact HB1.out | refine Below.drew ?_ | refine Below.setCell ?_ (by dsimp only; omega) _)
set_option maxHeartbeats 4000000 in
theorem moveOf_4 (x0 : Int) (ao : Option Addr) (c : Nat) (w : World) (hz : kI.In w.heap.size w ao ([x0] : List Int)) :
  Calls Tryz.prog 136 #[.int .i64 4, .slice ao 1 c] w fun e w' => e = .returned (.agg #[.int .i64 4, .int .i64 0, .int .i64 x0]) ∧ Below w.heap.size w w' := by
 obtain ⟨b, off, rfl, hb, hc⟩ := ints_at hz (k := 0) (by simp);have d0 : w.cell? ⟨b, off, none⟩ = some (.int .i64 x0) := hc 0 (by simp);clear hc hz;obtain ⟨w1, h1⟩ : ∃ q, q = (w.alloc (.cells #[.int .i64 0, .int .i64 0, .int .i64 0] 127)).alloc (.cells #[.int .i64 4, .int .i64 0, .int .i64 0] 127) := ⟨_, rfl⟩;have hb1 : Below w.heap.size w w1 := by rw [h1]; exact below2 _ _ _
 have hs1 : w1.heap.size = w.heap.size + 2 := by rw [h1]; simp
 have XR : Bx w1 w.heap.size [.int .i64 0, .int .i64 0, .int .i64 0] := by rw [h1]; exact (Bx.new (w := w) [.int .i64 0, .int .i64 0, .int .i64 0] _ rfl).alloc _
 have XA : Bx w1 (w.heap.size + 1) [.int .i64 4, .int .i64 0, .int .i64 0] := by rw [h1]; exact Bx.new (w := w.alloc (.cells #[.int .i64 0, .int .i64 0, .int .i64 0] 127)) [.int .i64 4, .int .i64 0, .int .i64 0] _ (by simp)
 have H1 := hid h1;have e0 := (hb1.cell (p := ⟨b, off, none⟩) hb).trans d0;have HB1 := hid hb1;have hsz := hs1;clear h1 hb1 hs1 d0;have r0 := XR.c 0 rfl;have r1 := XR.c 1 rfl;have r2 := XR.c 2 rfl;have s0 := XR.f 0 rfl;have s1 := XR.f 1 rfl;have s2 := XR.f 2 rfl;have a0 := XA.c 0 rfl;have a1 := XA.c 1 rfl;have a2 := XA.c 2 rfl;have b0 := XA.f 0 rfl;have b1 := XA.f 1 rfl;have b2 := XA.f 2 rfl;clear XR XA;go_enter Tryz.func136, Tryz.ntmps136
 go_upto_region 2 with fail
 rw [← H1.out];clear H1;go_wp2
 all_goals refine bodyPost_ret (v := .agg #[.int .i64 4, .int .i64 0, .int .i64 x0]) (by simp [results, Tryz.results136, go_sem, r0, r1, r2]) rfl ⟨rfl, ?_⟩
 all_goals repeat' (first | exact HB1.out | refine Below.drew ?_ | refine Below.setCell ?_ (by dsimp only; omega) _)
set_option maxHeartbeats 4000000 in
theorem moveOf_5 (ao : Option Addr) (c : Nat) (w : World) (_hz : kI.In w.heap.size w ao ([] : List Int)) :
  Calls Tryz.prog 136 #[.int .i64 5, .slice ao 0 c] w fun e w' => e = .returned (.agg #[.int .i64 5, .int .i64 0, .int .i64 0]) ∧ Below w.heap.size w w' := by
 obtain ⟨w1, h1⟩ : ∃ q, q = (w.alloc (.cells #[.int .i64 0, .int .i64 0, .int .i64 0] 127)).alloc (.cells #[.int .i64 5, .int .i64 0, .int .i64 0] 127) := ⟨_, rfl⟩;have hb1 : Below w.heap.size w w1 := by rw [h1]; exact below2 _ _ _
 have hs1 : w1.heap.size = w.heap.size + 2 := by rw [h1]; simp
 have XR : Bx w1 w.heap.size [.int .i64 0, .int .i64 0, .int .i64 0] := by rw [h1]; exact (Bx.new (w := w) [.int .i64 0, .int .i64 0, .int .i64 0] _ rfl).alloc _
 have XA : Bx w1 (w.heap.size + 1) [.int .i64 5, .int .i64 0, .int .i64 0] := by rw [h1]; exact Bx.new (w := w.alloc (.cells #[.int .i64 0, .int .i64 0, .int .i64 0] 127)) [.int .i64 5, .int .i64 0, .int .i64 0] _ (by simp)
 have H1 := hid h1;have HB1 := hid hb1;have hsz := hs1;clear h1 hb1 hs1;have r0 := XR.c 0 rfl;have r1 := XR.c 1 rfl;have r2 := XR.c 2 rfl;have s0 := XR.f 0 rfl;have s1 := XR.f 1 rfl;have s2 := XR.f 2 rfl;have a0 := XA.c 0 rfl;have a1 := XA.c 1 rfl;have a2 := XA.c 2 rfl;have b0 := XA.f 0 rfl;have b1 := XA.f 1 rfl;have b2 := XA.f 2 rfl;clear XR XA;go_enter Tryz.func136, Tryz.ntmps136
 go_upto_region 2 with fail
 rw [← H1.out];clear H1;go_wp2
 all_goals refine bodyPost_ret (v := .agg #[.int .i64 5, .int .i64 0, .int .i64 0]) (by simp [results, Tryz.results136, go_sem, r0, r1, r2]) rfl ⟨rfl, ?_⟩
 all_goals repeat' (first | exact HB1.out | refine Below.drew ?_ | refine Below.setCell ?_ (by dsimp only; omega) _)
set_option maxHeartbeats 4000000 in
theorem moveOf_6 (ao : Option Addr) (c : Nat) (w : World) (_hz : kI.In w.heap.size w ao ([] : List Int)) :
  Calls Tryz.prog 136 #[.int .i64 6, .slice ao 0 c] w fun e w' => e = .returned (.agg #[.int .i64 6, .int .i64 0, .int .i64 0]) ∧ Below w.heap.size w w' := by
 obtain ⟨w1, h1⟩ : ∃ q, q = (w.alloc (.cells #[.int .i64 0, .int .i64 0, .int .i64 0] 127)).alloc (.cells #[.int .i64 6, .int .i64 0, .int .i64 0] 127) := ⟨_, rfl⟩;have hb1 : Below w.heap.size w w1 := by rw [h1]; exact below2 _ _ _
 have hs1 : w1.heap.size = w.heap.size + 2 := by rw [h1]; simp
 have XR : Bx w1 w.heap.size [.int .i64 0, .int .i64 0, .int .i64 0] := by rw [h1]; exact (Bx.new (w := w) [.int .i64 0, .int .i64 0, .int .i64 0] _ rfl).alloc _
 have XA : Bx w1 (w.heap.size + 1) [.int .i64 6, .int .i64 0, .int .i64 0] := by rw [h1]; exact Bx.new (w := w.alloc (.cells #[.int .i64 0, .int .i64 0, .int .i64 0] 127)) [.int .i64 6, .int .i64 0, .int .i64 0] _ (by simp)
 have H1 := hid h1;have HB1 := hid hb1;have hsz := hs1;clear h1 hb1 hs1;have r0 := XR.c 0 rfl;have r1 := XR.c 1 rfl;have r2 := XR.c 2 rfl;have s0 := XR.f 0 rfl;have s1 := XR.f 1 rfl;have s2 := XR.f 2 rfl;have a0 := XA.c 0 rfl;have a1 := XA.c 1 rfl;have a2 := XA.c 2 rfl;have b0 := XA.f 0 rfl;have b1 := XA.f 1 rfl;have b2 := XA.f 2 rfl;clear XR XA;go_enter Tryz.func136, Tryz.ntmps136
 go_upto_region 2 with fail
 rw [← H1.out];clear H1;go_wp2
 all_goals refine bodyPost_ret (v := .agg #[.int .i64 6, .int .i64 0, .int .i64 0]) (by simp [results, Tryz.results136, go_sem, r0, r1, r2]) rfl ⟨rfl, ?_⟩
 all_goals repeat' (first | exact HB1.out | refine Below.drew ?_ | refine Below.setCell ?_ (by dsimp only; omega) _)
/-- Any of the six. -/
theorem moveOf_is (k : Nat) (hk : k < 6) (ao : Option Addr) (c : Nat) (l : List Int) (w : World) (hl : l.length = cmdN k) (hz : kI.In w.heap.size w ao l) :
  Calls Tryz.prog 136 #[.int .i64 ((k : Int) + 1), .slice ao l.length c] w fun e w' => e = .returned (.agg #[.int .i64 (mvR ((k : Int) + 1) l).1, .int .i64 (mvR ((k : Int) + 1) l).2.1, .int .i64 (mvR ((k : Int) + 1) l).2.2]) ∧ Below w.heap.size w w' := by
 rcases (show k = 0 ∨ k = 1 ∨ k = 2 ∨ k = 3 ∨ k = 4 ∨ k = 5 from by omega) with rfl | rfl | rfl | rfl | rfl | rfl
 ·match l, hl with
  | [x, y], _ => exact moveOf_1 x y ao c w hz
 ·match l, hl with
  | [x], _ => exact moveOf_2 x ao c w hz
 ·match l, hl with
  | [x], _ => exact moveOf_3 x ao c w hz
 ·match l, hl with
  | [x], _ => exact moveOf_4 x ao c w hz
 ·match l, hl with
  | [], _ => exact moveOf_5 ao c w hz
 ·match l, hl with
  | [], _ => exact moveOf_6 ao c w hz
end
section
open Go.RowKit

/-- A graph in its own memory that nodes are added to. -/
def GR (lo hi : Nat) (W : World) (o : Option Addr) (c : Nat) (us : List LNode) : Prop := DFr dNode lo hi W o c us ∧ hNode.RW lo hi W o c us
section
variable {lo hi : Nat} {W W' : World} {o : Option Addr} {c : Nat} {us : List LNode}
theorem GR.keep (h : GR lo hi W o c us) (hk : ∀ k, lo ≤ k → k < hi → k < W.heap.size → W'.heap[k]? = W.heap[k]?) : GR lo hi W' o c us := ⟨h.1.keep dNode_ok hk, h.2.keep hk⟩
theorem GR.later (h : GR lo hi W o c us) (hb : Below W.heap.size W W') : GR lo hi W' o c us := h.keep fun k _ _ hk => hb.block k hk
theorem GR.below (h : GR lo hi W o c us) {n : Nat} (hb : Below n W W') (hn : hi ≤ n) : GR lo hi W' o c us := h.keep fun k _ h2 _ => hb.block k (by omega)
theorem GR.setOff (h : GR lo hi W o c us) {a : Addr} (ha : a.block < lo ∨ hi ≤ a.block) (u : Value) : GR lo hi (W.setCell a u) o c us := h.keep fun k h1 h2 _ => Below.heap_setCell W a u k (by omega)
theorem gr_nil : GR lo hi W none 0 [] := ⟨DFr.nil _ _ _ _ _, Kind.RW.nil⟩
theorem GR.in (h : GR lo hi W o c us) : DIn dNode W.heap.size W o us := h.1.in dNode_ok
theorem GR.cap (h : GR lo hi W o c us) : us.length ≤ c := h.2.cap
theorem gr_app {nm : ByteArray} {kd sa sb cp : Int} {nxo : Option Addr} {nxc : Nat} {nx : List Int} {v' : Value} (h : GR lo hi W o c us) (hx : kI.Fresh hi W.heap.size W nxo nxc nx) (hlo : lo ≤ hi) (hhi : hi ≤ W.heap.size)
  (hO : hNode.Own lo W' v' (us ++ [((nm, kd, sa, sb, cp, (nxo, nxc, nx)) : LNode)])) (hG : W.grownBy W' (Value.slice o us.length c).ownBlock) :
  ∃ tq tc, v' = .slice tq (us ++ [((nm, kd, sa, sb, cp, (nxo, nxc, nx)) : LNode)]).length tc ∧ GR lo W'.heap.size W' tq tc (us ++ [((nm, kd, sa, sb, cp, (nxo, nxc, nx)) : LNode)]) := by
 obtain ⟨tq, tc, rfl, hO2⟩ := hO.as;have hg : ∀ k : Nat, k < W.heap.size → (∃ cur, W.heap[k]? = some (.cells cur 27 (0, 0))) ∨ W'.heap[k]? = W.heap[k]? := fun k hk => by
  by_cases e : (Value.slice o us.length c).ownBlock = some k
  ·exact .inl (own_type h.2.1 e)
  ·exact .inr (hG.block k hk fun e2 => e e2.symm)
 have hne : ∀ (b : Nat) cur t, W.heap[b]? = some (.cells cur t (0, 0)) → t ≠ 27 → W'.heap[b]? = W.heap[b]? := fun b cur t hb ht => by
  rcases hg b (Array.getElem?_eq_some_iff.1 hb).1 with ⟨cur2, h2⟩ | h2
  ·rw [hb] at h2; simp at h2; exact absurd h2.2 ht
  ·exact h2
 have hX : dNode.Fr hi W.heap.size W ((nm, kd, sa, sb, cp, (nxo, nxc, nx)) : LNode) := hx;refine ⟨tq, tc, rfl, DFr.wide dNode_ok (DFr.snoc (hi2 := W'.heap.size) dNode_ok h.1 (dNode_ok.wide hX (Nat.le_refl _) hG.size) hlo (Nat.le_trans hhi hG.size) (fresh_rw (Kind.RW.of hO2)) fun b hb => ?_) (Nat.le_refl _) (Nat.le_refl _), Kind.RW.of hO2⟩
 rcases hb with ⟨j, hj, hb⟩ | hb
 ·obtain ⟨_, _, _, cur, t, h4, h5⟩ := dNode_ok.lt (h.1.2.1 j hj) hb;exact hne b cur t h4 h5
 ·obtain ⟨_, _, _, cur, t, h4, h5⟩ := dNode_ok.lt hX hb;exact hne b cur t h4 h5
end
/-- Few nodes as they are read. -/
def FitR (us : List LNode) : Prop := us.length ≤ 10 ∧ ∀ a ∈ us, a.1.size ≤ 3000 ∧ a.2.2.2.2.2.2.2.length ≤ 20
theorem FitR.roomy {lo hi : Nat} {W : World} {o : Option Addr} {c : Nat} {us : List LNode} (h : FitR us) (hz : GR lo hi W o c us) : Roomy us c :=
 ⟨hz.cap, fun a ha => by obtain ⟨j, hj, rfl⟩ := mem_el ha; exact Kind.Fresh.cap (hz.1.2.1 j hj), fun a ha => by have := h.2 a ha; omega, by have := h.1; omega⟩
/-- What a script has come to. -/
structure SS where
 gs : List PNode
 bg : Bool
 bad : Int
 s : PP
 n : Nat
/-- What the graph is refused with. -/
def badG (gs : List PNode) : Int := if codeG gs = 0 then (if widP gs ≤ 400 then 0 else 8) else (codeG gs : Int)
def begS (st : SS) : SS := if st.bg then st else { st with bg := true, bad := badG st.gs, s := pp0 st.gs.length, n := 0 }
def refT (c : Int) : ByteArray := tx [103, 114, 97, 112, 104, 32] ++ tx (Lib.itoa c)
def okT : ByteArray := ⟨#[111, 107]⟩
def noT : ByteArray := ⟨#[110, 111]⟩
def whatT : ByteArray := ⟨#[119, 104, 97, 116]⟩
def nodeW : ByteArray := ⟨#[110, 111, 100, 101]⟩
/-- A read node as a graph has it. -/
def pnode (v : ByteArray × Int × Int × Int × Int × List Int) : PNode := v
/-- A node is added. -/
noncomputable def addR (st : SS) (line : ByteArray) : SS × ByteArray :=
 if (readR line).2 = true ∧ st.gs.length ≠ 10 then ({ st with gs := st.gs ++ [pnode (readR line).1] }, okT) else (st, noT)
/-- A move. -/
def movR (st : SS) (m : Int × Int × Int) : SS × ByteArray :=
 if st.n = 300 then (st, whatT)
 else ({ st with s := (doR st.gs (srcP st.gs st.gs.length) st.s m.1 m.2.1 m.2.2).2, n := st.n + 1 },
  if (doR st.gs (srcP st.gs st.gs.length) st.s m.1 m.2.1 m.2.2).1 = 0 then okT else tx [110, 111, 32] ++ tx (Lib.itoa (doR st.gs (srcP st.gs st.gs.length) st.s m.1 m.2.1 m.2.2).1))
/-- What is obeyed. -/
noncomputable def obeyR (st : SS) (k : Int) (l : List Int) : SS × ByteArray :=
 if k = 7 then ({ st with s := itS st.gs (haltK st.gs st.s) { st.s with cl := true } }, tx [115, 116, 101, 112, 115, 32] ++ tx (Lib.itoa (haltK st.gs st.s : Int)))
 else if k = 8 then (st, repP st.s.it st.s.em.length st.s.fa.length (totT st.s.bx) st.s.cl)
 else if k = 9 then (st, listW ⟨#[111, 117, 116]⟩ (st.s.em.map rowOut))
 else if k = 10 then (st, listW ⟨#[108, 111, 115, 116]⟩ (st.s.fa.map rowLost))
 else if k = 11 then (st, if (meanR st.gs (el l 0) (el l 1)).2 = true then listW ⟨#[109, 101, 97, 110]⟩ ((meanR st.gs (el l 0) (el l 1)).1.map rowEmit) else noT)
 else movR st (mvR k l)
/-- A line's answer. -/
noncomputable def ansR (st : SS) (line : ByteArray) : SS × ByteArray :=
 if st.bg = false ∧ el (splitB line 32) 0 = nodeW then addR st line
 else if (begS st).bad ≠ 0 then (begS st, refT (begS st).bad)
 else match cmdR (splitB line 32) with
  | (k, l, true) => obeyR (begS st) k l
  | (_, _, false) => (begS st, whatT)
def st0 : SS := { gs := [], bg := false, bad := 0, s := pp0 0, n := 0 }
/-- All lines. -/
noncomputable def linesA : SS → List ByteArray → SS × List ByteArray
 | st, [] => (st, [])
 | st, x :: r => ((linesA (ansR st x).1 r).1, (ansR st x).2 :: (linesA (ansR st x).1 r).2)
end
section
open Go.RowKit

/-- What a step leaves that writes the blocks O alone; O' are the blocks that the next may write; below n nothing is written. -/
structure SStep (n : Nat) (O O' : Nat → Prop) (W W' : World) : Prop where
 low : Below n W W'
 block : ∀ b, b < W.heap.size → ¬ O b → W'.heap[b]? = W.heap[b]?
 own : ∀ b, O' b → O b ∨ W.heap.size ≤ b
theorem SStep.refl (n : Nat) (O : Nat → Prop) (W : World) : SStep n O O W W := ⟨⟨rfl, rfl, rfl, Nat.le_refl _, fun _ _ => rfl⟩, fun _ _ _ => rfl, fun _ h => .inl h⟩
theorem SStep.trans {n : Nat} {O O' O'' : Nat → Prop} {a b c : World} (h : SStep n O O' a b) (k : SStep n O' O'' b c) : SStep n O O'' a c :=
 ⟨h.low.trans k.low, fun i hi hn => (k.block i (Nat.lt_of_lt_of_le hi h.low.size) fun e => (h.own i e).elim hn fun e2 => by omega).trans (h.block i hi hn), fun i hi => (k.own i hi).elim (fun e => h.own i e) fun e => .inr (Nat.le_trans h.low.size e)⟩
theorem SStep.of_below {n : Nat} {O : Nat → Prop} {a b : World} (h : Below a.heap.size a b) (hn : n ≤ a.heap.size) : SStep n O O a b := ⟨h.mono hn, fun i hi _ => h.block i hi, fun _ h => .inl h⟩
theorem SStep.set {n : Nat} {O : Nat → Prop} {W : World} {a : Addr} (hO : O a.block) (hn : n ≤ a.block) (u : Value) : SStep n O O W (W.setCell a u) :=
 ⟨(Below.refl n W).setCell hn _, fun b _ hb => Below.heap_setCell W a u b fun e => hb (by rw [e]; exact hO), fun _ h => .inl h⟩
theorem rw_block {α : Type} {K : Kind α} {lo hi : Nat} {W : World} {ao : Option Addr} {n c : Nat} {xs : List α} (h : K.RW lo hi W ao c xs) {b : Nat} (hb : (Value.slice ao n c).ownBlock = some b) : lo ≤ b ∧ b < hi := by
 rcases h.1.2 with ⟨e, _⟩ | ⟨g, cap, cur, e, hg, _⟩
 ·simp at e
  rw [e.1] at hb; simp [Value.ownBlock] at hb
 ·simp at e
  obtain ⟨rfl, _⟩ := e
  simp [Value.ownBlock] at hb
  subst hb;exact ⟨hg, h.2 g 0 rfl⟩
/-- The blocks of a script that is not begun. -/
def OA (q : Nat) (o : Option Addr) (b : Nat) : Prop := b = q ∨ ∃ a, o = some a ∧ a.block = b
/-- A script that is not begun. -/
structure PA (q : Nat) (W : World) (o : Option Addr) (c : Nat) (us : List LNode) (hi : Nat) : Prop where
 box : Bx W q [.slice o us.length c, .bool false, .string ⟨#[]⟩, .pointer none, .int .i64 0]
 gr : GR (q + 1) hi W o c us
 fit : FitR us
 hi1 : hi ≤ W.heap.size
 hi0 : q + 1 ≤ hi
theorem PA.later {q : Nat} {W W' : World} {o : Option Addr} {c : Nat} {us : List LNode} {hi : Nat} (h : PA q W o c us hi) (hb : Below W.heap.size W W') : PA q W' o c us hi := ⟨h.box.later hb, h.gr.later hb, h.fit, Nat.le_trans h.hi1 hb.size, h.hi0⟩
theorem PA.own {q : Nat} {W : World} {o : Option Addr} {c : Nat} {us : List LNode} {hi : Nat} (h : PA q W o c us hi) : ∀ b, OA q o b → q ≤ b := fun b hb => by
 rcases hb with rfl | ⟨a, rfl, rfl⟩
 ·exact Nat.le_refl _
 ·rcases h.gr.2.1.2 with ⟨e, _⟩ | ⟨g, cap, cur, e, hg, _⟩
  ·cases e
  ·simp at e; rw [e.1]; dsimp only; omega
/-- How a node is read, small. -/
theorem readR_fit {s : ByteArray} (hs : s.size ≤ 3000) (h : (readR s).2 = true) : (readR s).1.1.size ≤ 3000 ∧ (readR s).1.2.2.2.2.2.length ≤ 20 := by
 unfold readR at h ⊢
 split at h
 ·split at h
  ·rename_i h1 h2;rw [if_pos h1, if_pos h2];have hm : el (splitB s 32) 1 ∈ splitB s 32 := el_mem (by omega);exact ⟨Nat.le_trans (splitGo_short s 32 _ _ _ _ hm) hs, (hasT_has h2.2.2.2).len⟩
  ·cases h
 ·cases h
/-- What adding a node answers. -/
def AnsAdd (q : Nat) (W : World) (o : Option Addr) (us : List LNode) (line : ByteArray) (e : Ending) (W' : World) : Prop := e = .returned (.string (if (readR line).2 = true ∧ us.length ≠ 10 then okT else noT)) ∧ (∃ o' c' us' hi', PA q W' o' c' us' hi' ∧ us'.map valNode = (if (readR line).2 = true ∧ us.length ≠ 10 then us.map valNode ++ [pnode (readR line).1] else us.map valNode) ∧ SStep q (OA q o) (OA q o') W W')
set_option maxRecDepth 100000 in
set_option maxHeartbeats 8000000 in
theorem addNode_any (q : Nat) (W : World) (o : Option Addr) (c : Nat) (us : List LNode) (hi : Nat) (line : ByteArray) (h : PA q W o c us hi) (hs : line.size ≤ 3000) (hT : PowTab W) (hE : NErr W) (hD : Wds W) :
  Calls Tryz.prog 102 #[.pointer (some ⟨q, 0, none⟩), .string line] W (AnsAdd q W o us line) := by
 have HP := hid (implReadNode_is line W (by omega) hT hE hD);have HF := hid (readR_fit (s := line) hs);have HH := hid h;clear h hT hE hD hs;obtain ⟨⟨⟨nm, kd, sa, sb, cp, nx⟩, y⟩, hR⟩ : ∃ R, readR line = R := ⟨_, rfl⟩;rw [hR] at HP HF;dsimp only at HF;have HR := hid hR;clear hR;go_enter Tryz.func102, Tryz.ntmps102;go_wp2_with fail;refine HP.out.mono ?_;rintro e w1 ⟨⟨nxo, nxc, rfl, hno, hF⟩, hb1⟩;dsimp only at hF;dsimp only;obtain ⟨V, hV⟩ : ∃ V, V = w1.alloc (.cells #[.string nm, .int .i64 kd, .int .i64 sa, .int .i64 sb, .int .i64 cp, .slice nxo nx.length nxc] 27) := ⟨_, rfl⟩;have hbV : Below w1.heap.size w1 V := by rw [hV]; exact below1 _ _
 have XN : Bx V w1.heap.size [.string nm, .int .i64 kd, .int .i64 sa, .int .i64 sb, .int .i64 cp, .slice nxo nx.length nxc] := by rw [hV]; exact Bx.new [.string nm, .int .i64 kd, .int .i64 sa, .int .i64 sb, .int .i64 cp, .slice nxo nx.length nxc] _ rfl
 have hVs : w1.heap.size < V.heap.size := XN.size;have hBV := hb1.trans (hbV.mono hb1.size);have PV := hid (HH.out.later hBV);have FX := hid (hF.later hbV);have HV := hid hV;have HBV := hid hBV;have hW1 : W.heap.size ≤ w1.heap.size := hb1.size;have q0 := PV.out.box.c 0 rfl;have qz := PV.out.box.size;have hul : us.length ≤ 10 := PV.out.fit.1;clear hV hbV hb1 hF hno HP
 go_upto_region 2 with fail
 rw [← HV.out];clear HV
 cases y with
 | false =>
  go_wp2;refine bodyPost_ret (v := .string ⟨#[110, 111]⟩) (by simp [results, Tryz.results102, go_sem]) rfl ?_;exact ⟨by rw [if_neg (fun hh => by rw [HR.out] at hh; cases hh.1)]; rfl, o, c, us, hi, PV.out, by rw [if_neg (fun hh => by rw [HR.out] at hh; cases hh.1)], SStep.of_below HBV.out (Nat.le_of_lt HH.out.box.size)⟩
 | true =>
  by_cases h10 : us.length = 10
  ·have hd : ((us.length : Int) == 10) = true := by rw [h10]; rfl
   have H10 := hid h10;clear h10;go_wp2;refine bodyPost_ret (v := .string ⟨#[110, 111]⟩) (by simp [results, Tryz.results102, go_sem]) rfl ?_;exact ⟨by rw [if_neg (fun hh => hh.2 H10.out)]; rfl, o, c, us, hi, PV.out, by rw [if_neg (fun hh => hh.2 H10.out)], SStep.of_below HBV.out (Nat.le_of_lt HH.out.box.size)⟩
  ·have hd : ((us.length : Int) == 10) = false := by simp; omega
   have H10 := hid h10;clear h10
   go_upto_region 4 with fail
   have C0 : Hid (V.cell? ⟨q, 0, none⟩ = some (.slice o us.length c) ∧ V.cell? ⟨w1.heap.size, 0, none⟩ = some (.string nm) ∧ V.cell? ⟨w1.heap.size, 1, none⟩ = some (.int .i64 kd) ∧ V.cell? ⟨w1.heap.size, 2, none⟩ = some (.int .i64 sa) ∧ V.cell? ⟨w1.heap.size, 3, none⟩ = some (.int .i64 sb) ∧ V.cell? ⟨w1.heap.size, 4, none⟩ = some (.int .i64 cp) ∧ V.cell? ⟨w1.heap.size, 5, none⟩ = some (.slice nxo nx.length nxc)) := ⟨q0, XN.c 0 rfl, XN.c 1 rfl, XN.c 2 rfl, XN.c 3 rfl, XN.c 4 rfl, XN.c 5 rfl⟩;clear XN;refine wp_walks (zl := [10]) (S := fun Y => Y.cell? ⟨q, 0, none⟩ = some (.slice o us.length c) ∧ Y.cell? ⟨w1.heap.size, 0, none⟩ = some (.string nm) ∧ Y.cell? ⟨w1.heap.size, 1, none⟩ = some (.int .i64 kd) ∧ Y.cell? ⟨w1.heap.size, 2, none⟩ = some (.int .i64 sa) ∧ Y.cell? ⟨w1.heap.size, 3, none⟩ = some (.int .i64 sb) ∧ Y.cell? ⟨w1.heap.size, 4, none⟩ = some (.int .i64 cp) ∧ Y.cell? ⟨w1.heap.size, 5, none⟩ = some (.slice nxo nx.length nxc)) (by kernel_rfl) C0.out (fun hH => ?_);refine Walks.tk 0 hH ?_;refine Walks.tk 1 hH ?_;refine Walks.tk 2 hH ?_;refine Walks.tk 3 hH ?_;refine Walks.tk 4 hH ?_;refine Walks.tk 5 hH ?_;refine Walks.on 6 fun K hK => ?_
   go_simp;obtain ⟨U, hU⟩ : ∃ U, U = (V.alloc (.cells #[.string nm, .int .i64 kd, .int .i64 sa, .int .i64 sb, .int .i64 cp, .slice nxo nx.length nxc] 27)).drew := ⟨_, rfl⟩;rw [← hU];have hbU : Below V.heap.size V U := by rw [hU]; exact (below1 V _).drew
   have hN : hNode.In U.heap.size U (some ⟨V.heap.size, 0, none⟩) [((nm, kd, sa, sb, cp, (nxo, nxc, nx)) : LNode)] := by
    have hx : Bx U V.heap.size [.string nm, .int .i64 kd, .int .i64 sa, .int .i64 sb, .int .i64 cp, .slice nxo nx.length nxc] := by rw [hU]; exact (Bx.new (w := V) [.string nm, .int .i64 kd, .int .i64 sa, .int .i64 sb, .int .i64 cp, .slice nxo nx.length nxc] 27 rfl).drew
    exact hNode_one hx.size hx
   have PU := hid (PV.out.later hbU);have FU := hid (FX.out.later hbU);have C1 := C0.out;have hqV : q < V.heap.size := qz;have CU : U.cell? ⟨q, 0, none⟩ = some (.slice o us.length c) := (hbU.cell (p := ⟨q, 0, none⟩) hqV).trans C1.1;have hBU := HBV.out.trans (hbU.mono HBV.out.size);have hsU : V.heap.size ≤ U.heap.size := hbU.size;refine hK.out _ _ (fun _ => ⟨CU, (hbU.cell (p := ⟨w1.heap.size, 0, none⟩) hVs).trans C1.2.1, (hbU.cell (p := ⟨w1.heap.size, 1, none⟩) hVs).trans C1.2.2.1, (hbU.cell (p := ⟨w1.heap.size, 2, none⟩) hVs).trans C1.2.2.2.1, (hbU.cell (p := ⟨w1.heap.size, 3, none⟩) hVs).trans C1.2.2.2.2.1, (hbU.cell (p := ⟨w1.heap.size, 4, none⟩) hVs).trans C1.2.2.2.2.2.1, (hbU.cell (p := ⟨w1.heap.size, 5, none⟩) hVs).trans C1.2.2.2.2.2.2⟩) (fun hU0 => ?_);clear hK K hU C1 hU0;have hhi0 := PU.out.hi0;have hhi1 : hi ≤ W.heap.size := HH.out.hi1;refine Walks.on 7 fun K hK => ?_
   refine Kind.appZ hNode_ok U (by rfl) (.tmp 26) (.tmp 28) (by rfl) (q + 1) (.slice o us.length c) us (by rfl) (by exact PU.out.gr.2.1) (by omega) (some ⟨V.heap.size, 0, none⟩) [((nm, kd, sa, sb, cp, (nxo, nxc, nx)) : LNode)] 1 1 (by rfl) rfl (by simp) _ hN (by simp; omega) ?_;intro v' w2 hO2 hB2 hG2 hw2;obtain ⟨tq, tc, rfl, hGR⟩ := gr_app PU.out.gr (FU.out.wide (show hi ≤ W.heap.size by omega) (by omega)) (by omega) (by omega) hO2 hG2;obtain ⟨zs, hzs⟩ : ∃ zs, zs = us ++ [((nm, kd, sa, sb, cp, (nxo, nxc, nx)) : LNode)] := ⟨_, rfl⟩;rw [← hzs] at hGR hw2 ⊢;have hob : ∀ b, (Value.slice o us.length c).ownBlock = some b → q + 1 ≤ b ∧ b < hi := fun b hb => rw_block PU.out.gr.2 hb
   have hkp : ∀ b, b < U.heap.size → (b = q ∨ W.heap.size ≤ b) → w2.heap[b]? = U.heap[b]? := fun b hb hc => hG2.block b hb fun e => by have := hob b e.symm; omega
   have hqU : q < U.heap.size := by omega
   have hnU : w1.heap.size < U.heap.size := by omega
   have X2 : Bx w2 q [.slice o us.length c, .bool false, .string ⟨#[]⟩, .pointer none, .int .i64 0] := PU.out.box.keep hG2.size (hkp q hqU (.inl rfl));have c2 := X2.c 0 rfl;have f2 := X2.f 0 rfl;have z2 := X2.size;have HX2 := hid X2;have HS2 : Hid (w2.cell? ⟨q, 0, none⟩ = some (.slice o us.length c) ∧ w2.cell? ⟨w1.heap.size, 0, none⟩ = some (.string nm) ∧ w2.cell? ⟨w1.heap.size, 1, none⟩ = some (.int .i64 kd) ∧ w2.cell? ⟨w1.heap.size, 2, none⟩ = some (.int .i64 sa) ∧ w2.cell? ⟨w1.heap.size, 3, none⟩ = some (.int .i64 sb) ∧ w2.cell? ⟨w1.heap.size, 4, none⟩ = some (.int .i64 cp) ∧ w2.cell? ⟨w1.heap.size, 5, none⟩ = some (.slice nxo nx.length nxc)) := by
    have hk1 := hkp w1.heap.size hnU (.inr hW1);have C1 := C0.out;exact ⟨c2, (World.cell?_of_block (a := ⟨w1.heap.size, 0, none⟩) hk1).trans ((hbU.cell (p := ⟨w1.heap.size, 0, none⟩) hVs).trans C1.2.1), (World.cell?_of_block (a := ⟨w1.heap.size, 1, none⟩) hk1).trans ((hbU.cell (p := ⟨w1.heap.size, 1, none⟩) hVs).trans C1.2.2.1), (World.cell?_of_block (a := ⟨w1.heap.size, 2, none⟩) hk1).trans ((hbU.cell (p := ⟨w1.heap.size, 2, none⟩) hVs).trans C1.2.2.2.1), (World.cell?_of_block (a := ⟨w1.heap.size, 3, none⟩) hk1).trans ((hbU.cell (p := ⟨w1.heap.size, 3, none⟩) hVs).trans C1.2.2.2.2.1), (World.cell?_of_block (a := ⟨w1.heap.size, 4, none⟩) hk1).trans ((hbU.cell (p := ⟨w1.heap.size, 4, none⟩) hVs).trans C1.2.2.2.2.2.1), (World.cell?_of_block (a := ⟨w1.heap.size, 5, none⟩) hk1).trans ((hbU.cell (p := ⟨w1.heap.size, 5, none⟩) hVs).trans C1.2.2.2.2.2.2)⟩
   have HFIN : Hid (AnsAdd q W o us line (.returned (.string okT)) (w2.setCell ⟨q, 0, none⟩ (.slice tq zs.length tc))) := by
    have hc : (readR line).2 = true ∧ us.length ≠ 10 := ⟨by rw [HR.out], H10.out⟩;have hfn := HF.out rfl;have hul2 := H10.out;refine ⟨by rw [if_pos hc], tq, tc, zs, w2.heap.size, ⟨X2.set 0 _, hGR.setOff (.inl (by dsimp only; omega)) _, ⟨by rw [hzs]; simp; omega, fun a ha => ?_⟩, by simp [World.setCell], by omega⟩, ?_, ?_⟩
    ·rw [hzs] at ha
     rcases List.mem_append.1 ha with ha | ha
     ·exact PV.out.fit.2 a ha
     ·rw [List.mem_singleton.1 ha]; exact hfn
    ·rw [if_pos hc, hzs, List.map_append, HR.out]; rfl
    ·refine ⟨((hBU.mono (Nat.le_of_lt HH.out.box.size)).trans (hB2.mono (by omega))).setCell (p := ⟨q, 0, none⟩) (Nat.le_refl _) _, fun b hb hn => ?_, fun b hb => ?_⟩
     ·have h1 : b ≠ q := fun e => hn (.inl e)
      have h2 : (w2.setCell ⟨q, 0, none⟩ (.slice tq zs.length tc)).heap[b]? = w2.heap[b]? := Below.heap_setCell _ _ _ b (by dsimp only; omega);have h3 : w2.heap[b]? = U.heap[b]? := hG2.block b (by have := hBU.size; omega) fun e => hn (.inr (by
       cases o with
       | none => simp [Value.ownBlock] at e
       | some a => exact ⟨a, rfl, by simpa [Value.ownBlock] using e.symm⟩))
      exact h2.trans (h3.trans (hBU.block b hb))
     ·rcases hb with rfl | ⟨a, rfl, rfl⟩
      ·exact .inl (.inl rfl)
      ·rcases hw2 a.block (by simp [Value.ownBlock]) with h | h
       ·left; right
        cases o with
        | none => simp [Value.ownBlock] at h
        | some a2 => exact ⟨a2, rfl, by simpa [Value.ownBlock] using h⟩
       ·exact .inr (by have := hBU.size; omega)
   clear hzs;refine hK.out _ _ (fun _ => HS2.out) (fun _ => ?_);clear hK K hO2 hB2 hG2 hw2 hGR hob hkp X2 C0;refine Walks.on 8 fun K hK => ?_
   go_simp;refine hK.out _ _ (fun _ => HS2.out) (fun _ => ?_);clear hK K;refine Walks.on 9 fun K hK => ?_
   go_simp;refine hK.out _ _ (fun _ => HS2.out) (fun _ => ?_);clear hK K;refine Walks.on 10 fun K hK => ?_
   go_simp;refine hK.out _ _ (fun h => absurd h (by decide)) (fun _ => ?_);clear hK K;refine Walks.done (by kernel_rfl) ?_ _;go_wp2;refine bodyPost_ret (v := .string ⟨#[111, 107]⟩) (by simp [results, Tryz.results102, go_sem]) rfl ?_;exact HFIN.out
end
section
open Go.RowKit Go.Extern.Stop Go.Stop Go.Extern

theorem Tryz.isTypeOf (v : Value) (w : World) : (Extern.ReflectliteType.typeOf #[.iface 227 v]).run Tryz.prog w = .ok (.iface 279 (.agg #[.pointer (some ⟨15, 227, none⟩)])) w := by kernel_rfl
theorem Tryz.hasCmp : (Extern.find Tryz.f317).isSome = true := by kernel_rfl
/-- The entry that tells whether a type can be compared. -/
noncomputable def cmpX : Array Value → Sem Value := (Extern.find Tryz.f317).get Tryz.hasCmp
theorem cmpX_find : Extern.find Tryz.f317 = some cmpX := (Option.some_get _).symm
theorem Tryz.isComparable (w : World) : (cmpX #[.agg #[.pointer (some ⟨15, 227, none⟩)]]).run Tryz.prog w = .ok (.bool true) w := by kernel_rfl
theorem Tryz.isMethodComparable (v : Value) (w : World) : (Go.method 446 279 v "Comparable").run Tryz.prog w = .ok (317, v) w := by kernel_rfl
theorem Tryz.isComp : (Tryz.prog.info? 227).map (·.comparable) = some true := by kernel_rfl
theorem Tryz.isSize : (Tryz.prog.info? 229).map (·.size) = some 1 := by kernel_rfl
theorem Tryz.noIsE (v : Value) (xT : TypeId) (w : World) : (Instr.typeAssert (.iface 227 v) xT 281 true).run Tryz.prog w = .ok (.tuple #[.nilIface, .bool false]) w := run_typeAssert_lacksB Tryz.underlying281 (by kernel_rfl) (by kernel_rfl) v xT w
theorem Tryz.noUnwrapE (v : Value) (xT : TypeId) (w : World) : (Instr.typeAssert (.iface 227 v) xT 284 true).run Tryz.prog w = .ok (.tuple #[.nilIface, .bool false]) w := run_typeAssert_lacksB Tryz.underlying284 (by kernel_rfl) (by kernel_rfl) v xT w
theorem Tryz.noUnwrapsE (v : Value) (xT : TypeId) (w : World) : (Instr.typeAssert (.iface 227 v) xT 286 true).run Tryz.prog w = .ok (.tuple #[.nilIface, .bool false]) w := run_typeAssert_lacksB Tryz.underlying286 (by kernel_rfl) (by kernel_rfl) v xT w
theorem Tryz.noIsW (v : Value) (xT : TypeId) (w : World) : (Instr.typeAssert (.iface 241 v) xT 281 true).run Tryz.prog w = .ok (.tuple #[.nilIface, .bool false]) w := run_typeAssert_lacksB Tryz.underlying281 (by kernel_rfl) (by kernel_rfl) v xT w
theorem Tryz.hasUnwrapW (v : Value) (xT : TypeId) (w : World) : (Instr.typeAssert (.iface 241 v) xT 284 true).run Tryz.prog w = .ok (.tuple #[.iface 241 v, .bool true]) w := run_typeAssert_hasB Tryz.underlying284 (by kernel_rfl) v xT w
theorem Tryz.methodUnwrap (v : Value) (w : World) : (Go.method 446 241 v "Unwrap").run Tryz.prog w = .ok (313, v) w := by kernel_rfl
set_option maxHeartbeats 1000000 in
theorem unwrap_is (n : Int) (a : Addr) (w : World) : Calls Tryz.prog 313 #[.agg #[.int .i64 n, errV a]] w fun e w' => e = .returned (errV a) ∧ w' = w.alloc (.cells #[.int .i64 n, errV a] 241) := by
 go_enter Tryz.func313, Tryz.ntmps313;go_wp2;go_ret;exact ⟨rfl, rfl⟩
set_option maxHeartbeats 4000000 in
theorem is_same (a : Addr) (w : World) :
  Calls Tryz.prog 203 #[errV a, errV a] w fun e w' => e = .returned (.bool true) ∧ Below w.heap.size w w' := by
 obtain ⟨i, hi, hcmp⟩ := Option.map_eq_some_iff.1 Tryz.isComp;obtain ⟨j, hj, hjs⟩ := Option.map_eq_some_iff.1 Tryz.isSize;have h8 := @run_callFunc_extern Tryz.prog 223 _ Extern.ReflectliteType.typeOf Tryz.func223 (by kernel_rfl) (by kernel_rfl) (by kernel_rfl) (by kernel_rfl);have h32 := @run_callFunc_extern Tryz.prog 317 _ cmpX Tryz.func317 (by kernel_rfl) (by kernel_rfl) (by kernel_rfl) cmpX_find;have tT := Tryz.isTypeOf;have cT := Tryz.isComparable;have mR := Tryz.isMethodComparable;have heq := run_eql_iface_ptr_same (P := Tryz.prog) w a Tryz.underlying80 Tryz.underlying227 hi hcmp hj;go_enter Tryz.func203, Tryz.ntmps203;go_wp2;refine wp_loop_rounds 1 ?_;rw [rounds_succ];go_wp2;go_ret;exact ⟨rfl, Below.refl _ _⟩
set_option maxHeartbeats 4000000 in
theorem is_other (a b : Addr) (ca cb : Array Value) (ta tb : TypeId) (w : World) (hne : a ≠ b) (ha : w.heap[a.block]? = some (.cells ca ta (0, 0))) (hb : w.heap[b.block]? = some (.cells cb tb (0, 0))) :
  Calls Tryz.prog 203 #[errV a, errV b] w fun e w' => e = .returned (.bool false) ∧ Below w.heap.size w w' := by
 obtain ⟨i, hi, hcmp⟩ := Option.map_eq_some_iff.1 Tryz.isComp;obtain ⟨j, hj, hjs⟩ := Option.map_eq_some_iff.1 Tryz.isSize;have h8 := @run_callFunc_extern Tryz.prog 223 _ Extern.ReflectliteType.typeOf Tryz.func223 (by kernel_rfl) (by kernel_rfl) (by kernel_rfl) (by kernel_rfl);have h32 := @run_callFunc_extern Tryz.prog 317 _ cmpX Tryz.func317 (by kernel_rfl) (by kernel_rfl) (by kernel_rfl) cmpX_find;have tT := Tryz.isTypeOf;have cT := Tryz.isComparable;have mR := Tryz.isMethodComparable;have nE := Tryz.noIsE;have uE := Tryz.noUnwrapE;have vE := Tryz.noUnwrapsE;have nW := Tryz.noIsW;have uW := Tryz.hasUnwrapW;have mU := Tryz.methodUnwrap;have heq := run_eql_iface_ptr_other (P := Tryz.prog) w Tryz.underlying80 Tryz.underlying227 hi hcmp hj (by rw [hjs]; decide) hne ha hb;go_enter Tryz.func203, Tryz.ntmps203;go_wp2;refine wp_loop_rounds 1 ?_;rw [rounds_succ];go_wp2;go_ret;exact ⟨rfl, Below.refl _ _⟩
set_option maxHeartbeats 4000000 in
theorem is_at_same (n : Int) (b : Addr) (w : World) :
  Calls Tryz.prog 203 #[.iface 241 (.agg #[.int .i64 n, errV b]), errV b] w fun e w' => e = .returned (.bool true) ∧ Below w.heap.size w w' := by
 obtain ⟨i, hi, hcmp⟩ := Option.map_eq_some_iff.1 Tryz.isComp;obtain ⟨j, hj, hjs⟩ := Option.map_eq_some_iff.1 Tryz.isSize;have h8 := @run_callFunc_extern Tryz.prog 223 _ Extern.ReflectliteType.typeOf Tryz.func223 (by kernel_rfl) (by kernel_rfl) (by kernel_rfl) (by kernel_rfl);have h32 := @run_callFunc_extern Tryz.prog 317 _ cmpX Tryz.func317 (by kernel_rfl) (by kernel_rfl) (by kernel_rfl) cmpX_find;have tT := Tryz.isTypeOf;have cT := Tryz.isComparable;have mR := Tryz.isMethodComparable;have nE := Tryz.noIsE;have uE := Tryz.noUnwrapE;have vE := Tryz.noUnwrapsE;have nW := Tryz.noIsW;have uW := Tryz.hasUnwrapW;have mU := Tryz.methodUnwrap;have heq := run_eql_iface_ptr_same (P := Tryz.prog) (w.alloc (.cells #[.int .i64 n, errV b] 241)) b Tryz.underlying80 Tryz.underlying227 hi hcmp hj;have hty := run_eql_iface_types (P := Tryz.prog) 241 227 (.agg #[.int .i64 n, errV b]) (.pointer (some b)) Tryz.underlying80 (by decide) w;go_enter Tryz.func203, Tryz.ntmps203;go_wp2;refine wp_loop_rounds 2 ?_;rw [rounds_succ];go_wp2_with (go_at_call 313; refine (unwrap_is n b _).mono ?_; rintro e w' ⟨rfl, rfl⟩);rw [rounds_succ];go_wp2;go_ret;exact ⟨rfl, below1 _ _⟩
set_option maxHeartbeats 4000000 in
theorem is_at_other (n : Int) (b a : Addr) (ca cb : Array Value) (ta tb : TypeId) (w : World) (hne : a ≠ b) (ha : w.heap[a.block]? = some (.cells ca ta (0, 0))) (hb : w.heap[b.block]? = some (.cells cb tb (0, 0))) :
  Calls Tryz.prog 203 #[.iface 241 (.agg #[.int .i64 n, errV a]), errV b] w fun e w' => e = .returned (.bool false) ∧ Below w.heap.size w w' := by
 obtain ⟨i, hi, hcmp⟩ := Option.map_eq_some_iff.1 Tryz.isComp;obtain ⟨j, hj, hjs⟩ := Option.map_eq_some_iff.1 Tryz.isSize;have h8 := @run_callFunc_extern Tryz.prog 223 _ Extern.ReflectliteType.typeOf Tryz.func223 (by kernel_rfl) (by kernel_rfl) (by kernel_rfl) (by kernel_rfl);have h32 := @run_callFunc_extern Tryz.prog 317 _ cmpX Tryz.func317 (by kernel_rfl) (by kernel_rfl) (by kernel_rfl) cmpX_find;have tT := Tryz.isTypeOf;have cT := Tryz.isComparable;have mR := Tryz.isMethodComparable;have nE := Tryz.noIsE;have uE := Tryz.noUnwrapE;have vE := Tryz.noUnwrapsE;have nW := Tryz.noIsW;have uW := Tryz.hasUnwrapW;have mU := Tryz.methodUnwrap;have hlt : ∀ (x : Addr) (c : Array Value) (t : TypeId), w.heap[x.block]? = some (.cells c t (0, 0)) → (w.alloc (.cells #[.int .i64 n, errV a] 241)).heap[x.block]? = some (.cells c t (0, 0)) := fun x c t h => ((below1 w _).block x.block (Array.getElem?_eq_some_iff.1 h).1).trans h
 have heq := run_eql_iface_ptr_other (P := Tryz.prog) (w.alloc (.cells #[.int .i64 n, errV a] 241)) Tryz.underlying80 Tryz.underlying227 hi hcmp hj (by rw [hjs]; decide) hne (hlt a ca ta ha) (hlt b cb tb hb);have hty := run_eql_iface_types (P := Tryz.prog) 241 227 (.agg #[.int .i64 n, errV a]) (.pointer (some b)) Tryz.underlying80 (by decide) w;clear hlt;go_enter Tryz.func203, Tryz.ntmps203;go_wp2;refine wp_loop_rounds 2 ?_;rw [rounds_succ];go_wp2_with (go_at_call 313; refine (unwrap_is n a _).mono ?_; rintro e w' ⟨rfl, rfl⟩);rw [rounds_succ];go_wp2;go_ret;exact ⟨rfl, below1 _ _⟩
end
end Go.Proofs.YtdacedbfnlkghaaGreatDoor
