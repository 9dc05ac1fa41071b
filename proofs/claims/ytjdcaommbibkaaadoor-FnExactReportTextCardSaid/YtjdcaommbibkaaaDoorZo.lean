
/- A pipe told in a line: both sides. No conditions but those written. -/
import Derived.Test.YtjdcaommbibkaaaDoorZc
import Derived.Test.YtjdcaommbibkaaaDoorZn
import Derived.Test.YtjdcaommbibkaaaDoorQt
import Derived.Shelf.Lay
import Derived.Shelf.Strconv.Itoa3
import Derived.Lib.AppendIntMem
namespace Go.Proofs.YtjdcaommbibkaaaDoor
open Go.RowKit

set_option maxHeartbeats 1000000 in
theorem countT_is (ao : Option Addr) (cap : Nat) (ls : List (List (Int × Int × Int))) (w : World) (hl : ls.length ≤ 1048576 ∧ totT ls ≤ 1048576) (hz : InTT w.heap.size w ao ls) :
    Calls Tryd.prog 20 #[.slice ao ls.length cap] w fun e w' => e = .returned (.int .i64 (totT ls : Int)) ∧ w' = w := by
  obtain ⟨hs, hz⟩ := hz
  have h1 := hl.1
  have h2 := hl.2
  go_enter Tryd.func20, Tryd.ntmps20
  go_wp2
  go_loop [3, 8] (fun v i => ∃ k : Nat, k ≤ ls.length ∧ i = .int .i64 k ∧ v = .int .i64 (totT (ls.take k) : Int)) (fun _ i => ls.length - (intOf i).toNat)
  case atStart => exact ⟨0, Nat.zero_le _, rfl, by simp [totT]⟩
  case round =>
    obtain ⟨k, hk, rfl, rfl⟩ := hrel
    by_cases hlt : k < ls.length
    · obtain ⟨b, off, o, c, rfl, hb, hc, _, _⟩ := hz.at hlt
      have ht := totT_take hlt
      have hle := totT_el hlt
      generalize (el ls k).length = x at hc ht hle
      have HT := hid ht
      clear ht
      go_wp2
      go_round
      case rel => exact ⟨k + 1, by omega, by go_num, by rw [HT.out]; go_num⟩
      case measure => simp [intOf]; omega
    · obtain rfl : k = ls.length := by omega
      rw [List.take_length]
      go_wp2
      go_ret
      exact ⟨rfl, rfl⟩
set_option maxHeartbeats 1000000 in
theorem liveS_is (ti it : Int) (cl : Bool) (ao : Option Addr) (cap : Nat) (ls : List (List (Int × Int × Int))) (emo : Option Addr) (nem emc : Nat) (fao : Option Addr) (nfa fac : Nat) (fuo : Option Addr) (nfu fuc : Nat) (w : World) (hl : ls.length ≤ 1048576 ∧ totT ls ≤ 1048576) (hz : InTT w.heap.size w ao ls) :
    Calls Tryd.prog 14 #[.agg #[.int .i64 ti, .int .i64 it, .bool cl, .slice ao ls.length cap, .slice emo nem emc, .slice fao nfa fac, .slice fuo nfu fuc]] w fun e w' => e = .returned (.int .i64 (totT ls : Int)) ∧ Below w.heap.size w w' := by
  obtain ⟨hs, hz⟩ := hz
  have h1 := hl.1
  have h2 := hl.2
  have hB := below1 w (.cells #[.int .i64 ti, .int .i64 it, .bool cl, .slice ao ls.length cap, .slice emo nem emc, .slice fao nfa fac, .slice fuo nfu fuc] 34)
  have HZ := hid (hz.later hB)
  have HB := hid hB
  obtain ⟨V, hV⟩ : ∃ V, V = w.alloc (.cells #[.int .i64 ti, .int .i64 it, .bool cl, .slice ao ls.length cap, .slice emo nem emc, .slice fao nfa fac, .slice fuo nfu fuc] 34) := ⟨_, rfl⟩
  rw [← hV] at HZ HB
  have HV := hid hV
  clear hV hz hB
  go_enter Tryd.func14, Tryd.ntmps14
  go_wp2
  rw [← HV.out]
  go_loop [3, 9] (fun v i => ∃ k : Nat, k ≤ ls.length ∧ i = .int .i64 k ∧ v = .int .i64 (totT (ls.take k) : Int)) (fun _ i => ls.length - (intOf i).toNat)
  case atStart => exact ⟨0, Nat.zero_le _, rfl, by simp [totT]⟩
  case round =>
    obtain ⟨k, hk, rfl, rfl⟩ := hrel
    by_cases hlt : k < ls.length
    · obtain ⟨b, off, o, c, rfl, hb, hc, _, _⟩ := HZ.out.at hlt
      have ht := totT_take hlt
      have hle := totT_el hlt
      generalize (el ls k).length = x at hc ht hle
      have HT := hid ht
      clear ht
      go_wp2
      go_round
      case rel => exact ⟨k + 1, by omega, by go_num, by rw [HT.out]; go_num⟩
      case measure => simp [intOf]; omega
    · obtain rfl : k = ls.length := by omega
      rw [List.take_length]
      go_wp2
      go_ret
      exact ⟨rfl, HB.out⟩
theorem ba_nil (a : ByteArray) : a ++ tx [] = a := by apply ByteArray.ext; simp [tx, ByteArray.data_append]
theorem ba_assoc (a b c : ByteArray) : (a ++ b) ++ c = a ++ (b ++ c) := by apply ByteArray.ext; simp [ByteArray.data_append]
/-- What is told of a pipe. -/
def repP (it : Int) (nem nfa live : Nat) (cl : Bool) : ByteArray :=
  (((((((tx [105, 116, 101, 109, 115, 32] ++ tx (Lib.itoa it)) ++ tx [32, 101, 109, 105, 116, 116, 101, 100, 32]) ++ tx (Lib.itoa (nem : Int))) ++ tx [32, 102, 97, 105, 108, 101, 100, 32]) ++ tx (Lib.itoa (nfa : Int))) ++ tx [32, 108, 105, 118, 101, 32]) ++ tx (Lib.itoa (live : Int))) ++ (if cl then tx [32, 99, 108, 111, 115, 101, 100] else tx [])
set_option maxRecDepth 100000 in
set_option maxHeartbeats 1000000 in
theorem specReport_is (ti it : Int) (cl : Bool) (ao : Option Addr) (cap : Nat) (ls : List (List (Int × Int × Int))) (emo : Option Addr) (nem emc : Nat) (fao : Option Addr) (nfa fac : Nat) (fuo : Option Addr) (nfu fuc : Nat) (w : World) (hi0 : -9223372036854775808 ≤ it) (hi1 : it ≤ 9223372036854775807) (hle : nem ≤ 1048576) (hlf : nfa ≤ 1048576) (hl : ls.length ≤ 1048576 ∧ totT ls ≤ 1048576) (hz : InTT w.heap.size w ao ls) :
    Calls Tryd.prog 5 #[.agg #[.int .i64 ti, .int .i64 it, .bool cl, .slice ao ls.length cap, .slice emo nem emc, .slice fao nfa fac, .slice fuo nfu fuc]] w fun e w' => e = .returned (.string (repP it nem nfa (totT ls) cl)) ∧ Below w.heap.size w w' := by
  have h2 := hl.2
  have hN1 := fun W => num_any it hi0 hi1 W
  have hN2 := fun W => num_any (nem : Int) (by omega) (by omega) W
  have hN3 := fun W => num_any (nfa : Int) (by omega) (by omega) W
  have hN4 := fun W => num_any (totT ls : Int) (by omega) (by omega) W
  have s1 : (tx (Lib.itoa it)).size ≤ 21 := by rw [tx_size]; exact itoa_short _ hi0 hi1
  have s2 : (tx (Lib.itoa (nem : Int))).size ≤ 21 := by rw [tx_size]; exact itoa_short _ (by omega) (by omega)
  have s3 : (tx (Lib.itoa (nfa : Int))).size ≤ 21 := by rw [tx_size]; exact itoa_short _ (by omega) (by omega)
  have s4 : (tx (Lib.itoa (totT ls : Int))).size ≤ 21 := by rw [tx_size]; exact itoa_short _ (by omega) (by omega)
  have hR : repP it nem nfa (totT ls) cl = (((((((tx [105, 116, 101, 109, 115, 32] ++ tx (Lib.itoa it)) ++ tx [32, 101, 109, 105, 116, 116, 101, 100, 32]) ++ tx (Lib.itoa (nem : Int))) ++ tx [32, 102, 97, 105, 108, 101, 100, 32]) ++ tx (Lib.itoa (nfa : Int))) ++ tx [32, 108, 105, 118, 101, 32]) ++ tx (Lib.itoa (totT ls : Int))) ++ (if cl then tx [32, 99, 108, 111, 115, 101, 100] else tx []) := rfl
  generalize tx (Lib.itoa it) = t1 at *
  generalize tx (Lib.itoa (nem : Int)) = t2 at *
  generalize tx (Lib.itoa (nfa : Int)) = t3 at *
  generalize tx (Lib.itoa (totT ls : Int)) = t4 at *
  have HR := hid hR
  have HN1 := hid hN1
  have HN2 := hid hN2
  have HN3 := hid hN3
  have HN4 := hid hN4
  have HL := hid hl
  have hB := below1 w (.cells #[.int .i64 ti, .int .i64 it, .bool cl, .slice ao ls.length cap, .slice emo nem emc, .slice fao nfa fac, .slice fuo nfu fuc] 34)
  have XV := Bx.new (w := w) [.int .i64 ti, .int .i64 it, .bool cl, .slice ao ls.length cap, .slice emo nem emc, .slice fao nfa fac, .slice fuo nfu fuc] 34 rfl
  have HZ := hid (hz.later hB)
  obtain ⟨V, hV⟩ : ∃ V, V = w.alloc (.cells #[.int .i64 ti, .int .i64 it, .bool cl, .slice ao ls.length cap, .slice emo nem emc, .slice fao nfa fac, .slice fuo nfu fuc] 34) := ⟨_, rfl⟩
  have XV' : Bx V w.heap.size [.int .i64 ti, .int .i64 it, .bool cl, .slice ao ls.length cap, .slice emo nem emc, .slice fao nfa fac, .slice fuo nfu fuc] := by rw [hV]; exact XV
  rw [← hV] at HZ hB
  have HB := hid hB
  have HV := hid hV
  have HX := hid XV'
  clear hV hz hB XV XV' hN1 hN2 hN3 hN4 hR hl
  go_enter Tryd.func5, Tryd.ntmps5
  have hNE := later_some V
  have x0 := HX.out.at 0 rfl
  have x1 := HX.out.at 1 rfl
  have x2 := HX.out.at 2 rfl
  have x3 := HX.out.at 3 rfl
  have x4 := HX.out.at 4 rfl
  have x5 := HX.out.at 5 rfl
  have x6 := HX.out.at 6 rfl
  go_wp2_with fail
  rw [← HV.out]
  refine wp_region_later V (by kernel_rfl) (by kernel_rfl) (Below.refl _ _) ?_
  repeat (go_big_quiet_step (first
    | (go_at_call 14; exact Calls.later (liveS_is ti it cl ao cap ls emo nem emc fao nfa fac fuo nfu fuc _ HL.out (by rename_i W; exact HZ.out.later W.h)))
    | (go_at_call 13; first | (with_reducible exact Calls.later (HN1.out _)) | (with_reducible exact Calls.later (HN2.out _)) | (with_reducible exact Calls.later (HN3.out _)) | (with_reducible exact Calls.later (HN4.out _)))))
  refine wpQuiet_nil ?_
  rintro w4 ⟨⟨w5, hb4⟩, hw5⟩
  obtain rfl : w4 = w5 := hw5
  clear x0 x1 x2 x3 x4 x5 x6 hNE
  have X4 := HX.out.later hb4
  have y2 := X4.c 2 rfl
  have HB4 := hid (HB.out.trans (hb4.mono HB.out.size))
  clear hb4 X4
  cases cl
  · go_wp2
    go_ret
    exact ⟨by rw [HR.out, if_neg (by simp), ba_nil]; rfl, HB4.out⟩
  · go_wp2
    go_ret
    exact ⟨by rw [HR.out]; rfl, HB4.out⟩
shelf_lay LaysM.n171 Nm 171 at Tryd as Tryd.laysItoa
/-- The library's table lies as it was laid, whatever is done from here on. -/
abbrev PowTab (w : World) : Prop := Lib.TabIs Tryd.prog w "internal/strconv.uint64pow10" .u64 Lib.pow10Tab
theorem itoa_any (n : Int) (h0 : -9223372036854775808 ≤ n) (h1 : n ≤ 9223372036854775807) (w : World) (ht : PowTab w) :
    Calls Tryd.prog 19 #[.int .i64 n] w fun e w' => e = .returned (.string (tx (Lib.itoa n))) ∧ Below w.heap.size w w' :=
  (Any.strconv_Itoa Tryd.laysItoa n h0 h1 w ht).mono fun _ _ ⟨he, k, os, hw⟩ => ⟨he, by rw [hw]; exact Lib.below_grow _ w (Nat.le_refl _) k os⟩
theorem PowTab.later {w w' : World} (h : PowTab w) (hb : Below w.heap.size w w') : PowTab w' := Lib.tabBelow_of_tabIs h w' hb
set_option maxRecDepth 100000 in
set_option maxHeartbeats 1000000 in
theorem implReport_is (ti it : Int) (cl : Bool) (ao : Option Addr) (cap : Nat) (ls : List (List (Int × Int × Int))) (emo : Option Addr) (nem emc : Nat) (fao : Option Addr) (nfa fac : Nat) (fuo : Option Addr) (nfu fuc : Nat) (w : World) (hi0 : -9223372036854775808 ≤ it) (hi1 : it ≤ 9223372036854775807) (hle : nem ≤ 1048576) (hlf : nfa ≤ 1048576) (hl : ls.length ≤ 1048576 ∧ totT ls ≤ 1048576) (hz : InTT w.heap.size w ao ls) (hT : PowTab w) :
    Calls Tryd.prog 7 #[.agg #[.int .i64 ti, .int .i64 it, .bool cl, .slice ao ls.length cap, .slice emo nem emc, .slice fao nfa fac, .slice fuo nfu fuc]] w fun e w' => e = .returned (.string (repP it nem nfa (totT ls) cl)) ∧ Below w.heap.size w w' := by
  have h2 := hl.2
  have hN1 := fun W => itoa_any it hi0 hi1 W
  have hN2 := fun W => itoa_any (nem : Int) (by omega) (by omega) W
  have hN3 := fun W => itoa_any (nfa : Int) (by omega) (by omega) W
  have hN4 := fun W => itoa_any (totT ls : Int) (by omega) (by omega) W
  have s1 : (tx (Lib.itoa it)).size ≤ 21 := by rw [tx_size]; exact itoa_short _ hi0 hi1
  have s2 : (tx (Lib.itoa (nem : Int))).size ≤ 21 := by rw [tx_size]; exact itoa_short _ (by omega) (by omega)
  have s3 : (tx (Lib.itoa (nfa : Int))).size ≤ 21 := by rw [tx_size]; exact itoa_short _ (by omega) (by omega)
  have s4 : (tx (Lib.itoa (totT ls : Int))).size ≤ 21 := by rw [tx_size]; exact itoa_short _ (by omega) (by omega)
  have hR : repP it nem nfa (totT ls) cl = (((tx [105, 116, 101, 109, 115, 32] ++ tx (Lib.itoa it)) ++ (tx [32, 101, 109, 105, 116, 116, 101, 100, 32] ++ tx (Lib.itoa (nem : Int)))) ++ (tx [32, 102, 97, 105, 108, 101, 100, 32] ++ tx (Lib.itoa (nfa : Int)))) ++ (tx [32, 108, 105, 118, 101, 32] ++ tx (Lib.itoa (totT ls : Int))) ++ (if cl then tx [32, 99, 108, 111, 115, 101, 100] else tx []) := by simp only [repP, ba_assoc]
  generalize tx (Lib.itoa it) = t1 at *
  generalize tx (Lib.itoa (nem : Int)) = t2 at *
  generalize tx (Lib.itoa (nfa : Int)) = t3 at *
  generalize tx (Lib.itoa (totT ls : Int)) = t4 at *
  have HR := hid hR
  have HN1 := hid hN1
  have HN2 := hid hN2
  have HN3 := hid hN3
  have HN4 := hid hN4
  have HL := hid hl
  have hB0 := below1 w (.cells #[.int .i64 ti, .int .i64 it, .bool cl, .slice ao ls.length cap, .slice emo nem emc, .slice fao nfa fac, .slice fuo nfu fuc] 34)
  have X0 := hid (Bx.new (w := w) [.int .i64 ti, .int .i64 it, .bool cl, .slice ao ls.length cap, .slice emo nem emc, .slice fao nfa fac, .slice fuo nfu fuc] 34 rfl)
  have HZ := hid hz
  have HT := hid hT
  clear hz hT hN1 hN2 hN3 hN4 hR hl
  go_enter Tryd.func7, Tryd.ntmps7
  go_wp2_with fail
  refine (HN1.out _ (HT.out.later hB0)).mono ?_
  rintro e w1 ⟨rfl, hb1⟩
  have hB1 := hB0.trans (hb1.mono hB0.size)
  have X1 := hid (X0.out.later hb1)
  clear hb1 X0 hB0
  have x4 := X1.out.c 4 rfl
  go_wp2_with fail
  refine (HN2.out _ (HT.out.later hB1)).mono ?_
  rintro e w2 ⟨rfl, hb2⟩
  have hB2 := hB1.trans (hb2.mono hB1.size)
  have X2 := hid (X1.out.later hb2)
  clear hb2 X1 hB1 x4
  have x5 := X2.out.c 5 rfl
  go_wp2_with fail
  refine (HN3.out _ (HT.out.later hB2)).mono ?_
  rintro e w3 ⟨rfl, hb3⟩
  have hB3 := hB2.trans (hb3.mono hB2.size)
  have X3 := hid (X2.out.later hb3)
  clear hb3 X2 hB2 x5
  have x3 := X3.out.c 3 rfl
  go_wp2_with fail
  refine (countT_is ao cap ls _ HL.out (HZ.out.later hB3)).mono ?_
  rintro e w4 ⟨rfl, hw4⟩
  rw [hw4]; clear hw4 w4
  go_wp2_with fail
  refine (HN4.out _ (HT.out.later hB3)).mono ?_
  rintro e w4 ⟨rfl, hb4⟩
  have HB4 := hid (hB3.trans (hb4.mono hB3.size))
  have y2 := (X3.out.later hb4).c 2 rfl
  clear hb4 X3 hB3 x3
  cases cl
  · go_wp2
    go_ret
    exact ⟨by rw [HR.out, if_neg (by simp), ba_nil]; rfl, HB4.out⟩
  · go_wp2
    go_ret
    exact ⟨by rw [HR.out]; rfl, HB4.out⟩
end Go.Proofs.YtjdcaommbibkaaaDoor
