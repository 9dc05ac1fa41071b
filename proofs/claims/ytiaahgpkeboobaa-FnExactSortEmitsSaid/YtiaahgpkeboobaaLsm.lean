
/- The walk of the law: it returns true. No conditions but those written. -/
import Derived.Test.YtiaahgpkeboobaaEk
namespace Go.Proofs.Ytiaahgpkeboobaa
open Go.RowKit

set_option maxRecDepth 100000 in
set_option maxHeartbeats 16000000 in
theorem lawSort_any (ao : Option Addr) (cap : Nat) (ts : List (Int × Int)) (w : World) (hl : ts.length ≤ 9223372036854775807) (hz : kE.In w.heap.size w ao ts) :
    Calls Try.prog 3 #[.slice ao ts.length cap] w fun e w' => e = .returned (.bool true) ∧ Below w.heap.size w w' := by
  generalize hR : sortR ts = R
  have HR : Hid (sortR ts = R) := hR
  clear hR
  obtain ⟨Rl, Rc⟩ := R
  go_enter Try.func3, Try.ntmps3
  go_wp2_with fail
  refine (szEmitS_any ao ts.length cap 1048576 _ (by omega) (by omega) hl).mono ?_
  rintro e w1 ⟨⟨z, rfl, _, hr⟩, hw1⟩
  have hB1 : Below w.heap.size w w1 := by rw [hw1]; exact Below.refl _ _
  clear hw1
  rcases hr with hr | ⟨hr0, hr1⟩
  · go_wp2
    go_ret
    exact ⟨rfl, hB1⟩
  have k1 : ts.length ≤ 1048576 := by omega
  have hr0' : decide (z < 0) = false := by simpa using hr1
  clear hr0
  have hq := sortR_len (ts := ts) k1
  rw [HR.out] at hq
  dsimp only at hq
  have hce0 : (Rc != Rc) = false := by simp
  go_wp2_with fail
  refine (toEmitS_any ao cap ts _ k1 (hz.later hB1)).mono ?_
  rintro e w2 ⟨rfl, hF2, hb2⟩
  generalize hgg : (some ⟨w1.heap.size, 0, none⟩ : Option Addr) = ad2 at hF2 ⊢
  obtain ⟨g2, hgg2⟩ : ∃ g, ad2 = some ⟨g, 0, none⟩ := ⟨_, hgg.symm⟩
  clear hgg
  subst hgg2
  have hB2 := hB1.trans (hb2.mono hB1.size)
  have Z2 := show Hid (kE.In w2.heap.size w2 (some ⟨g2, 0, none⟩) ts) from hF2.in
  clear hb2 hF2
  go_wp2_with fail
  refine (specSort_any (some ⟨g2, 0, none⟩) ts.length ts w2 k1 (by simp) Z2.out).mono ?_
  rintro e w3 ⟨⟨o3_0, c3_0, rfl, hF3_0⟩, hb3⟩
  rw [HR.out] at hF3_0  ⊢
  dsimp only at hF3_0 ⊢
  have hs3 := hb3.size
  have hB3 := hB2.trans (hb3.mono hB2.size)
  clear hb3 Z2
  have S03 := hid (hF3_0)
  clear hF3_0
  have hA3 := hB3.size
  go_wp2_with fail
  refine (toEmitS_any ao cap ts _ k1 (hz.later hB3)).mono ?_
  rintro e w4 ⟨rfl, hF4, hb4⟩
  generalize hgg : (some ⟨w3.heap.size, 0, none⟩ : Option Addr) = ad4 at hF4 ⊢
  obtain ⟨g4, hgg4⟩ : ∃ g, ad4 = some ⟨g, 0, none⟩ := ⟨_, hgg.symm⟩
  clear hgg
  subst hgg4
  have hs4 := hb4.size
  have hB4 := hB3.trans (hb4.mono hB3.size)
  have S04 := hid (S03.out.later hb4)
  clear S03
  have X4 := hid (hF4)
  clear hb4 hF4
  go_wp2_with fail
  refine (implSort_any (some ⟨g4, 0, none⟩) ts.length ts _ k1 X4.out.in).mono ?_
  rintro e w5 ⟨⟨o5_0, c5_0, rfl, hF5_0⟩, hb5⟩
  rw [HR.out] at hF5_0 ⊢
  dsimp only at hF5_0 ⊢
  have hs5 := hb5.size
  have hB5 := hB4.trans (hb5.mono hB4.size)
  have S05 := hid (S04.out.later hb5)
  have X5 := hid (X4.out.later hb5)
  clear S04 X4
  have T05 := hid (hF5_0)
  have N55 : Hid (w5.heap.size ≤ w5.heap.size) := Nat.le_refl _
  clear hb5 hF5_0
  go_wp2_with fail
  refine (eqEmitS_same o5_0 o3_0 c5_0 c3_0 Rl _ hq T05.out.in S05.out.in).mono ?_
  rintro e w6a ⟨rfl, hb6a⟩
  have hB6a := hB5.trans (hb6a.mono hB5.size)
  have S06a := hid (S05.out.later hb6a)
  have X6a := hid (X5.out.later hb6a)
  have T06a := hid (T05.out.later hb6a)
  have N56a := hid (Nat.le_trans N55.out hb6a.size)
  clear S05 X5 T05 N55
  clear hb6a
  go_wp2_with fail
  refine (toEmitS_any ao cap ts _ k1 (hz.later hB6a)).mono ?_
  rintro e w7 ⟨rfl, hF7, hb7⟩
  generalize hgg : (some ⟨w6a.heap.size, 0, none⟩ : Option Addr) = ad7 at hF7 ⊢
  obtain ⟨g7, hgg7⟩ : ∃ g, ad7 = some ⟨g, 0, none⟩ := ⟨_, hgg.symm⟩
  clear hgg
  subst hgg7
  have hB7 := hB6a.trans (hb7.mono hB6a.size)
  have S07 := hid (S06a.out.later hb7)
  have X7 := hid (X6a.out.later hb7)
  have T07 := hid (T06a.out.later hb7)
  have N57 := hid (Nat.le_trans N56a.out hb7.size)
  clear S06a X6a T06a N56a
  have Z7 := show Hid (kE.In w7.heap.size w7 (some ⟨g7, 0, none⟩) ts) from hF7.in
  clear hb7 hF7
  go_wp2_with fail
  refine (eqEmitS_same (some ⟨g4, 0, none⟩) (some ⟨g7, 0, none⟩) ts.length ts.length ts _ k1 X7.out.in Z7.out).mono ?_
  rintro e w8 ⟨rfl, hb8⟩
  have hB8 := hB7.trans (hb8.mono hB7.size)
  have S08 := hid (S07.out.later hb8)
  have X8 := hid (X7.out.later hb8)
  have T08 := hid (T07.out.later hb8)
  have N58 := hid (Nat.le_trans N57.out hb8.size)
  clear S07 X7 T07 N57
  clear hb8 Z7
  go_wp2_with fail
  refine (markEmitS_any (w3.heap.size) w4.heap.size (some ⟨g4, 0, none⟩) ts.length ts 1 w8 (by omega) (by omega) (by omega) X8.out).mono ?_
  rintro e w9 ⟨rfl, _, hO9⟩
  have hb9 : Between (w3.heap.size) w4.heap.size w8 w9 := X8.out.between hO9
  clear hO9
  clear X8
  have hlow : (w3.heap.size) ≤ w8.heap.size := by have := N58.out; omega
  have hB9 := hB8.trans ((hb9.below hlow).mono (by omega))
  have S09 := hid (S08.out.between' hb9 (by omega))
  have T09 := hid (T08.out.between' hb9 (by omega))
  have N59 := hid (Nat.le_trans N58.out hb9.size)
  clear S08 T08 N58
  clear hb9 hlow
  have hk0 : decide ((1 : Int) + 2 * (ts.length : Int) < 0) = false := by simp; omega
  go_wp2_with fail
  refine (eqEmitS_same o5_0 o3_0 c5_0 c3_0 Rl _ hq T09.out.in S09.out.in).mono ?_
  rintro e w10a ⟨rfl, hb10a⟩
  have hB10a := hB9.trans (hb10a.mono hB9.size)
  have S010a := hid (S09.out.later hb10a)
  have T010a := hid (T09.out.later hb10a)
  have N510a := hid (Nat.le_trans N59.out hb10a.size)
  clear S09 T09 N59
  clear hb10a
  go_wp2_with fail
  refine (markEmitS_any (w4.heap.size) w5.heap.size o5_0 c5_0 Rl (1) _ (by omega) (by omega) (by omega) T010a.out).mono ?_
  rintro e w11a ⟨rfl, hT11a, hOz⟩
  have hb11a : Between (w4.heap.size) w5.heap.size w10a w11a := T010a.out.between hOz
  have hlow11a : (w4.heap.size) ≤ w10a.heap.size := by have := N510a.out; omega
  have hB11a := hB10a.trans ((hb11a.below hlow11a).mono (by omega))
  have S011a := hid (S010a.out.between' hb11a (by omega))
  have N511a := hid (Nat.le_trans N510a.out hb11a.size)
  have T011a := hid (hT11a)
  clear S010a T010a N510a hT11a hb11a hOz hlow11a
  have hmq : (1 + 2 * (Rl.length : Int) != 1 + 2 * (Rl.length : Int)) = false := by simp
  go_wp2_with fail
  refine (heldEmitS_any o5_0 c5_0 Rl.length (1) _ (by omega) (by omega) (by omega) T011a.out.in).mono ?_
  rintro e w12a ⟨rfl, hw12a⟩
  have hb12a : Below w11a.heap.size w11a w12a := by rw [hw12a]; exact Below.refl _ _
  clear hw12a
  have hB12a := hB11a.trans (hb12a.mono hB11a.size)
  have S012a := hid (S011a.out.later hb12a)
  have T012a := hid (T011a.out.later hb12a)
  have N512a := hid (Nat.le_trans N511a.out hb12a.size)
  clear S011a T011a N511a
  clear hb12a
  have hm0 : decide (1 + 2 * (Rl.length : Int) < 0) = false := by simp; omega
  go_wp2_with fail
  refine (toEmitS_any ao cap ts _ k1 (hz.later hB12a)).mono ?_
  rintro e w13 ⟨rfl, hF13, hb13⟩
  generalize hgg : (some ⟨w12a.heap.size, 0, none⟩ : Option Addr) = ad13 at hF13 ⊢
  obtain ⟨g13, hgg13⟩ : ∃ g, ad13 = some ⟨g, 0, none⟩ := ⟨_, hgg.symm⟩
  clear hgg
  subst hgg13
  have hB13 := hB12a.trans (hb13.mono hB12a.size)
  have S013 := hid (S012a.out.later hb13)
  have T013 := hid (T012a.out.later hb13)
  have N513 := hid (Nat.le_trans N512a.out hb13.size)
  clear S012a T012a N512a
  have Z13 := show Hid (kE.In w13.heap.size w13 (some ⟨g13, 0, none⟩) ts) from hF13.in
  clear hb13 hF13
  go_wp2_with fail
  refine (implSort_any (some ⟨g13, 0, none⟩) ts.length ts w13 k1 Z13.out).mono ?_
  rintro e w14 ⟨⟨o14_0, c14_0, rfl, hF14_0⟩, hb14⟩
  rw [HR.out] at hF14_0 ⊢
  dsimp only at hF14_0 ⊢
  have hB14 := hB13.trans (hb14.mono hB13.size)
  have S014 := hid (S013.out.later hb14)
  have T014 := hid (T013.out.later hb14)
  have N514 := hid (Nat.le_trans N513.out hb14.size)
  clear S013 T013 N513
  have U014 := hid (hF14_0)
  clear Z13 hb14 hF14_0
  go_wp2_with fail
  refine (eqEmitS_same o14_0 o3_0 c14_0 c3_0 Rl _ hq U014.out.in S014.out.in).mono ?_
  rintro e w15a ⟨rfl, hb15a⟩
  have hB15a := hB14.trans (hb15a.mono hB14.size)
  have S015a := hid (S014.out.later hb15a)
  have T015a := hid (T014.out.later hb15a)
  have N515a := hid (Nat.le_trans N514.out hb15a.size)
  have U015a := hid (U014.out.later hb15a)
  clear S014 T014 N514 U014
  clear hb15a
  clear S015a U015a
  go_wp2_with fail
  refine (heldEmitS_any o5_0 c5_0 Rl.length (1) _ (by omega) (by omega) (by omega) T015a.out.in).mono ?_
  rintro e w16a ⟨rfl, hw16a⟩
  have hb16a : Below w15a.heap.size w15a w16a := by rw [hw16a]; exact Below.refl _ _
  clear hw16a
  have hB16a := hB15a.trans (hb16a.mono hB15a.size)
  have T016a := hid (T015a.out.later hb16a)
  have N516a := hid (Nat.le_trans N515a.out hb16a.size)
  clear T015a N515a
  clear hb16a
  go_wp2
  go_ret
  exact ⟨rfl, hB16a⟩
end Go.Proofs.Ytiaahgpkeboobaa
