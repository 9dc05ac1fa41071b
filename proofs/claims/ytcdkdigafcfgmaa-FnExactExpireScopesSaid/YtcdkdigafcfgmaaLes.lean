/- The walk of the law: it returns true. No conditions but those written. -/
import Derived.Test.YtcdkdigafcfgmaaSm
namespace Go.Proofs.Ytcdkdigafcfgmaa
open Go.RowKit

set_option maxRecDepth 100000 in
set_option maxHeartbeats 16000000 in
theorem lawExpire_any (ao : Option Addr) (cap : Nat) (ts : List (Int × Int × Int)) (iv : Int) (w : World) (hl : ts.length ≤ 9223372036854775807) (hz : kS.In w.heap.size w ao ts) :
    Calls Try.prog 13 #[.slice ao ts.length cap, .int .i64 iv] w fun e w' => e = .returned (.bool true) ∧ Below w.heap.size w w' := by
  generalize hR : expireR ts iv = R
  have HR : Hid (expireR ts iv = R) := hR
  clear hR
  obtain ⟨Rl, Rw, Rc⟩ := R
  go_enter Try.func13, Try.ntmps13
  go_wp2_with fail
  refine (szScopeS_any ao ts.length cap 1048576 _ (by omega) (by omega) hl).mono ?_
  rintro e w1 ⟨⟨z, rfl, _, hr⟩, hw1⟩
  have hB1 : Below w.heap.size w w1 := by rw [hw1]; exact Below.refl _ _
  clear hw1
  rcases hr with hr | ⟨hr0, hr1⟩
  · go_wp2
    go_ret
    exact ⟨rfl, hB1⟩
  have k1 : ts.length ≤ 1048576 := by omega
  have hr0' : decide (z < 0) = false := by simpa using hr1
  clear hr0
  have hq := expireR_len (k := iv) k1
  rw [HR.out] at hq
  dsimp only at hq
  have hce0 : (Rc != Rc) = false := by simp
  go_wp2_with fail
  refine (toScopeS_any ao cap ts _ k1 (hz.later hB1)).mono ?_
  rintro e w2 ⟨rfl, hF2, hb2⟩
  generalize hgg : (some ⟨w1.heap.size, 0, none⟩ : Option Addr) = ad2 at hF2 ⊢
  obtain ⟨g2, hgg2⟩ : ∃ g, ad2 = some ⟨g, 0, none⟩ := ⟨_, hgg.symm⟩
  clear hgg
  subst hgg2
  have hB2 := hB1.trans (hb2.mono hB1.size)
  have Z2 := show Hid (kS.In w2.heap.size w2 (some ⟨g2, 0, none⟩) ts) from hF2.in
  clear hb2 hF2
  go_wp2_with fail
  refine (specExpire_any (some ⟨g2, 0, none⟩) ts.length ts iv w2 k1 (by simp) Z2.out).mono ?_
  rintro e w3 ⟨⟨o3_0, c3_0, o3_1, c3_1, rfl, hF3_0, hF3_1⟩, hb3⟩
  rw [HR.out] at hF3_0 hF3_1  ⊢
  dsimp only at hF3_0 hF3_1 ⊢
  have hs3 := hb3.size
  have hB3 := hB2.trans (hb3.mono hB2.size)
  clear hb3 Z2
  have S03 := hid (hF3_0)
  have S13 := hid (hF3_1)
  clear hF3_0 hF3_1
  have hA3 := hB3.size
  go_wp2_with fail
  refine (toScopeS_any ao cap ts _ k1 (hz.later hB3)).mono ?_
  rintro e w4 ⟨rfl, hF4, hb4⟩
  generalize hgg : (some ⟨w3.heap.size, 0, none⟩ : Option Addr) = ad4 at hF4 ⊢
  obtain ⟨g4, hgg4⟩ : ∃ g, ad4 = some ⟨g, 0, none⟩ := ⟨_, hgg.symm⟩
  clear hgg
  subst hgg4
  have hs4 := hb4.size
  have hB4 := hB3.trans (hb4.mono hB3.size)
  have S04 := hid (S03.out.later hb4)
  have S14 := hid (S13.out.later hb4)
  clear S03 S13
  have X4 := hid (hF4)
  clear hb4 hF4
  go_wp2_with fail
  refine (implExpire_any (some ⟨g4, 0, none⟩) ts.length ts iv _ k1 X4.out.in).mono ?_
  rintro e w5 ⟨⟨o5_0, c5_0, o5_1, c5_1, rfl, hF5_0, hF5_1⟩, hb5⟩
  rw [HR.out] at hF5_0 hF5_1 ⊢
  dsimp only at hF5_0 hF5_1 ⊢
  have hs5 := hb5.size
  have hB5 := hB4.trans (hb5.mono hB4.size)
  have S05 := hid (S04.out.later hb5)
  have S15 := hid (S14.out.later hb5)
  have X5 := hid (X4.out.later hb5)
  clear S04 S14 X4
  have T05 := hid (hF5_0)
  have T15 := hid (hF5_1)
  have N55 : Hid (w5.heap.size ≤ w5.heap.size) := Nat.le_refl _
  clear hb5 hF5_0 hF5_1
  go_wp2_with fail
  refine (eqScopeS_same o5_0 o3_0 c5_0 c3_0 Rl _ hq.1 T05.out.in S05.out.in).mono ?_
  rintro e w6a ⟨rfl, hb6a⟩
  have hB6a := hB5.trans (hb6a.mono hB5.size)
  have S06a := hid (S05.out.later hb6a)
  have S16a := hid (S15.out.later hb6a)
  have X6a := hid (X5.out.later hb6a)
  have T06a := hid (T05.out.later hb6a)
  have T16a := hid (T15.out.later hb6a)
  have N56a := hid (Nat.le_trans N55.out hb6a.size)
  clear S05 S15 X5 T05 T15 N55
  clear hb6a
  go_wp2_with fail
  refine (eqIntS_same o5_1 o3_1 c5_1 c3_1 Rw _ hq.2 T16a.out.in S16a.out.in).mono ?_
  rintro e w6b ⟨rfl, hb6b⟩
  have hB6b := hB6a.trans (hb6b.mono hB6a.size)
  have S06b := hid (S06a.out.later hb6b)
  have S16b := hid (S16a.out.later hb6b)
  have X6b := hid (X6a.out.later hb6b)
  have T06b := hid (T06a.out.later hb6b)
  have T16b := hid (T16a.out.later hb6b)
  have N56b := hid (Nat.le_trans N56a.out hb6b.size)
  clear S06a S16a X6a T06a T16a N56a
  clear hb6b
  go_wp2_with fail
  refine (toScopeS_any ao cap ts _ k1 (hz.later hB6b)).mono ?_
  rintro e w7 ⟨rfl, hF7, hb7⟩
  generalize hgg : (some ⟨w6b.heap.size, 0, none⟩ : Option Addr) = ad7 at hF7 ⊢
  obtain ⟨g7, hgg7⟩ : ∃ g, ad7 = some ⟨g, 0, none⟩ := ⟨_, hgg.symm⟩
  clear hgg
  subst hgg7
  have hB7 := hB6b.trans (hb7.mono hB6b.size)
  have S07 := hid (S06b.out.later hb7)
  have S17 := hid (S16b.out.later hb7)
  have X7 := hid (X6b.out.later hb7)
  have T07 := hid (T06b.out.later hb7)
  have T17 := hid (T16b.out.later hb7)
  have N57 := hid (Nat.le_trans N56b.out hb7.size)
  clear S06b S16b X6b T06b T16b N56b
  have Z7 := show Hid (kS.In w7.heap.size w7 (some ⟨g7, 0, none⟩) ts) from hF7.in
  clear hb7 hF7
  go_wp2_with fail
  refine (eqScopeS_same (some ⟨g4, 0, none⟩) (some ⟨g7, 0, none⟩) ts.length ts.length ts _ k1 X7.out.in Z7.out).mono ?_
  rintro e w8 ⟨rfl, hb8⟩
  have hB8 := hB7.trans (hb8.mono hB7.size)
  have S08 := hid (S07.out.later hb8)
  have S18 := hid (S17.out.later hb8)
  have X8 := hid (X7.out.later hb8)
  have T08 := hid (T07.out.later hb8)
  have T18 := hid (T17.out.later hb8)
  have N58 := hid (Nat.le_trans N57.out hb8.size)
  clear S07 S17 X7 T07 T17 N57
  clear hb8 Z7
  go_wp2_with fail
  refine (markScopeS_any (w3.heap.size) w4.heap.size (some ⟨g4, 0, none⟩) ts.length ts 1 w8 (by omega) (by omega) (by omega) X8.out).mono ?_
  rintro e w9 ⟨rfl, _, hO9⟩
  have hb9 : Between (w3.heap.size) w4.heap.size w8 w9 := X8.out.between hO9
  clear hO9
  clear X8
  have hlow : (w3.heap.size) ≤ w8.heap.size := by have := N58.out; omega
  have hB9 := hB8.trans ((hb9.below hlow).mono (by omega))
  have S09 := hid (S08.out.between' hb9 (by omega))
  have S19 := hid (S18.out.between' hb9 (by omega))
  have T09 := hid (T08.out.between' hb9 (by omega))
  have T19 := hid (T18.out.between' hb9 (by omega))
  have N59 := hid (Nat.le_trans N58.out hb9.size)
  clear S08 S18 T08 T18 N58
  clear hb9 hlow
  have hk0 : decide ((1 : Int) + 3 * (ts.length : Int) < 0) = false := by simp; omega
  go_wp2_with fail
  refine (eqScopeS_same o5_0 o3_0 c5_0 c3_0 Rl _ hq.1 T09.out.in S09.out.in).mono ?_
  rintro e w10a ⟨rfl, hb10a⟩
  have hB10a := hB9.trans (hb10a.mono hB9.size)
  have S010a := hid (S09.out.later hb10a)
  have S110a := hid (S19.out.later hb10a)
  have T010a := hid (T09.out.later hb10a)
  have T110a := hid (T19.out.later hb10a)
  have N510a := hid (Nat.le_trans N59.out hb10a.size)
  clear S09 S19 T09 T19 N59
  clear hb10a
  go_wp2_with fail
  refine (eqIntS_same o5_1 o3_1 c5_1 c3_1 Rw _ hq.2 T110a.out.in S110a.out.in).mono ?_
  rintro e w10b ⟨rfl, hb10b⟩
  have hB10b := hB10a.trans (hb10b.mono hB10a.size)
  have S010b := hid (S010a.out.later hb10b)
  have S110b := hid (S110a.out.later hb10b)
  have T010b := hid (T010a.out.later hb10b)
  have T110b := hid (T110a.out.later hb10b)
  have N510b := hid (Nat.le_trans N510a.out hb10b.size)
  clear S010a S110a T010a T110a N510a
  clear hb10b
  go_wp2_with fail
  refine (markScopeS_any (w4.heap.size) w5.heap.size o5_0 c5_0 Rl (1) _ (by omega) (by omega) (by omega) T010b.out).mono ?_
  rintro e w11a ⟨rfl, hT11a, hOz⟩
  have hb11a : Between (w4.heap.size) w5.heap.size w10b w11a := T010b.out.between hOz
  have hlow11a : (w4.heap.size) ≤ w10b.heap.size := by have := N510b.out; omega
  have hB11a := hB10b.trans ((hb11a.below hlow11a).mono (by omega))
  have S011a := hid (S010b.out.between' hb11a (by omega))
  have S111a := hid (S110b.out.between' hb11a (by omega))
  have N511a := hid (Nat.le_trans N510b.out hb11a.size)
  have T011a := hid (hT11a)
  have T111a := hid (T110b.out.off (T110b.out.rowAt.off T010b.out.rowAt (by decide)) hOz)
  clear S010b S110b T010b T110b N510b hT11a hb11a hOz hlow11a
  go_wp2_with fail
  refine (markIntS_any (w4.heap.size) w5.heap.size o5_1 c5_1 Rw (1 + 3 * (Rl.length : Int)) _ (by omega) (by omega) (by omega) T111a.out).mono ?_
  rintro e w11b ⟨rfl, hT11b, hOz⟩
  have hb11b : Between (w4.heap.size) w5.heap.size w11a w11b := T111a.out.between hOz
  have hlow11b : (w4.heap.size) ≤ w11a.heap.size := by have := N511a.out; omega
  have hB11b := hB11a.trans ((hb11b.below hlow11b).mono (by omega))
  have S011b := hid (S011a.out.between' hb11b (by omega))
  have S111b := hid (S111a.out.between' hb11b (by omega))
  have N511b := hid (Nat.le_trans N511a.out hb11b.size)
  have T011b := hid (T011a.out.off (T011a.out.rowAt.off T111a.out.rowAt (by decide)) hOz)
  have T111b := hid (hT11b)
  clear S011a S111a T011a T111a N511a hT11b hb11b hOz hlow11b
  have hmq : (1 + 3 * (Rl.length : Int) + (Rw.length : Int) != 1 + 3 * (Rl.length : Int) + (Rw.length : Int)) = false := by simp
  go_wp2_with fail
  refine (heldScopeS_any o5_0 c5_0 Rl.length (1) _ (by omega) (by omega) (by omega) T011b.out.in).mono ?_
  rintro e w12a ⟨rfl, hw12a⟩
  have hb12a : Below w11b.heap.size w11b w12a := by rw [hw12a]; exact Below.refl _ _
  clear hw12a
  have hB12a := hB11b.trans (hb12a.mono hB11b.size)
  have S012a := hid (S011b.out.later hb12a)
  have S112a := hid (S111b.out.later hb12a)
  have T012a := hid (T011b.out.later hb12a)
  have T112a := hid (T111b.out.later hb12a)
  have N512a := hid (Nat.le_trans N511b.out hb12a.size)
  clear S011b S111b T011b T111b N511b
  clear hb12a
  have hm0 : decide (1 + 3 * (Rl.length : Int) < 0) = false := by simp; omega
  go_wp2_with fail
  refine (heldIntS_any o5_1 c5_1 Rw.length (1 + 3 * (Rl.length : Int)) _ (by omega) (by omega) (by omega) T112a.out.in).mono ?_
  rintro e w12b ⟨rfl, hw12b⟩
  have hb12b : Below w12a.heap.size w12a w12b := by rw [hw12b]; exact Below.refl _ _
  clear hw12b
  have hB12b := hB12a.trans (hb12b.mono hB12a.size)
  have S012b := hid (S012a.out.later hb12b)
  have S112b := hid (S112a.out.later hb12b)
  have T012b := hid (T012a.out.later hb12b)
  have T112b := hid (T112a.out.later hb12b)
  have N512b := hid (Nat.le_trans N512a.out hb12b.size)
  clear S012a S112a T012a T112a N512a
  clear hb12b
  have hm1 : decide (1 + 3 * (Rl.length : Int) + (Rw.length : Int) < 0) = false := by simp; omega
  go_wp2_with fail
  refine (toScopeS_any ao cap ts _ k1 (hz.later hB12b)).mono ?_
  rintro e w13 ⟨rfl, hF13, hb13⟩
  generalize hgg : (some ⟨w12b.heap.size, 0, none⟩ : Option Addr) = ad13 at hF13 ⊢
  obtain ⟨g13, hgg13⟩ : ∃ g, ad13 = some ⟨g, 0, none⟩ := ⟨_, hgg.symm⟩
  clear hgg
  subst hgg13
  have hB13 := hB12b.trans (hb13.mono hB12b.size)
  have S013 := hid (S012b.out.later hb13)
  have S113 := hid (S112b.out.later hb13)
  have T013 := hid (T012b.out.later hb13)
  have T113 := hid (T112b.out.later hb13)
  have N513 := hid (Nat.le_trans N512b.out hb13.size)
  clear S012b S112b T012b T112b N512b
  have Z13 := show Hid (kS.In w13.heap.size w13 (some ⟨g13, 0, none⟩) ts) from hF13.in
  clear hb13 hF13
  go_wp2_with fail
  refine (implExpire_any (some ⟨g13, 0, none⟩) ts.length ts iv w13 k1 Z13.out).mono ?_
  rintro e w14 ⟨⟨o14_0, c14_0, o14_1, c14_1, rfl, hF14_0, hF14_1⟩, hb14⟩
  rw [HR.out] at hF14_0 hF14_1 ⊢
  dsimp only at hF14_0 hF14_1 ⊢
  have hB14 := hB13.trans (hb14.mono hB13.size)
  have S014 := hid (S013.out.later hb14)
  have S114 := hid (S113.out.later hb14)
  have T014 := hid (T013.out.later hb14)
  have T114 := hid (T113.out.later hb14)
  have N514 := hid (Nat.le_trans N513.out hb14.size)
  clear S013 S113 T013 T113 N513
  have U014 := hid (hF14_0)
  have U114 := hid (hF14_1)
  clear Z13 hb14 hF14_0 hF14_1
  go_wp2_with fail
  refine (eqScopeS_same o14_0 o3_0 c14_0 c3_0 Rl _ hq.1 U014.out.in S014.out.in).mono ?_
  rintro e w15a ⟨rfl, hb15a⟩
  have hB15a := hB14.trans (hb15a.mono hB14.size)
  have S015a := hid (S014.out.later hb15a)
  have S115a := hid (S114.out.later hb15a)
  have T015a := hid (T014.out.later hb15a)
  have T115a := hid (T114.out.later hb15a)
  have N515a := hid (Nat.le_trans N514.out hb15a.size)
  have U015a := hid (U014.out.later hb15a)
  have U115a := hid (U114.out.later hb15a)
  clear S014 S114 T014 T114 N514 U014 U114
  clear hb15a
  go_wp2_with fail
  refine (eqIntS_same o14_1 o3_1 c14_1 c3_1 Rw _ hq.2 U115a.out.in S115a.out.in).mono ?_
  rintro e w15b ⟨rfl, hb15b⟩
  have hB15b := hB15a.trans (hb15b.mono hB15a.size)
  have S015b := hid (S015a.out.later hb15b)
  have S115b := hid (S115a.out.later hb15b)
  have T015b := hid (T015a.out.later hb15b)
  have T115b := hid (T115a.out.later hb15b)
  have N515b := hid (Nat.le_trans N515a.out hb15b.size)
  have U015b := hid (U015a.out.later hb15b)
  have U115b := hid (U115a.out.later hb15b)
  clear S015a S115a T015a T115a N515a U015a U115a
  clear hb15b
  clear S015b S115b U015b U115b
  go_wp2_with fail
  refine (heldScopeS_any o5_0 c5_0 Rl.length (1) _ (by omega) (by omega) (by omega) T015b.out.in).mono ?_
  rintro e w16a ⟨rfl, hw16a⟩
  have hb16a : Below w15b.heap.size w15b w16a := by rw [hw16a]; exact Below.refl _ _
  clear hw16a
  have hB16a := hB15b.trans (hb16a.mono hB15b.size)
  have T016a := hid (T015b.out.later hb16a)
  have T116a := hid (T115b.out.later hb16a)
  have N516a := hid (Nat.le_trans N515b.out hb16a.size)
  clear T015b T115b N515b
  clear hb16a
  go_wp2_with fail
  refine (heldIntS_any o5_1 c5_1 Rw.length (1 + 3 * (Rl.length : Int)) _ (by omega) (by omega) (by omega) T116a.out.in).mono ?_
  rintro e w16b ⟨rfl, hw16b⟩
  have hb16b : Below w16a.heap.size w16a w16b := by rw [hw16b]; exact Below.refl _ _
  clear hw16b
  have hB16b := hB16a.trans (hb16b.mono hB16a.size)
  have T016b := hid (T016a.out.later hb16b)
  have T116b := hid (T116a.out.later hb16b)
  have N516b := hid (Nat.le_trans N516a.out hb16b.size)
  clear T016a T116a N516a
  clear hb16b
  go_wp2
  go_ret
  exact ⟨rfl, hB16b⟩
end Go.Proofs.Ytcdkdigafcfgmaa
