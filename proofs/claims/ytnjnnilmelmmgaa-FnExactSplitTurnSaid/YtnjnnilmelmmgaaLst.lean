
/- The walk of the law of SplitTurn: it returns true. No conditions but those written. -/
import Derived.Test.YtnjnnilmelmmgaaUa
namespace Go.Proofs.Ytnjnnilmelmmgaa
open Go.RowKit

set_option maxRecDepth 100000 in
set_option maxHeartbeats 16000000 in
theorem lawSplit_any (ao : Option Addr) (cap : Nat) (ts : List Int) (iv jv : Int) (w : World) (hl : ts.length ≤ 9223372036854775807) (hz : kI.In w.heap.size w ao ts) :
    Calls Try.prog 7 #[.slice ao ts.length cap, .int .i64 iv, .int .i64 jv] w fun e w' => e = .returned (.bool true) ∧ Below w.heap.size w w' := by
  by_cases hbig : 1048576 < ts.length
  · have h1 : decide ((1048576 : Int) < (ts.length : Int)) = true := by simp; omega
    clear hbig
    go_enter Try.func7, Try.ntmps7
    go_wp2
    go_ret
    exact ⟨rfl, Below.refl _ _⟩
  have h1 : decide ((1048576 : Int) < (ts.length : Int)) = false := by simp; omega
  have k1 : ts.length ≤ 1048576 := by omega
  clear hbig
  have hq := spR_tot ts iv jv
  generalize hR : spR ts iv jv = R at hq
  have HR := hid hR
  clear hR
  obtain ⟨r0, r1, r2⟩ := R
  dsimp only at hq
  obtain ⟨hq1, hq2⟩ := hq
  have hne1 : (r1 != r1) = false := by simp
  have hne2 : (r2 != r2) = false := by simp
  go_enter Try.func7, Try.ntmps7
  go_wp2_with fail
  refine (toIntS_any ao cap ts _ k1 hz).mono ?_
  rintro e w1 ⟨rfl, hF1, hB1⟩
  generalize hgg : (some ⟨w.heap.size, 0, none⟩ : Option Addr) = a1 at hF1 ⊢
  clear hgg
  have I1 := hid hF1.in
  clear hF1
  go_wp2_with fail
  refine (specSplit_any a1 ts.length ts iv jv w1 k1 I1.out).mono ?_
  rw [HR.out]
  rintro e w2 ⟨⟨o2, c2, g2, rfl, hF2⟩, hb2⟩
  dsimp only at hF2 ⊢
  have hB2 := hB1.trans (hb2.mono hB1.size)
  have F2 := hid hF2
  have hz2 : w.heap.size ≤ w2.heap.size := hB2.size
  clear hb2 hB1 hF2 I1
  go_wp2_with fail
  refine (toIntS_any ao cap ts _ k1 (hz.later hB2)).mono ?_
  rintro e w3 ⟨rfl, hF3, hb3⟩
  generalize hgg : (some ⟨w2.heap.size, 0, none⟩ : Option Addr) = a3 at hF3 ⊢
  clear hgg
  have hB3 := hB2.trans (hb3.mono hB2.size)
  have hz3 : w2.heap.size ≤ w3.heap.size := hb3.size
  have F3 := hid (F2.out.later hb3)
  have X3 := hid hF3
  clear hb3 hB2 F2 hF3
  go_wp2_with fail
  refine (implSplit_any a3 ts.length ts iv jv w3 k1 X3.out.in).mono ?_
  rw [HR.out]
  rintro e w4 ⟨⟨o4, c4, g4, rfl, hF4⟩, hb4⟩
  dsimp only at hF4 ⊢
  have hB4 := hB3.trans (hb4.mono hB3.size)
  have hz4 : w3.heap.size ≤ w4.heap.size := hb4.size
  have X4 := hid (X3.out.later hb4)
  have F4 := hid (F3.out.later hb4)
  have G4 := hid hF4
  clear hb4 X3 hB3 F3 hF4
  go_wp2_with fail
  refine (eqIntSS_same o4 o2 c4 c2 g4 g2 r0 _ (by omega) (by omega) G4.out.in F4.out.in).mono ?_
  rintro e w5 ⟨rfl, hb5⟩
  have hB5 := hB4.trans (hb5.mono hB4.size)
  have hz5 : w4.heap.size ≤ w5.heap.size := hb5.size
  have X5 := hid (X4.out.later hb5)
  have F5 := hid (F4.out.later hb5)
  have G5 := hid (G4.out.later hb5)
  clear hb5 X4 F4 G4 hB4
  go_wp2_with fail
  refine (toIntS_any ao cap ts _ k1 (hz.later hB5)).mono ?_
  rintro e w6 ⟨rfl, hF6, hb6⟩
  generalize hgg : (some ⟨w5.heap.size, 0, none⟩ : Option Addr) = a6 at hF6 ⊢
  clear hgg
  have hB6 := hB5.trans (hb6.mono hB5.size)
  have hz6 : w5.heap.size ≤ w6.heap.size := hb6.size
  have X6 := hid (X5.out.later hb6)
  have F6 := hid (F5.out.later hb6)
  have G6 := hid (G5.out.later hb6)
  have I6 := hid hF6.in
  clear hb6 X5 F5 G5 hB5 hF6
  go_wp2_with fail
  refine (eqIntS_same a3 a6 ts.length ts.length ts _ k1 X6.out.in I6.out).mono ?_
  rintro e w7 ⟨rfl, hb7⟩
  have hB7 := hB6.trans (hb7.mono hB6.size)
  have hz7 : w6.heap.size ≤ w7.heap.size := hb7.size
  have X7 := hid (X6.out.later hb7)
  have F7 := hid (F6.out.later hb7)
  have G7 := hid (G6.out.later hb7)
  clear hb7 X6 F6 G6 hB6 I6
  go_wp2_with fail
  refine (markIntS_any w2.heap.size w3.heap.size a3 ts.length ts 1 w7 (by omega) (by omega) (by omega) X7.out).mono ?_
  rintro e w8 ⟨rfl, _, hO8⟩
  have hb8 : Between w2.heap.size w3.heap.size w7 w8 := X7.out.between hO8
  have hB8 := hB7.trans ((hb8.below (by omega)).mono (by omega))
  have hz8 : w7.heap.size ≤ w8.heap.size := hb8.size
  have F8 := hid (F7.out.between' hb8 (by omega))
  have G8 := hid (G7.out.between' hb8 (by omega))
  clear hb8 X7 F7 G7 hB7 hO8
  have hk0 : decide ((1 : Int) + (ts.length : Int) < 0) = false := by simp; omega
  go_wp2_with fail
  refine (eqIntSS_same o4 o2 c4 c2 g4 g2 r0 _ (by omega) (by omega) G8.out.in F8.out.in).mono ?_
  rintro e w9 ⟨rfl, hb9⟩
  have hB9 := hB8.trans (hb9.mono hB8.size)
  have hz9 : w8.heap.size ≤ w9.heap.size := hb9.size
  have F9 := hid (F8.out.later hb9)
  have G9 := hid (G8.out.later hb9)
  clear hb9 F8 G8 hB8
  go_wp2_with fail
  refine (markIntSS_any w3.heap.size w4.heap.size o4 c4 g4 r0 1 w9 (by omega) (by omega) (by omega) (by omega) G9.out).mono ?_
  rintro e w10 ⟨rfl, hG10, hb10⟩
  have hB10 := hB9.trans ((hb10.below (by omega)).mono (by omega))
  have hz10 : w9.heap.size ≤ w10.heap.size := hb10.size
  have F10 := hid (F9.out.between' hb10 (by omega))
  have G10 := hid hG10
  clear hb10 F9 G9 hB9 hG10
  have hmq : (1 + (tot r0 : Int) != 1 + (tot r0 : Int)) = false := by simp
  have hm0 : decide (1 + (tot r0 : Int) < 0) = false := by simp; omega
  have HIN := hid G10.out.in
  go_wp2_with fail
  refine (heldIntSS_any o4 c4 g4 r0 1 w10 (by omega) (by omega) (by omega) (by omega) HIN.out).mono ?_
  rintro e w11 ⟨rfl, hw11⟩
  rw [hw11]; clear hw11 w11 HIN
  go_wp2_with fail
  refine (toIntS_any ao cap ts _ k1 (hz.later hB10)).mono ?_
  rintro e w11 ⟨rfl, hF11, hb11⟩
  generalize hgg : (some ⟨w10.heap.size, 0, none⟩ : Option Addr) = a11 at hF11 ⊢
  clear hgg
  have hB11 := hB10.trans (hb11.mono hB10.size)
  have F11 := hid (F10.out.later hb11)
  have G11 := hid (G10.out.later hb11)
  have I11 := hid hF11.in
  clear hb11 hB10 F10 G10 hF11
  go_wp2_with fail
  refine (implSplit_any a11 ts.length ts iv jv w11 k1 I11.out).mono ?_
  rw [HR.out]
  rintro e w12 ⟨⟨o12, c12, g12, rfl, hF12⟩, hb12⟩
  dsimp only at hF12 ⊢
  have hB12 := hB11.trans (hb12.mono hB11.size)
  have F12 := hid (F11.out.later hb12)
  have G12 := hid (G11.out.later hb12)
  have H12 := hid hF12
  clear hb12 hB11 F11 G11 hF12 I11
  go_wp2_with fail
  refine (eqIntSS_same o12 o2 c12 c2 g12 g2 r0 _ (by omega) (by omega) H12.out.in F12.out.in).mono ?_
  rintro e w13 ⟨rfl, hb13⟩
  have hB13 := hB12.trans (hb13.mono hB12.size)
  have G13 := hid (G12.out.later hb13)
  clear hb13 F12 G12 H12 hB12
  have HIN := hid G13.out.in
  go_wp2_with fail
  refine (heldIntSS_any o4 c4 g4 r0 1 w13 (by omega) (by omega) (by omega) (by omega) HIN.out).mono ?_
  rintro e w14 ⟨rfl, hw14⟩
  rw [hw14]; clear hw14 w14 HIN
  go_wp2
  go_ret
  exact ⟨rfl, hB13⟩
end Go.Proofs.Ytnjnnilmelmmgaa
