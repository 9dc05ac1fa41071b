
/- The walk of the law of ApplyStage: it returns true. No conditions but those written. -/
import Derived.Test.YtnjnnilmelmmgaaSm
namespace Go.Proofs.Ytnjnnilmelmmgaa
open Go.RowKit

set_option maxRecDepth 100000 in
set_option maxHeartbeats 16000000 in
theorem lawApp_any (k a b v : Int) (w : World) :
    Calls Try.prog 4 #[.agg #[.int .i64 k, .int .i64 a, .int .i64 b], .int .i64 v] w fun e w' => e = .returned (.bool true) ∧ Below w.heap.size w w' := by
  have hq := appR_len k a b v
  generalize hR : appR k a b v = R at hq
  have HR := hid hR
  clear hR
  obtain ⟨r0, r1, r2⟩ := R
  dsimp only at hq
  have hne1 : (r1 != r1) = false := by simp
  have hne2 : (r2 != r2) = false := by simp
  go_enter Try.func4, Try.ntmps4
  go_wp2_with fail
  refine (toStage_any k a b _).mono ?_
  rintro e w1 ⟨rfl, hb1⟩
  have hB1 := (below1 w (.cells #[.int .i64 k, .int .i64 a, .int .i64 b] 23)).trans (hb1.mono (by simp))
  have X1 := hid ((Bx.new (w := w) (p := w.heap.size) [.int .i64 k, .int .i64 a, .int .i64 b] 23 rfl).later hb1)
  clear hb1
  go_wp2_with fail
  refine (specApp_any k a b v _).mono ?_
  rw [HR.out]
  rintro e w2 ⟨⟨o2, c2, rfl, _, hF2⟩, hb2⟩
  dsimp only at hF2 ⊢
  have hB2 := hB1.trans (hb2.mono hB1.size)
  have X2 := hid (X1.out.later hb2)
  have F2 := hid hF2
  clear hb2 X1 hB1 hF2
  have s0 := X2.out.c 0 rfl
  have s1 := X2.out.c 1 rfl
  have s2 := X2.out.c 2 rfl
  go_wp2_with fail
  clear s0 s1 s2
  refine (toStage_any k a b _).mono ?_
  rintro e w3 ⟨rfl, hb3⟩
  have hB3 := hB2.trans (hb3.mono hB2.size)
  have hz3 : w2.heap.size ≤ w3.heap.size := hb3.size
  have X3 := hid (X2.out.later hb3)
  have F3 := hid (F2.out.later hb3)
  clear hb3 X2 hB2 F2
  go_wp2_with fail
  refine (implApp_any k a b v _).mono ?_
  rw [HR.out]
  rintro e w4 ⟨⟨o4, c4, rfl, _, hF4⟩, hb4⟩
  dsimp only at hF4 ⊢
  have hB4 := hB3.trans (hb4.mono hB3.size)
  have X4 := hid (X3.out.later hb4)
  have F4 := hid (F3.out.later hb4)
  have G4 := hid hF4
  have hz4 : w3.heap.size ≤ w4.heap.size := hb4.size
  have hx3 := X3.out.size
  clear hb4 X3 hB3 F3 hF4
  go_wp2_with fail
  refine (eqIntS_same o4 o2 c4 c2 r0 _ (by omega) G4.out.in F4.out.in).mono ?_
  rintro e w5 ⟨rfl, hb5⟩
  have hB5 := hB4.trans (hb5.mono hB4.size)
  have hz5 : w4.heap.size ≤ w5.heap.size := hb5.size
  have X5 := hid (X4.out.later hb5)
  have F5 := hid (F4.out.later hb5)
  have G5 := hid (G4.out.later hb5)
  clear hb5 X4 F4 G4 hB4
  go_wp2_with fail
  refine (markIntS_any w3.heap.size w4.heap.size o4 c4 r0 1 w5 (by omega) (by omega) (by omega) G5.out).mono ?_
  rintro e w6 ⟨rfl, hG6, hO6⟩
  have hb6 : Between w3.heap.size w4.heap.size w5 w6 := G5.out.between hO6
  have hB6 := hB5.trans ((hb6.below (by omega)).mono (by omega))
  have hz6 : w5.heap.size ≤ w6.heap.size := hb6.size
  have X6 := hid (X5.out.between hb6 (.inl hx3))
  have F6 := hid (F5.out.between' hb6 (by omega))
  have G6 := hid hG6
  clear hb6 X5 F5 G5 hB5 hG6 hO6
  have hmq : (1 + (r0.length : Int) != 1 + (r0.length : Int)) = false := by simp
  go_wp2_with fail
  refine (heldIntS_any o4 c4 r0.length 1 w6 (by omega) (by omega) (by omega) G6.out.in).mono ?_
  rintro e w7 ⟨rfl, hw7⟩
  rw [hw7]; clear hw7 w7
  have s0 := X6.out.c 0 rfl
  have s1 := X6.out.c 1 rfl
  have s2 := X6.out.c 2 rfl
  go_wp2_with fail
  clear s0 s1 s2
  refine (toStage_any k a b _).mono ?_
  rintro e w7 ⟨rfl, hb7⟩
  have hB7 := hB6.trans (hb7.mono hB6.size)
  have F7 := hid (F6.out.later hb7)
  have G7 := hid (G6.out.later hb7)
  clear hb7 X6 hB6 F6 G6
  go_wp2_with fail
  refine (implApp_any k a b v _).mono ?_
  rw [HR.out]
  rintro e w8 ⟨⟨o8, c8, rfl, _, hF8⟩, hb8⟩
  dsimp only at hF8 ⊢
  have hB8 := hB7.trans (hb8.mono hB7.size)
  have F8 := hid (F7.out.later hb8)
  have G8 := hid (G7.out.later hb8)
  have H8 := hid hF8
  clear hb8 hB7 F7 G7 hF8
  go_wp2_with fail
  refine (eqIntS_same o8 o2 c8 c2 r0 _ (by omega) H8.out.in F8.out.in).mono ?_
  rintro e w9 ⟨rfl, hb9⟩
  have hB9 := hB8.trans (hb9.mono hB8.size)
  have G9 := hid (G8.out.later hb9)
  clear hb9 F8 G8 H8 hB8
  go_wp2_with fail
  refine (heldIntS_any o4 c4 r0.length 1 w9 (by omega) (by omega) (by omega) G9.out.in).mono ?_
  rintro e w10 ⟨rfl, hw10⟩
  rw [hw10]; clear hw10 w10
  go_wp2
  go_ret
  exact ⟨rfl, hB9⟩
end Go.Proofs.Ytnjnnilmelmmgaa
