
/- A drawn waiter. No conditions but those written. -/
import Derived.Test.YtdfmmidokfcjfaaXr
import Derived.Deep.Cut
namespace Go.Proofs.Ytdfmmidokfcjfaa
open Go.RowKit

set_option maxRecDepth 10000 in
set_option maxHeartbeats 16000000 in
theorem waiter_any (p : Nat) (co : Option Addr) (cap : Nat) (bs : List Int) (k : Nat) (sd : Int) (w : World) (hl : bs.length ≤ 9223372036854775807) (ha : k ≤ 1000000000) (hC : Cur w p co cap bs k sd) :
    Calls Try.prog 9 #[.pointer (some ⟨p, 0, none⟩)] w fun e w' => (∃ t1 t2 : Int, e = .returned (.agg #[.int .i64 t1, .int .i64 t2, .int .i64 0])) ∧ DrawnG w p co cap bs k 20 w' := by
  have hp := hC.1
  have C0 := hid hC
  have hR0 := Grew.refl p w
  clear hC
  obtain ⟨w1, hV⟩ : ∃ V, V = w.alloc (.cells #[.int .i64 0, .int .i64 0, .int .i64 0] 28) := ⟨_, rfl⟩
  have C1 := hid (C0.out.later (below1 w (.cells #[.int .i64 0, .int .i64 0, .int .i64 0] 28)))
  rw [← hV] at C1
  have hR1 : Grew p w w1 := by rw [hV]; exact hR0.trans (Grew.alloc p _ _)
  have hz1 : w.heap.size ≤ w1.heap.size := by rw [hV]; simp
  have H1 := hid hV
  clear hV C0
  have XR1 : Hid (Bx w1 w.heap.size [.int .i64 0, .int .i64 0, .int .i64 0]) := by rw [H1.out]; exact Bx.new [.int .i64 0, .int .i64 0, .int .i64 0] _ rfl
  have hy1 : w.heap.size < w1.heap.size := XR1.out.size
  go_enter Try.func9, Try.ntmps9
  have r0 := XR1.out.c 0 rfl
  have rf0 := XR1.out.f 0 rfl
  have r1 := XR1.out.c 1 rfl
  have rf1 := XR1.out.f 1 rfl
  have r2 := XR1.out.c 2 rfl
  have rf2 := XR1.out.f 2 rfl
  have rz := XR1.out.size
  go_wp2_with fail
  clear r0 rf0 r1 rf1 r2 rf2 rz
  rw [← H1.out]
  clear H1
  refine (pick_any 6 p co cap bs k sd w1 hl (by omega) C1.out).mono ?_
  rintro e w2 ⟨⟨t1, rfl, h0t1, h1t1⟩, hD⟩
  obtain ⟨k2, sd2, hk2, hC2, hg2, hsz2⟩ := hD.grew
  have XR2 := hid (XR1.out.grew hg2 (by omega))
  have C2 := hid hC2
  have hR2 : Grew p w w2 := hR1.trans hg2
  have hz2 : w1.heap.size ≤ w2.heap.size := hg2.size
  clear XR1 C1 hD hg2 hC2 hsz2
  have r0 := XR2.out.c 0 rfl
  have rf0 := XR2.out.f 0 rfl
  have r1 := XR2.out.c 1 rfl
  have rf1 := XR2.out.f 1 rfl
  have r2 := XR2.out.c 2 rfl
  have rf2 := XR2.out.f 2 rfl
  have rz := XR2.out.size
  go_wp2_with fail
  clear r0 rf0 r1 rf1 r2 rf2 rz
  refine (pick_any 4 p co cap bs k2 sd2 w2 hl (by omega) C2.out).mono ?_
  rintro e w3 ⟨⟨t2, rfl, h0t2, h1t2⟩, hD⟩
  obtain ⟨k3, sd3, hk3, hC3, hg3, hsz3⟩ := hD.grew
  have XR3 := hid (XR2.out.grew hg3 (by omega))
  have C3 := hid hC3
  have hR3 : Grew p w w3 := hR2.trans hg3
  have hz3 : w2.heap.size ≤ w3.heap.size := hg3.size
  clear XR2 C2 hD hg3 hC3 hsz3
  clear h0t1 h1t1 h0t2 h1t2
  have r0 := XR3.out.c 0 rfl
  have rf0 := XR3.out.f 0 rfl
  have r1 := XR3.out.c 1 rfl
  have rf1 := XR3.out.f 1 rfl
  have r2 := XR3.out.c 2 rfl
  have rf2 := XR3.out.f 2 rfl
  have rz := XR3.out.size
  obtain ⟨w4, hV⟩ : ∃ V, V = w3.alloc (.cells #[.int .i64 t1, .int .i64 t2, .int .i64 0] 28) := ⟨_, rfl⟩
  have XR4 := hid (XR3.out.alloc (.cells #[.int .i64 t1, .int .i64 t2, .int .i64 0] 28))
  rw [← hV] at XR4
  have C4 := hid (C3.out.later (below1 w3 (.cells #[.int .i64 t1, .int .i64 t2, .int .i64 0] 28)))
  rw [← hV] at C4
  have hR4 : Grew p w w4 := by rw [hV]; exact hR3.trans (Grew.alloc p _ _)
  have hz4 : w3.heap.size ≤ w4.heap.size := by rw [hV]; simp
  have H4 := hid hV
  clear hV XR3 C3
  have XA4 : Hid (Bx w4 w3.heap.size [.int .i64 t1, .int .i64 t2, .int .i64 0]) := by rw [H4.out]; exact Bx.new [.int .i64 t1, .int .i64 t2, .int .i64 0] _ rfl
  have hy4 : w3.heap.size < w4.heap.size := XA4.out.size
  go_wp2_with fail
  clear r0 rf0 r1 rf1 r2 rf2 rz
  rw [← H4.out]
  clear H4
  refine (pick_any 30 p co cap bs k3 sd3 w4 hl (by omega) C4.out).mono ?_
  rintro e w5 ⟨⟨y, rfl, h0y, h1y⟩, hD⟩
  obtain ⟨k5, sd5, hk5, hC5, hg5, hsz5⟩ := hD.grew
  have XR5 := hid (XR4.out.grew hg5 (by omega))
  have XA5 := hid (XA4.out.grew hg5 (by omega))
  have C5 := hid hC5
  have hR5 : Grew p w w5 := hR4.trans hg5
  have hz5 : w4.heap.size ≤ w5.heap.size := hg5.size
  clear XR4 XA4 C4 hD hg5 hC5 hsz5
  have hy3 : y = 0 ∨ y = 1 ∨ (y ≠ 0 ∧ y ≠ 1) := by omega
  clear h0y h1y
  rcases hy3 with rfl | rfl | ⟨y0, y1⟩
  · have r0 := XR5.out.c 0 rfl
    have rf0 := XR5.out.f 0 rfl
    have r1 := XR5.out.c 1 rfl
    have rf1 := XR5.out.f 1 rfl
    have r2 := XR5.out.c 2 rfl
    have rf2 := XR5.out.f 2 rfl
    have rz := XR5.out.size
    have a0 := XA5.out.c 0 rfl
    have af0 := XA5.out.f 0 rfl
    have a1 := XA5.out.c 1 rfl
    have af1 := XA5.out.f 1 rfl
    have a2 := XA5.out.c 2 rfl
    have af2 := XA5.out.f 2 rfl
    have az := XA5.out.size
    obtain ⟨w6, hV⟩ : ∃ V, V = w5.alloc (.cells #[.int .i64 (-1), .int .i64 29, .int .i64 30] 3) := ⟨_, rfl⟩
    have XR6 := hid (XR5.out.alloc (.cells #[.int .i64 (-1), .int .i64 29, .int .i64 30] 3))
    rw [← hV] at XR6
    have XA6 := hid (XA5.out.alloc (.cells #[.int .i64 (-1), .int .i64 29, .int .i64 30] 3))
    rw [← hV] at XA6
    have C6 := hid (C5.out.later (below1 w5 (.cells #[.int .i64 (-1), .int .i64 29, .int .i64 30] 3)))
    rw [← hV] at C6
    have hR6 : Grew p w w6 := by rw [hV]; exact hR5.trans (Grew.alloc p _ _)
    have hz6 : w5.heap.size ≤ w6.heap.size := by rw [hV]; simp
    have H6 := hid hV
    clear hV XR5 XA5 C5
    have XU6 : Hid (Bx w6 w5.heap.size [.int .i64 (-1), .int .i64 29, .int .i64 30]) := by rw [H6.out]; exact Bx.new [.int .i64 (-1), .int .i64 29, .int .i64 30] _ rfl
    have hy6 : w5.heap.size < w6.heap.size := XU6.out.size
    go_wp2_with fail
    clear r0 rf0 r1 rf1 r2 rf2 rz a0 af0 a1 af1 a2 af2 az
    rw [← H6.out]
    clear H6
    refine (among_in [-1, 29, 30] w5.heap.size p co cap bs k5 sd5 w6 hl (by omega) C6.out (by simp) (by simp) XU6.out (by omega)).mono ?_
    rintro e w7 ⟨⟨z, _, rfl⟩, hD⟩
    obtain ⟨k7, sd7, hk7, hC7, hg7, hsz7⟩ := hD.grew
    have XR7 := hid (XR6.out.grew hg7 (by omega))
    have XA7 := hid (XA6.out.grew hg7 (by omega))
    have XU7 := hid (XU6.out.grew hg7 (by omega))
    have C7 := hid hC7
    have hR7 : Grew p w w7 := hR6.trans hg7
    have hz7 : w6.heap.size ≤ w7.heap.size := hg7.size
    clear XR6 XA6 XU6 C6 hD hg7 hC7 hsz7
    have r0 := XR7.out.c 0 rfl
    have rf0 := XR7.out.f 0 rfl
    have r1 := XR7.out.c 1 rfl
    have rf1 := XR7.out.f 1 rfl
    have r2 := XR7.out.c 2 rfl
    have rf2 := XR7.out.f 2 rfl
    have rz := XR7.out.size
    have a0 := XA7.out.c 0 rfl
    have af0 := XA7.out.f 0 rfl
    have a1 := XA7.out.c 1 rfl
    have af1 := XA7.out.f 1 rfl
    have a2 := XA7.out.c 2 rfl
    have af2 := XA7.out.f 2 rfl
    have az := XA7.out.size
    have u0 := XU7.out.c 0 rfl
    have uf0 := XU7.out.f 0 rfl
    have u1 := XU7.out.c 1 rfl
    have uf1 := XU7.out.f 1 rfl
    have u2 := XU7.out.c 2 rfl
    have uf2 := XU7.out.f 2 rfl
    have uz := XU7.out.size
    obtain ⟨w8, hV⟩ : ∃ V, V = (w7.setCell ⟨w3.heap.size, 0, none⟩ (.int .i64 z)) := ⟨_, rfl⟩
    have XR8 := hid ((XR7.out.other (a := ⟨w3.heap.size, 0, none⟩) (by dsimp only; omega) (.int .i64 z)))
    rw [← hV] at XR8
    have XA8 := hid ((XA7.out.set 0 (.int .i64 z)))
    rw [← hV] at XA8
    have XU8 := hid ((XU7.out.other (a := ⟨w3.heap.size, 0, none⟩) (by dsimp only; omega) (.int .i64 z)))
    rw [← hV] at XU8
    have C8 := hid ((C7.out.other (a := ⟨w3.heap.size, 0, none⟩) (by dsimp only; omega) (.int .i64 z)))
    rw [← hV] at C8
    have hR8 : Grew p w w8 := by rw [hV]; exact (hR7.set (a := ⟨w3.heap.size, 0, none⟩) (by dsimp only; omega) (.int .i64 z))
    have hz8 : w7.heap.size ≤ w8.heap.size := by rw [hV]; simp
    have H8 := hid hV
    clear hV XR7 XA7 XU7 C7
    go_upto_region 7 with fail
    clear r0 rf0 r1 rf1 r2 rf2 rz a0 af0 a1 af1 a2 af2 az u0 uf0 u1 uf1 u2 uf2 uz
    rw [← H8.out]
    clear H8
    have r0 := XR8.out.c 0 rfl
    have rf0 := XR8.out.f 0 rfl
    have r1 := XR8.out.c 1 rfl
    have rf1 := XR8.out.f 1 rfl
    have r2 := XR8.out.c 2 rfl
    have rf2 := XR8.out.f 2 rfl
    have rz := XR8.out.size
    have a0 := XA8.out.c 0 rfl
    have af0 := XA8.out.f 0 rfl
    have a1 := XA8.out.c 1 rfl
    have af1 := XA8.out.f 1 rfl
    have a2 := XA8.out.c 2 rfl
    have af2 := XA8.out.f 2 rfl
    have az := XA8.out.size
    have u0 := XU8.out.c 0 rfl
    have uf0 := XU8.out.f 0 rfl
    have u1 := XU8.out.c 1 rfl
    have uf1 := XU8.out.f 1 rfl
    have u2 := XU8.out.c 2 rfl
    have uf2 := XU8.out.f 2 rfl
    have uz := XU8.out.size
    obtain ⟨w9, hV⟩ : ∃ V, V = (((w8.setCell ⟨w.heap.size, 0, none⟩ (.int .i64 z)).setCell ⟨w.heap.size, 1, none⟩ (.int .i64 t2)).setCell ⟨w.heap.size, 2, none⟩ (.int .i64 0)) := ⟨_, rfl⟩
    have XR9 := hid ((((XR8.out.set 0 (.int .i64 z)).set 1 (.int .i64 t2)).set 2 (.int .i64 0)))
    rw [← hV] at XR9
    have XA9 := hid ((((XA8.out.other (a := ⟨w.heap.size, 0, none⟩) (by dsimp only; omega) (.int .i64 z)).other (a := ⟨w.heap.size, 1, none⟩) (by dsimp only; omega) (.int .i64 t2)).other (a := ⟨w.heap.size, 2, none⟩) (by dsimp only; omega) (.int .i64 0)))
    rw [← hV] at XA9
    have XU9 := hid ((((XU8.out.other (a := ⟨w.heap.size, 0, none⟩) (by dsimp only; omega) (.int .i64 z)).other (a := ⟨w.heap.size, 1, none⟩) (by dsimp only; omega) (.int .i64 t2)).other (a := ⟨w.heap.size, 2, none⟩) (by dsimp only; omega) (.int .i64 0)))
    rw [← hV] at XU9
    have C9 := hid ((((C8.out.other (a := ⟨w.heap.size, 0, none⟩) (by dsimp only; omega) (.int .i64 z)).other (a := ⟨w.heap.size, 1, none⟩) (by dsimp only; omega) (.int .i64 t2)).other (a := ⟨w.heap.size, 2, none⟩) (by dsimp only; omega) (.int .i64 0)))
    rw [← hV] at C9
    have hR9 : Grew p w w9 := by rw [hV]; exact (((hR8.set (a := ⟨w.heap.size, 0, none⟩) (by dsimp only; omega) (.int .i64 z)).set (a := ⟨w.heap.size, 1, none⟩) (by dsimp only; omega) (.int .i64 t2)).set (a := ⟨w.heap.size, 2, none⟩) (by dsimp only; omega) (.int .i64 0))
    have hz9 : w8.heap.size ≤ w9.heap.size := by rw [hV]; simp
    have H9 := hid hV
    clear hV XR8 XA8 XU8 C8
    go_wp2
    clear r0 rf0 r1 rf1 r2 rf2 rz a0 af0 a1 af1 a2 af2 az u0 uf0 u1 uf1 u2 uf2 uz
    rw [← H9.out]
    clear H9
    have r0 := XR9.out.c 0 rfl
    have rf0 := XR9.out.f 0 rfl
    have r1 := XR9.out.c 1 rfl
    have rf1 := XR9.out.f 1 rfl
    have r2 := XR9.out.c 2 rfl
    have rf2 := XR9.out.f 2 rfl
    have rz := XR9.out.size
    have a0 := XA9.out.c 0 rfl
    have af0 := XA9.out.f 0 rfl
    have a1 := XA9.out.c 1 rfl
    have af1 := XA9.out.f 1 rfl
    have a2 := XA9.out.c 2 rfl
    have af2 := XA9.out.f 2 rfl
    have az := XA9.out.size
    have u0 := XU9.out.c 0 rfl
    have uf0 := XU9.out.f 0 rfl
    have u1 := XU9.out.c 1 rfl
    have uf1 := XU9.out.f 1 rfl
    have u2 := XU9.out.c 2 rfl
    have uf2 := XU9.out.f 2 rfl
    have uz := XU9.out.size
    refine bodyPost_ret (v := .agg #[.int .i64 z, .int .i64 t2, .int .i64 0]) (by simp [results, Try.results9, go_sem, r0, r1, r2]) rfl ?_
    exact ⟨⟨z, t2, rfl⟩, k7, sd7, by omega, C9.out, hR9⟩
  · have r0 := XR5.out.c 0 rfl
    have rf0 := XR5.out.f 0 rfl
    have r1 := XR5.out.c 1 rfl
    have rf1 := XR5.out.f 1 rfl
    have r2 := XR5.out.c 2 rfl
    have rf2 := XR5.out.f 2 rfl
    have rz := XR5.out.size
    have a0 := XA5.out.c 0 rfl
    have af0 := XA5.out.f 0 rfl
    have a1 := XA5.out.c 1 rfl
    have af1 := XA5.out.f 1 rfl
    have a2 := XA5.out.c 2 rfl
    have af2 := XA5.out.f 2 rfl
    have az := XA5.out.size
    obtain ⟨w6, hV⟩ : ∃ V, V = w5.alloc (.cells #[.int .i64 (-1), .int .i64 9, .int .i64 10] 3) := ⟨_, rfl⟩
    have XR6 := hid (XR5.out.alloc (.cells #[.int .i64 (-1), .int .i64 9, .int .i64 10] 3))
    rw [← hV] at XR6
    have XA6 := hid (XA5.out.alloc (.cells #[.int .i64 (-1), .int .i64 9, .int .i64 10] 3))
    rw [← hV] at XA6
    have C6 := hid (C5.out.later (below1 w5 (.cells #[.int .i64 (-1), .int .i64 9, .int .i64 10] 3)))
    rw [← hV] at C6
    have hR6 : Grew p w w6 := by rw [hV]; exact hR5.trans (Grew.alloc p _ _)
    have hz6 : w5.heap.size ≤ w6.heap.size := by rw [hV]; simp
    have H6 := hid hV
    clear hV XR5 XA5 C5
    have XU6 : Hid (Bx w6 w5.heap.size [.int .i64 (-1), .int .i64 9, .int .i64 10]) := by rw [H6.out]; exact Bx.new [.int .i64 (-1), .int .i64 9, .int .i64 10] _ rfl
    have hy6 : w5.heap.size < w6.heap.size := XU6.out.size
    go_wp2_with fail
    clear r0 rf0 r1 rf1 r2 rf2 rz a0 af0 a1 af1 a2 af2 az
    rw [← H6.out]
    clear H6
    refine (among_in [-1, 9, 10] w5.heap.size p co cap bs k5 sd5 w6 hl (by omega) C6.out (by simp) (by simp) XU6.out (by omega)).mono ?_
    rintro e w7 ⟨⟨z, _, rfl⟩, hD⟩
    obtain ⟨k7, sd7, hk7, hC7, hg7, hsz7⟩ := hD.grew
    have XR7 := hid (XR6.out.grew hg7 (by omega))
    have XA7 := hid (XA6.out.grew hg7 (by omega))
    have XU7 := hid (XU6.out.grew hg7 (by omega))
    have C7 := hid hC7
    have hR7 : Grew p w w7 := hR6.trans hg7
    have hz7 : w6.heap.size ≤ w7.heap.size := hg7.size
    clear XR6 XA6 XU6 C6 hD hg7 hC7 hsz7
    have r0 := XR7.out.c 0 rfl
    have rf0 := XR7.out.f 0 rfl
    have r1 := XR7.out.c 1 rfl
    have rf1 := XR7.out.f 1 rfl
    have r2 := XR7.out.c 2 rfl
    have rf2 := XR7.out.f 2 rfl
    have rz := XR7.out.size
    have a0 := XA7.out.c 0 rfl
    have af0 := XA7.out.f 0 rfl
    have a1 := XA7.out.c 1 rfl
    have af1 := XA7.out.f 1 rfl
    have a2 := XA7.out.c 2 rfl
    have af2 := XA7.out.f 2 rfl
    have az := XA7.out.size
    have u0 := XU7.out.c 0 rfl
    have uf0 := XU7.out.f 0 rfl
    have u1 := XU7.out.c 1 rfl
    have uf1 := XU7.out.f 1 rfl
    have u2 := XU7.out.c 2 rfl
    have uf2 := XU7.out.f 2 rfl
    have uz := XU7.out.size
    obtain ⟨w8, hV⟩ : ∃ V, V = (w7.setCell ⟨w3.heap.size, 1, none⟩ (.int .i64 z)) := ⟨_, rfl⟩
    have XR8 := hid ((XR7.out.other (a := ⟨w3.heap.size, 1, none⟩) (by dsimp only; omega) (.int .i64 z)))
    rw [← hV] at XR8
    have XA8 := hid ((XA7.out.set 1 (.int .i64 z)))
    rw [← hV] at XA8
    have XU8 := hid ((XU7.out.other (a := ⟨w3.heap.size, 1, none⟩) (by dsimp only; omega) (.int .i64 z)))
    rw [← hV] at XU8
    have C8 := hid ((C7.out.other (a := ⟨w3.heap.size, 1, none⟩) (by dsimp only; omega) (.int .i64 z)))
    rw [← hV] at C8
    have hR8 : Grew p w w8 := by rw [hV]; exact (hR7.set (a := ⟨w3.heap.size, 1, none⟩) (by dsimp only; omega) (.int .i64 z))
    have hz8 : w7.heap.size ≤ w8.heap.size := by rw [hV]; simp
    have H8 := hid hV
    clear hV XR7 XA7 XU7 C7
    go_upto_region 7 with fail
    clear r0 rf0 r1 rf1 r2 rf2 rz a0 af0 a1 af1 a2 af2 az u0 uf0 u1 uf1 u2 uf2 uz
    rw [← H8.out]
    clear H8
    have r0 := XR8.out.c 0 rfl
    have rf0 := XR8.out.f 0 rfl
    have r1 := XR8.out.c 1 rfl
    have rf1 := XR8.out.f 1 rfl
    have r2 := XR8.out.c 2 rfl
    have rf2 := XR8.out.f 2 rfl
    have rz := XR8.out.size
    have a0 := XA8.out.c 0 rfl
    have af0 := XA8.out.f 0 rfl
    have a1 := XA8.out.c 1 rfl
    have af1 := XA8.out.f 1 rfl
    have a2 := XA8.out.c 2 rfl
    have af2 := XA8.out.f 2 rfl
    have az := XA8.out.size
    have u0 := XU8.out.c 0 rfl
    have uf0 := XU8.out.f 0 rfl
    have u1 := XU8.out.c 1 rfl
    have uf1 := XU8.out.f 1 rfl
    have u2 := XU8.out.c 2 rfl
    have uf2 := XU8.out.f 2 rfl
    have uz := XU8.out.size
    obtain ⟨w9, hV⟩ : ∃ V, V = (((w8.setCell ⟨w.heap.size, 0, none⟩ (.int .i64 t1)).setCell ⟨w.heap.size, 1, none⟩ (.int .i64 z)).setCell ⟨w.heap.size, 2, none⟩ (.int .i64 0)) := ⟨_, rfl⟩
    have XR9 := hid ((((XR8.out.set 0 (.int .i64 t1)).set 1 (.int .i64 z)).set 2 (.int .i64 0)))
    rw [← hV] at XR9
    have XA9 := hid ((((XA8.out.other (a := ⟨w.heap.size, 0, none⟩) (by dsimp only; omega) (.int .i64 t1)).other (a := ⟨w.heap.size, 1, none⟩) (by dsimp only; omega) (.int .i64 z)).other (a := ⟨w.heap.size, 2, none⟩) (by dsimp only; omega) (.int .i64 0)))
    rw [← hV] at XA9
    have XU9 := hid ((((XU8.out.other (a := ⟨w.heap.size, 0, none⟩) (by dsimp only; omega) (.int .i64 t1)).other (a := ⟨w.heap.size, 1, none⟩) (by dsimp only; omega) (.int .i64 z)).other (a := ⟨w.heap.size, 2, none⟩) (by dsimp only; omega) (.int .i64 0)))
    rw [← hV] at XU9
    have C9 := hid ((((C8.out.other (a := ⟨w.heap.size, 0, none⟩) (by dsimp only; omega) (.int .i64 t1)).other (a := ⟨w.heap.size, 1, none⟩) (by dsimp only; omega) (.int .i64 z)).other (a := ⟨w.heap.size, 2, none⟩) (by dsimp only; omega) (.int .i64 0)))
    rw [← hV] at C9
    have hR9 : Grew p w w9 := by rw [hV]; exact (((hR8.set (a := ⟨w.heap.size, 0, none⟩) (by dsimp only; omega) (.int .i64 t1)).set (a := ⟨w.heap.size, 1, none⟩) (by dsimp only; omega) (.int .i64 z)).set (a := ⟨w.heap.size, 2, none⟩) (by dsimp only; omega) (.int .i64 0))
    have hz9 : w8.heap.size ≤ w9.heap.size := by rw [hV]; simp
    have H9 := hid hV
    clear hV XR8 XA8 XU8 C8
    go_wp2
    clear r0 rf0 r1 rf1 r2 rf2 rz a0 af0 a1 af1 a2 af2 az u0 uf0 u1 uf1 u2 uf2 uz
    rw [← H9.out]
    clear H9
    have r0 := XR9.out.c 0 rfl
    have rf0 := XR9.out.f 0 rfl
    have r1 := XR9.out.c 1 rfl
    have rf1 := XR9.out.f 1 rfl
    have r2 := XR9.out.c 2 rfl
    have rf2 := XR9.out.f 2 rfl
    have rz := XR9.out.size
    have a0 := XA9.out.c 0 rfl
    have af0 := XA9.out.f 0 rfl
    have a1 := XA9.out.c 1 rfl
    have af1 := XA9.out.f 1 rfl
    have a2 := XA9.out.c 2 rfl
    have af2 := XA9.out.f 2 rfl
    have az := XA9.out.size
    have u0 := XU9.out.c 0 rfl
    have uf0 := XU9.out.f 0 rfl
    have u1 := XU9.out.c 1 rfl
    have uf1 := XU9.out.f 1 rfl
    have u2 := XU9.out.c 2 rfl
    have uf2 := XU9.out.f 2 rfl
    have uz := XU9.out.size
    refine bodyPost_ret (v := .agg #[.int .i64 t1, .int .i64 z, .int .i64 0]) (by simp [results, Try.results9, go_sem, r0, r1, r2]) rfl ?_
    exact ⟨⟨t1, z, rfl⟩, k7, sd7, by omega, C9.out, hR9⟩
  · have e0 : (y == 0) = false := by simpa using y0
    have f0 : decide (y = 0) = false := by simpa using y0
    have e1 : (y == 1) = false := by simpa using y1
    have f1 : decide (y = 1) = false := by simpa using y1
    have r0 := XR5.out.c 0 rfl
    have rf0 := XR5.out.f 0 rfl
    have r1 := XR5.out.c 1 rfl
    have rf1 := XR5.out.f 1 rfl
    have r2 := XR5.out.c 2 rfl
    have rf2 := XR5.out.f 2 rfl
    have rz := XR5.out.size
    have a0 := XA5.out.c 0 rfl
    have af0 := XA5.out.f 0 rfl
    have a1 := XA5.out.c 1 rfl
    have af1 := XA5.out.f 1 rfl
    have a2 := XA5.out.c 2 rfl
    have af2 := XA5.out.f 2 rfl
    have az := XA5.out.size
    go_upto_region 7 with fail
    clear r0 rf0 r1 rf1 r2 rf2 rz a0 af0 a1 af1 a2 af2 az
    have r0 := XR5.out.c 0 rfl
    have rf0 := XR5.out.f 0 rfl
    have r1 := XR5.out.c 1 rfl
    have rf1 := XR5.out.f 1 rfl
    have r2 := XR5.out.c 2 rfl
    have rf2 := XR5.out.f 2 rfl
    have rz := XR5.out.size
    have a0 := XA5.out.c 0 rfl
    have af0 := XA5.out.f 0 rfl
    have a1 := XA5.out.c 1 rfl
    have af1 := XA5.out.f 1 rfl
    have a2 := XA5.out.c 2 rfl
    have af2 := XA5.out.f 2 rfl
    have az := XA5.out.size
    obtain ⟨w6, hV⟩ : ∃ V, V = (((w5.setCell ⟨w.heap.size, 0, none⟩ (.int .i64 t1)).setCell ⟨w.heap.size, 1, none⟩ (.int .i64 t2)).setCell ⟨w.heap.size, 2, none⟩ (.int .i64 0)) := ⟨_, rfl⟩
    have XR6 := hid ((((XR5.out.set 0 (.int .i64 t1)).set 1 (.int .i64 t2)).set 2 (.int .i64 0)))
    rw [← hV] at XR6
    have XA6 := hid ((((XA5.out.other (a := ⟨w.heap.size, 0, none⟩) (by dsimp only; omega) (.int .i64 t1)).other (a := ⟨w.heap.size, 1, none⟩) (by dsimp only; omega) (.int .i64 t2)).other (a := ⟨w.heap.size, 2, none⟩) (by dsimp only; omega) (.int .i64 0)))
    rw [← hV] at XA6
    have C6 := hid ((((C5.out.other (a := ⟨w.heap.size, 0, none⟩) (by dsimp only; omega) (.int .i64 t1)).other (a := ⟨w.heap.size, 1, none⟩) (by dsimp only; omega) (.int .i64 t2)).other (a := ⟨w.heap.size, 2, none⟩) (by dsimp only; omega) (.int .i64 0)))
    rw [← hV] at C6
    have hR6 : Grew p w w6 := by rw [hV]; exact (((hR5.set (a := ⟨w.heap.size, 0, none⟩) (by dsimp only; omega) (.int .i64 t1)).set (a := ⟨w.heap.size, 1, none⟩) (by dsimp only; omega) (.int .i64 t2)).set (a := ⟨w.heap.size, 2, none⟩) (by dsimp only; omega) (.int .i64 0))
    have hz6 : w5.heap.size ≤ w6.heap.size := by rw [hV]; simp
    have H6 := hid hV
    clear hV XR5 XA5 C5
    go_wp2
    clear r0 rf0 r1 rf1 r2 rf2 rz a0 af0 a1 af1 a2 af2 az
    rw [← H6.out]
    clear H6
    have r0 := XR6.out.c 0 rfl
    have rf0 := XR6.out.f 0 rfl
    have r1 := XR6.out.c 1 rfl
    have rf1 := XR6.out.f 1 rfl
    have r2 := XR6.out.c 2 rfl
    have rf2 := XR6.out.f 2 rfl
    have rz := XR6.out.size
    have a0 := XA6.out.c 0 rfl
    have af0 := XA6.out.f 0 rfl
    have a1 := XA6.out.c 1 rfl
    have af1 := XA6.out.f 1 rfl
    have a2 := XA6.out.c 2 rfl
    have af2 := XA6.out.f 2 rfl
    have az := XA6.out.size
    refine bodyPost_ret (v := .agg #[.int .i64 t1, .int .i64 t2, .int .i64 0]) (by simp [results, Try.results9, go_sem, r0, r1, r2]) rfl ?_
    exact ⟨⟨t1, t2, rfl⟩, k5, sd5, by omega, C6.out, hR6⟩
end Go.Proofs.Ytdfmmidokfcjfaa
