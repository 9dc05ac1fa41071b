
/- Drawn stages and values. No conditions but those written. -/
import Derived.Test.YtebnapgcobcilaaGreatDoorPGenSg
import Derived.Test.YtebnapgcobcilaaGreatDoorPSmTa
import Derived.Deep.Cut
namespace Go.Proofs.YtebnapgcobcilaaGreatDoor
open Go.RowKit

theorem bx_nums {W : World} {q : Nat} {zs : List Int} (h : Bx W q (zs.map fun z => .int .i64 z)) : ∀ j, j < zs.length → W.cell? ⟨q, 0 + j, none⟩ = some (.int .i64 (zs[j]?.getD 0)) := by
  intro j hj
  rw [Nat.zero_add]
  exact h.c j (by simp [hj])
theorem among_some (zs : List Int) (q p : Nat) (co : Option Addr) (cap : Nat) (bs : List Int) (k : Nat) (sd : Int) (w : World) (hl : bs.length ≤ 9223372036854775807) (ha : k ≤ 1099511627770) (hC : Cur w p co cap bs k sd) (h0 : 0 < zs.length) (h9 : zs.length ≤ 1048576) (hz : Bx w q (zs.map fun z => .int .i64 z)) (hb : q ≠ p) :
    Calls Tryz.prog 36 #[.pointer (some ⟨p, 0, none⟩), .slice (some ⟨q, 0, none⟩) zs.length zs.length] w fun e w' => (∃ z, e = .returned (.int .i64 z)) ∧ Drawn w p co cap bs k 2 w' :=
  (among_any q 0 zs zs.length p co cap bs k sd w hl ha hC h0 h9 (bx_nums hz) hb).mono fun _ _ h => ⟨⟨_, h.1.choose_spec.2⟩, h.2⟩
set_option maxRecDepth 100000 in
set_option maxHeartbeats 16000000 in
theorem stage_any (p : Nat) (co : Option Addr) (cap : Nat) (bs : List Int) (k : Nat) (sd : Int) (w : World) (hl : bs.length ≤ 9223372036854775807) (ha : k ≤ 1000000000) (hC : Cur w p co cap bs k sd) :
    Calls Tryz.prog 33 #[.pointer (some ⟨p, 0, none⟩)] w fun e w' => (∃ x1 x2 x3, e = .returned (.agg #[.int .i64 x1, .int .i64 x2, .int .i64 x3])) ∧ DrawnG w p co cap bs k 20 w' := by
  have C0 := hid hC
  have hR0 := Grew.refl p w
  have hpw : p < w.heap.size := hC.1
  clear hC
  obtain ⟨w1, hV⟩ : ∃ V, V = w.alloc (.cells #[.int .i64 0, .int .i64 0, .int .i64 0] 32) := ⟨_, rfl⟩
  have C1 := hid (C0.out.later (below1 w (.cells #[.int .i64 0, .int .i64 0, .int .i64 0] 32)))
  rw [← hV] at C1
  have hR1 : Grew p w w1 := by rw [hV]; exact hR0.trans (Grew.alloc p _ _)
  have hz1 : w.heap.size ≤ w1.heap.size := by rw [hV]; simp
  have H1 := hid hV
  clear hV C0
  have XR1 : Hid (Bx w1 w.heap.size [.int .i64 0, .int .i64 0, .int .i64 0]) := by rw [H1.out]; exact Bx.new [.int .i64 0, .int .i64 0, .int .i64 0] _ rfl
  have hy1 : w.heap.size < w1.heap.size := XR1.out.size
  go_enter Tryz.func33, Tryz.ntmps33
  have r0 := XR1.out.c 0 rfl
  have rf0 := XR1.out.f 0 rfl
  have r1 := XR1.out.c 1 rfl
  have rf1 := XR1.out.f 1 rfl
  have r2 := XR1.out.c 2 rfl
  have rf2 := XR1.out.f 2 rfl
  have rz := XR1.out.size
  go_wp2_with fail
  clear r0 rf0 r1 rf1 r2 rf2 rz
  rw [← H1.out]
  clear H1
  refine (pick_any 4 p co cap bs k sd w1 hl (by omega) C1.out).mono ?_
  rintro e w2 ⟨⟨x, rfl, h0x, h1x⟩, hD⟩
  obtain ⟨k2, sd2, hk2, hC2, hg2, hsz2⟩ := hD.grew
  have XR2 := hid (XR1.out.grew hg2 (by omega))
  have C2 := hid hC2
  have hR2 : Grew p w w2 := hR1.trans hg2
  have hz2 : w1.heap.size ≤ w2.heap.size := hg2.size
  clear XR1 C1 hD hg2 hC2 hsz2
  have hx4 : x = 0 ∨ x = 1 ∨ x = 2 ∨ x = 3 := by omega
  rcases hx4 with rfl | rfl | rfl | rfl
  · have r0 := XR2.out.c 0 rfl
    have rf0 := XR2.out.f 0 rfl
    have r1 := XR2.out.c 1 rfl
    have rf1 := XR2.out.f 1 rfl
    have r2 := XR2.out.c 2 rfl
    have rf2 := XR2.out.f 2 rfl
    have rz := XR2.out.size
    obtain ⟨w3, hV⟩ : ∃ V, V = w2.alloc (.cells #[.int .i64 1, .int .i64 0, .int .i64 0] 32) := ⟨_, rfl⟩
    have XR3 := hid (XR2.out.alloc (.cells #[.int .i64 1, .int .i64 0, .int .i64 0] 32))
    rw [← hV] at XR3
    have C3 := hid (C2.out.later (below1 w2 (.cells #[.int .i64 1, .int .i64 0, .int .i64 0] 32)))
    rw [← hV] at C3
    have hR3 : Grew p w w3 := by rw [hV]; exact hR2.trans (Grew.alloc p _ _)
    have hz3 : w2.heap.size ≤ w3.heap.size := by rw [hV]; simp
    have H3 := hid hV
    clear hV XR2 C2
    have XS3 : Hid (Bx w3 w2.heap.size [.int .i64 1, .int .i64 0, .int .i64 0]) := by rw [H3.out]; exact Bx.new [.int .i64 1, .int .i64 0, .int .i64 0] _ rfl
    have hy3 : w2.heap.size < w3.heap.size := XS3.out.size
    go_wp2_with fail
    clear r0 rf0 r1 rf1 r2 rf2 rz
    rw [← H3.out]
    clear H3
    refine (pick_any 9 p co cap bs k2 sd2 w3 hl (by omega) C3.out).mono ?_
    rintro e w4 ⟨⟨a0, rfl, h0a0, h1a0⟩, hD⟩
    obtain ⟨k4, sd4, hk4, hC4, hg4, hsz4⟩ := hD.grew
    have XR4 := hid (XR3.out.grew hg4 (by omega))
    have XS4 := hid (XS3.out.grew hg4 (by omega))
    have C4 := hid hC4
    have hR4 : Grew p w w4 := hR3.trans hg4
    have hz4 : w3.heap.size ≤ w4.heap.size := hg4.size
    clear XR3 XS3 C3 hD hg4 hC4 hsz4
    have r0 := XR4.out.c 0 rfl
    have rf0 := XR4.out.f 0 rfl
    have r1 := XR4.out.c 1 rfl
    have rf1 := XR4.out.f 1 rfl
    have r2 := XR4.out.c 2 rfl
    have rf2 := XR4.out.f 2 rfl
    have rz := XR4.out.size
    have s0 := XS4.out.c 0 rfl
    have sf0 := XS4.out.f 0 rfl
    have s1 := XS4.out.c 1 rfl
    have sf1 := XS4.out.f 1 rfl
    have s2 := XS4.out.c 2 rfl
    have sf2 := XS4.out.f 2 rfl
    have sz := XS4.out.size
    obtain ⟨w5, hV⟩ : ∃ V, V = (w4.setCell ⟨w2.heap.size, 1, none⟩ (.int .i64 (a0 - 4))) := ⟨_, rfl⟩
    have XR5 := hid ((XR4.out.other (a := ⟨w2.heap.size, 1, none⟩) (by dsimp only; omega) (.int .i64 (a0 - 4))))
    rw [← hV] at XR5
    have XS5 := hid ((XS4.out.set 1 (.int .i64 (a0 - 4))))
    rw [← hV] at XS5
    have C5 := hid ((C4.out.other (a := ⟨w2.heap.size, 1, none⟩) (by dsimp only; omega) (.int .i64 (a0 - 4))))
    rw [← hV] at C5
    have hR5 : Grew p w w5 := by rw [hV]; exact (hR4.set (a := ⟨w2.heap.size, 1, none⟩) (by dsimp only; omega) (.int .i64 (a0 - 4)))
    have hz5 : w4.heap.size ≤ w5.heap.size := by rw [hV]; simp
    have H5 := hid hV
    clear hV XR4 XS4 C4
    go_upto_region 7 with fail
    clear r0 rf0 r1 rf1 r2 rf2 rz s0 sf0 s1 sf1 s2 sf2 sz
    rw [← H5.out]
    clear H5
    have r0 := XR5.out.c 0 rfl
    have rf0 := XR5.out.f 0 rfl
    have r1 := XR5.out.c 1 rfl
    have rf1 := XR5.out.f 1 rfl
    have r2 := XR5.out.c 2 rfl
    have rf2 := XR5.out.f 2 rfl
    have rz := XR5.out.size
    have s0 := XS5.out.c 0 rfl
    have sf0 := XS5.out.f 0 rfl
    have s1 := XS5.out.c 1 rfl
    have sf1 := XS5.out.f 1 rfl
    have s2 := XS5.out.c 2 rfl
    have sf2 := XS5.out.f 2 rfl
    have sz := XS5.out.size
    go_wp2_with fail
    clear r0 rf0 r1 rf1 r2 rf2 rz s0 sf0 s1 sf1 s2 sf2 sz
    refine (pick_any 40 p co cap bs k4 sd4 w5 hl (by omega) C5.out).mono ?_
    rintro e w6 ⟨⟨b0, rfl, h0b0, h1b0⟩, hD⟩
    obtain ⟨k6, sd6, hk6, hC6, hg6, hsz6⟩ := hD.grew
    have XR6 := hid (XR5.out.grew hg6 (by omega))
    have XS6 := hid (XS5.out.grew hg6 (by omega))
    have C6 := hid hC6
    have hR6 : Grew p w w6 := hR5.trans hg6
    have hz6 : w5.heap.size ≤ w6.heap.size := hg6.size
    clear XR5 XS5 C5 hD hg6 hC6 hsz6
    have r0 := XR6.out.c 0 rfl
    have rf0 := XR6.out.f 0 rfl
    have r1 := XR6.out.c 1 rfl
    have rf1 := XR6.out.f 1 rfl
    have r2 := XR6.out.c 2 rfl
    have rf2 := XR6.out.f 2 rfl
    have rz := XR6.out.size
    have s0 := XS6.out.c 0 rfl
    have sf0 := XS6.out.f 0 rfl
    have s1 := XS6.out.c 1 rfl
    have sf1 := XS6.out.f 1 rfl
    have s2 := XS6.out.c 2 rfl
    have sf2 := XS6.out.f 2 rfl
    have sz := XS6.out.size
    obtain ⟨w7, hV⟩ : ∃ V, V = (w6.setCell ⟨w2.heap.size, 2, none⟩ (.int .i64 (b0 - 20))) := ⟨_, rfl⟩
    have XR7 := hid ((XR6.out.other (a := ⟨w2.heap.size, 2, none⟩) (by dsimp only; omega) (.int .i64 (b0 - 20))))
    rw [← hV] at XR7
    have XS7 := hid ((XS6.out.set 2 (.int .i64 (b0 - 20))))
    rw [← hV] at XS7
    have C7 := hid ((C6.out.other (a := ⟨w2.heap.size, 2, none⟩) (by dsimp only; omega) (.int .i64 (b0 - 20))))
    rw [← hV] at C7
    have hR7 : Grew p w w7 := by rw [hV]; exact (hR6.set (a := ⟨w2.heap.size, 2, none⟩) (by dsimp only; omega) (.int .i64 (b0 - 20)))
    have hz7 : w6.heap.size ≤ w7.heap.size := by rw [hV]; simp
    have H7 := hid hV
    clear hV XR6 XS6 C6
    go_upto_region 11 with fail
    clear r0 rf0 r1 rf1 r2 rf2 rz s0 sf0 s1 sf1 s2 sf2 sz
    rw [← H7.out]
    clear H7
    have r0 := XR7.out.c 0 rfl
    have rf0 := XR7.out.f 0 rfl
    have r1 := XR7.out.c 1 rfl
    have rf1 := XR7.out.f 1 rfl
    have r2 := XR7.out.c 2 rfl
    have rf2 := XR7.out.f 2 rfl
    have rz := XR7.out.size
    have s0 := XS7.out.c 0 rfl
    have sf0 := XS7.out.f 0 rfl
    have s1 := XS7.out.c 1 rfl
    have sf1 := XS7.out.f 1 rfl
    have s2 := XS7.out.c 2 rfl
    have sf2 := XS7.out.f 2 rfl
    have sz := XS7.out.size
    go_wp2_with fail
    clear r0 rf0 r1 rf1 r2 rf2 rz s0 sf0 s1 sf1 s2 sf2 sz
    refine (pick_any 60 p co cap bs k6 sd6 w7 hl (by omega) C7.out).mono ?_
    rintro e w8 ⟨⟨y, rfl, h0y, h1y⟩, hD⟩
    obtain ⟨k8, sd8, hk8, hC8, hg8, hsz8⟩ := hD.grew
    have XR8 := hid (XR7.out.grew hg8 (by omega))
    have XS8 := hid (XS7.out.grew hg8 (by omega))
    have C8 := hid hC8
    have hR8 : Grew p w w8 := hR7.trans hg8
    have hz8 : w7.heap.size ≤ w8.heap.size := hg8.size
    clear XR7 XS7 C7 hD hg8 hC8 hsz8
    by_cases hy0 : y = 0
    case pos =>
      subst hy0
      have r0 := XR8.out.c 0 rfl
      have rf0 := XR8.out.f 0 rfl
      have r1 := XR8.out.c 1 rfl
      have rf1 := XR8.out.f 1 rfl
      have r2 := XR8.out.c 2 rfl
      have rf2 := XR8.out.f 2 rfl
      have rz := XR8.out.size
      have s0 := XS8.out.c 0 rfl
      have sf0 := XS8.out.f 0 rfl
      have s1 := XS8.out.c 1 rfl
      have sf1 := XS8.out.f 1 rfl
      have s2 := XS8.out.c 2 rfl
      have sf2 := XS8.out.f 2 rfl
      have sz := XS8.out.size
      obtain ⟨w9, hV⟩ : ∃ V, V = w8.alloc (.cells #[.int .i64 0, .int .i64 5] 3) := ⟨_, rfl⟩
      have XR9 := hid (XR8.out.alloc (.cells #[.int .i64 0, .int .i64 5] 3))
      rw [← hV] at XR9
      have XS9 := hid (XS8.out.alloc (.cells #[.int .i64 0, .int .i64 5] 3))
      rw [← hV] at XS9
      have C9 := hid (C8.out.later (below1 w8 (.cells #[.int .i64 0, .int .i64 5] 3)))
      rw [← hV] at C9
      have hR9 : Grew p w w9 := by rw [hV]; exact hR8.trans (Grew.alloc p _ _)
      have hz9 : w8.heap.size ≤ w9.heap.size := by rw [hV]; simp
      have H9 := hid hV
      clear hV XR8 XS8 C8
      have XU9 : Hid (Bx w9 w8.heap.size [.int .i64 0, .int .i64 5]) := by rw [H9.out]; exact Bx.new [.int .i64 0, .int .i64 5] _ rfl
      have hy9 : w8.heap.size < w9.heap.size := XU9.out.size
      go_wp2_with fail
      clear r0 rf0 r1 rf1 r2 rf2 rz s0 sf0 s1 sf1 s2 sf2 sz
      rw [← H9.out]
      clear H9
      refine (among_some [0, 5] w8.heap.size p co cap bs k8 sd8 w9 hl (by omega) C9.out (by simp) (by simp) XU9.out (by omega)).mono ?_
      rintro e w10 ⟨⟨z, rfl⟩, hD⟩
      obtain ⟨k10, sd10, hk10, hC10, hg10, hsz10⟩ := hD.grew
      have XR10 := hid (XR9.out.grew hg10 (by omega))
      have XS10 := hid (XS9.out.grew hg10 (by omega))
      have XU10 := hid (XU9.out.grew hg10 (by omega))
      have C10 := hid hC10
      have hR10 : Grew p w w10 := hR9.trans hg10
      have hz10 : w9.heap.size ≤ w10.heap.size := hg10.size
      clear XR9 XS9 XU9 C9 hD hg10 hC10 hsz10
      have r0 := XR10.out.c 0 rfl
      have rf0 := XR10.out.f 0 rfl
      have r1 := XR10.out.c 1 rfl
      have rf1 := XR10.out.f 1 rfl
      have r2 := XR10.out.c 2 rfl
      have rf2 := XR10.out.f 2 rfl
      have rz := XR10.out.size
      have s0 := XS10.out.c 0 rfl
      have sf0 := XS10.out.f 0 rfl
      have s1 := XS10.out.c 1 rfl
      have sf1 := XS10.out.f 1 rfl
      have s2 := XS10.out.c 2 rfl
      have sf2 := XS10.out.f 2 rfl
      have sz := XS10.out.size
      obtain ⟨w11, hV⟩ : ∃ V, V = (w10.setCell ⟨w2.heap.size, 0, none⟩ (.int .i64 z)) := ⟨_, rfl⟩
      have XR11 := hid ((XR10.out.other (a := ⟨w2.heap.size, 0, none⟩) (by dsimp only; omega) (.int .i64 z)))
      rw [← hV] at XR11
      have XS11 := hid ((XS10.out.set 0 (.int .i64 z)))
      rw [← hV] at XS11
      have C11 := hid ((C10.out.other (a := ⟨w2.heap.size, 0, none⟩) (by dsimp only; omega) (.int .i64 z)))
      rw [← hV] at C11
      have hR11 : Grew p w w11 := by rw [hV]; exact (hR10.set (a := ⟨w2.heap.size, 0, none⟩) (by dsimp only; omega) (.int .i64 z))
      have hz11 : w10.heap.size ≤ w11.heap.size := by rw [hV]; simp
      have H11 := hid hV
      clear hV XR10 XS10 C10
      go_upto_region 18 with fail
      clear r0 rf0 r1 rf1 r2 rf2 rz s0 sf0 s1 sf1 s2 sf2 sz
      rw [← H11.out]
      clear H11
      have r0 := XR11.out.c 0 rfl
      have rf0 := XR11.out.f 0 rfl
      have r1 := XR11.out.c 1 rfl
      have rf1 := XR11.out.f 1 rfl
      have r2 := XR11.out.c 2 rfl
      have rf2 := XR11.out.f 2 rfl
      have rz := XR11.out.size
      have s0 := XS11.out.c 0 rfl
      have sf0 := XS11.out.f 0 rfl
      have s1 := XS11.out.c 1 rfl
      have sf1 := XS11.out.f 1 rfl
      have s2 := XS11.out.c 2 rfl
      have sf2 := XS11.out.f 2 rfl
      have sz := XS11.out.size
      go_wp2
      refine bodyPost_ret (v := .agg #[.int .i64 z, .int .i64 (a0 - 4), .int .i64 (b0 - 20)]) (by simp [results, Tryz.results33, go_sem, r0, r1, r2]) rfl ⟨⟨_, _, _, rfl⟩, k10, sd10, by omega, ?_, ?_⟩
      · exact (((C11.out.other (a := ⟨w.heap.size, 0, none⟩) (by dsimp only; omega) _).other (a := ⟨w.heap.size, 1, none⟩) (by dsimp only; omega) _).other (a := ⟨w.heap.size, 2, none⟩) (by dsimp only; omega) _)
      · exact (((hR11.set (a := ⟨w.heap.size, 0, none⟩) (by dsimp only; omega) _).set (a := ⟨w.heap.size, 1, none⟩) (by dsimp only; omega) _).set (a := ⟨w.heap.size, 2, none⟩) (by dsimp only; omega) _)
    by_cases hy1 : y = 1
    case pos =>
      subst hy1
      have r0 := XR8.out.c 0 rfl
      have rf0 := XR8.out.f 0 rfl
      have r1 := XR8.out.c 1 rfl
      have rf1 := XR8.out.f 1 rfl
      have r2 := XR8.out.c 2 rfl
      have rf2 := XR8.out.f 2 rfl
      have rz := XR8.out.size
      have s0 := XS8.out.c 0 rfl
      have sf0 := XS8.out.f 0 rfl
      have s1 := XS8.out.c 1 rfl
      have sf1 := XS8.out.f 1 rfl
      have s2 := XS8.out.c 2 rfl
      have sf2 := XS8.out.f 2 rfl
      have sz := XS8.out.size
      obtain ⟨w9, hV⟩ : ∃ V, V = w8.alloc (.cells #[.int .i64 (-100), .int .i64 (-101), .int .i64 100, .int .i64 101, .int .i64 0, .int .i64 3, .int .i64 4, .int .i64 1000, .int .i64 1001] 3) := ⟨_, rfl⟩
      have XR9 := hid (XR8.out.alloc (.cells #[.int .i64 (-100), .int .i64 (-101), .int .i64 100, .int .i64 101, .int .i64 0, .int .i64 3, .int .i64 4, .int .i64 1000, .int .i64 1001] 3))
      rw [← hV] at XR9
      have XS9 := hid (XS8.out.alloc (.cells #[.int .i64 (-100), .int .i64 (-101), .int .i64 100, .int .i64 101, .int .i64 0, .int .i64 3, .int .i64 4, .int .i64 1000, .int .i64 1001] 3))
      rw [← hV] at XS9
      have C9 := hid (C8.out.later (below1 w8 (.cells #[.int .i64 (-100), .int .i64 (-101), .int .i64 100, .int .i64 101, .int .i64 0, .int .i64 3, .int .i64 4, .int .i64 1000, .int .i64 1001] 3)))
      rw [← hV] at C9
      have hR9 : Grew p w w9 := by rw [hV]; exact hR8.trans (Grew.alloc p _ _)
      have hz9 : w8.heap.size ≤ w9.heap.size := by rw [hV]; simp
      have H9 := hid hV
      clear hV XR8 XS8 C8
      have XU9 : Hid (Bx w9 w8.heap.size [.int .i64 (-100), .int .i64 (-101), .int .i64 100, .int .i64 101, .int .i64 0, .int .i64 3, .int .i64 4, .int .i64 1000, .int .i64 1001]) := by rw [H9.out]; exact Bx.new [.int .i64 (-100), .int .i64 (-101), .int .i64 100, .int .i64 101, .int .i64 0, .int .i64 3, .int .i64 4, .int .i64 1000, .int .i64 1001] _ rfl
      have hy9 : w8.heap.size < w9.heap.size := XU9.out.size
      go_wp2_with fail
      clear r0 rf0 r1 rf1 r2 rf2 rz s0 sf0 s1 sf1 s2 sf2 sz
      rw [← H9.out]
      clear H9
      refine (among_some [-100, -101, 100, 101, 0, 3, 4, 1000, 1001] w8.heap.size p co cap bs k8 sd8 w9 hl (by omega) C9.out (by simp) (by simp) XU9.out (by omega)).mono ?_
      rintro e w10 ⟨⟨z, rfl⟩, hD⟩
      obtain ⟨k10, sd10, hk10, hC10, hg10, hsz10⟩ := hD.grew
      have XR10 := hid (XR9.out.grew hg10 (by omega))
      have XS10 := hid (XS9.out.grew hg10 (by omega))
      have XU10 := hid (XU9.out.grew hg10 (by omega))
      have C10 := hid hC10
      have hR10 : Grew p w w10 := hR9.trans hg10
      have hz10 : w9.heap.size ≤ w10.heap.size := hg10.size
      clear XR9 XS9 XU9 C9 hD hg10 hC10 hsz10
      have r0 := XR10.out.c 0 rfl
      have rf0 := XR10.out.f 0 rfl
      have r1 := XR10.out.c 1 rfl
      have rf1 := XR10.out.f 1 rfl
      have r2 := XR10.out.c 2 rfl
      have rf2 := XR10.out.f 2 rfl
      have rz := XR10.out.size
      have s0 := XS10.out.c 0 rfl
      have sf0 := XS10.out.f 0 rfl
      have s1 := XS10.out.c 1 rfl
      have sf1 := XS10.out.f 1 rfl
      have s2 := XS10.out.c 2 rfl
      have sf2 := XS10.out.f 2 rfl
      have sz := XS10.out.size
      obtain ⟨w11, hV⟩ : ∃ V, V = (w10.setCell ⟨w2.heap.size, 1, none⟩ (.int .i64 z)) := ⟨_, rfl⟩
      have XR11 := hid ((XR10.out.other (a := ⟨w2.heap.size, 1, none⟩) (by dsimp only; omega) (.int .i64 z)))
      rw [← hV] at XR11
      have XS11 := hid ((XS10.out.set 1 (.int .i64 z)))
      rw [← hV] at XS11
      have C11 := hid ((C10.out.other (a := ⟨w2.heap.size, 1, none⟩) (by dsimp only; omega) (.int .i64 z)))
      rw [← hV] at C11
      have hR11 : Grew p w w11 := by rw [hV]; exact (hR10.set (a := ⟨w2.heap.size, 1, none⟩) (by dsimp only; omega) (.int .i64 z))
      have hz11 : w10.heap.size ≤ w11.heap.size := by rw [hV]; simp
      have H11 := hid hV
      clear hV XR10 XS10 C10
      go_upto_region 18 with fail
      clear r0 rf0 r1 rf1 r2 rf2 rz s0 sf0 s1 sf1 s2 sf2 sz
      rw [← H11.out]
      clear H11
      have r0 := XR11.out.c 0 rfl
      have rf0 := XR11.out.f 0 rfl
      have r1 := XR11.out.c 1 rfl
      have rf1 := XR11.out.f 1 rfl
      have r2 := XR11.out.c 2 rfl
      have rf2 := XR11.out.f 2 rfl
      have rz := XR11.out.size
      have s0 := XS11.out.c 0 rfl
      have sf0 := XS11.out.f 0 rfl
      have s1 := XS11.out.c 1 rfl
      have sf1 := XS11.out.f 1 rfl
      have s2 := XS11.out.c 2 rfl
      have sf2 := XS11.out.f 2 rfl
      have sz := XS11.out.size
      go_wp2
      refine bodyPost_ret (v := .agg #[.int .i64 1, .int .i64 z, .int .i64 (b0 - 20)]) (by simp [results, Tryz.results33, go_sem, r0, r1, r2]) rfl ⟨⟨_, _, _, rfl⟩, k10, sd10, by omega, ?_, ?_⟩
      · exact (((C11.out.other (a := ⟨w.heap.size, 0, none⟩) (by dsimp only; omega) _).other (a := ⟨w.heap.size, 1, none⟩) (by dsimp only; omega) _).other (a := ⟨w.heap.size, 2, none⟩) (by dsimp only; omega) _)
      · exact (((hR11.set (a := ⟨w.heap.size, 0, none⟩) (by dsimp only; omega) _).set (a := ⟨w.heap.size, 1, none⟩) (by dsimp only; omega) _).set (a := ⟨w.heap.size, 2, none⟩) (by dsimp only; omega) _)
    by_cases hy2 : y = 2
    case pos =>
      subst hy2
      have r0 := XR8.out.c 0 rfl
      have rf0 := XR8.out.f 0 rfl
      have r1 := XR8.out.c 1 rfl
      have rf1 := XR8.out.f 1 rfl
      have r2 := XR8.out.c 2 rfl
      have rf2 := XR8.out.f 2 rfl
      have rz := XR8.out.size
      have s0 := XS8.out.c 0 rfl
      have sf0 := XS8.out.f 0 rfl
      have s1 := XS8.out.c 1 rfl
      have sf1 := XS8.out.f 1 rfl
      have s2 := XS8.out.c 2 rfl
      have sf2 := XS8.out.f 2 rfl
      have sz := XS8.out.size
      obtain ⟨w9, hV⟩ : ∃ V, V = w8.alloc (.cells #[.int .i64 1000000, .int .i64 1000001, .int .i64 (-1), .int .i64 1000, .int .i64 1001, .int .i64 (a0 - 4)] 3) := ⟨_, rfl⟩
      have XR9 := hid (XR8.out.alloc (.cells #[.int .i64 1000000, .int .i64 1000001, .int .i64 (-1), .int .i64 1000, .int .i64 1001, .int .i64 (a0 - 4)] 3))
      rw [← hV] at XR9
      have XS9 := hid (XS8.out.alloc (.cells #[.int .i64 1000000, .int .i64 1000001, .int .i64 (-1), .int .i64 1000, .int .i64 1001, .int .i64 (a0 - 4)] 3))
      rw [← hV] at XS9
      have C9 := hid (C8.out.later (below1 w8 (.cells #[.int .i64 1000000, .int .i64 1000001, .int .i64 (-1), .int .i64 1000, .int .i64 1001, .int .i64 (a0 - 4)] 3)))
      rw [← hV] at C9
      have hR9 : Grew p w w9 := by rw [hV]; exact hR8.trans (Grew.alloc p _ _)
      have hz9 : w8.heap.size ≤ w9.heap.size := by rw [hV]; simp
      have H9 := hid hV
      clear hV XR8 XS8 C8
      have XU9 : Hid (Bx w9 w8.heap.size [.int .i64 1000000, .int .i64 1000001, .int .i64 (-1), .int .i64 1000, .int .i64 1001, .int .i64 (a0 - 4)]) := by rw [H9.out]; exact Bx.new [.int .i64 1000000, .int .i64 1000001, .int .i64 (-1), .int .i64 1000, .int .i64 1001, .int .i64 (a0 - 4)] _ rfl
      have hy9 : w8.heap.size < w9.heap.size := XU9.out.size
      go_wp2_with fail
      clear r0 rf0 r1 rf1 r2 rf2 rz s0 sf0 s1 sf1 s2 sf2 sz
      rw [← H9.out]
      clear H9
      refine (among_some [1000000, 1000001, -1, 1000, 1001, (a0 - 4)] w8.heap.size p co cap bs k8 sd8 w9 hl (by omega) C9.out (by simp) (by simp) XU9.out (by omega)).mono ?_
      rintro e w10 ⟨⟨z, rfl⟩, hD⟩
      obtain ⟨k10, sd10, hk10, hC10, hg10, hsz10⟩ := hD.grew
      have XR10 := hid (XR9.out.grew hg10 (by omega))
      have XS10 := hid (XS9.out.grew hg10 (by omega))
      have XU10 := hid (XU9.out.grew hg10 (by omega))
      have C10 := hid hC10
      have hR10 : Grew p w w10 := hR9.trans hg10
      have hz10 : w9.heap.size ≤ w10.heap.size := hg10.size
      clear XR9 XS9 XU9 C9 hD hg10 hC10 hsz10
      have r0 := XR10.out.c 0 rfl
      have rf0 := XR10.out.f 0 rfl
      have r1 := XR10.out.c 1 rfl
      have rf1 := XR10.out.f 1 rfl
      have r2 := XR10.out.c 2 rfl
      have rf2 := XR10.out.f 2 rfl
      have rz := XR10.out.size
      have s0 := XS10.out.c 0 rfl
      have sf0 := XS10.out.f 0 rfl
      have s1 := XS10.out.c 1 rfl
      have sf1 := XS10.out.f 1 rfl
      have s2 := XS10.out.c 2 rfl
      have sf2 := XS10.out.f 2 rfl
      have sz := XS10.out.size
      obtain ⟨w11, hV⟩ : ∃ V, V = (w10.setCell ⟨w2.heap.size, 2, none⟩ (.int .i64 z)) := ⟨_, rfl⟩
      have XR11 := hid ((XR10.out.other (a := ⟨w2.heap.size, 2, none⟩) (by dsimp only; omega) (.int .i64 z)))
      rw [← hV] at XR11
      have XS11 := hid ((XS10.out.set 2 (.int .i64 z)))
      rw [← hV] at XS11
      have C11 := hid ((C10.out.other (a := ⟨w2.heap.size, 2, none⟩) (by dsimp only; omega) (.int .i64 z)))
      rw [← hV] at C11
      have hR11 : Grew p w w11 := by rw [hV]; exact (hR10.set (a := ⟨w2.heap.size, 2, none⟩) (by dsimp only; omega) (.int .i64 z))
      have hz11 : w10.heap.size ≤ w11.heap.size := by rw [hV]; simp
      have H11 := hid hV
      clear hV XR10 XS10 C10
      go_upto_region 18 with fail
      clear r0 rf0 r1 rf1 r2 rf2 rz s0 sf0 s1 sf1 s2 sf2 sz
      rw [← H11.out]
      clear H11
      have r0 := XR11.out.c 0 rfl
      have rf0 := XR11.out.f 0 rfl
      have r1 := XR11.out.c 1 rfl
      have rf1 := XR11.out.f 1 rfl
      have r2 := XR11.out.c 2 rfl
      have rf2 := XR11.out.f 2 rfl
      have rz := XR11.out.size
      have s0 := XS11.out.c 0 rfl
      have sf0 := XS11.out.f 0 rfl
      have s1 := XS11.out.c 1 rfl
      have sf1 := XS11.out.f 1 rfl
      have s2 := XS11.out.c 2 rfl
      have sf2 := XS11.out.f 2 rfl
      have sz := XS11.out.size
      go_wp2
      refine bodyPost_ret (v := .agg #[.int .i64 1, .int .i64 (a0 - 4), .int .i64 z]) (by simp [results, Tryz.results33, go_sem, r0, r1, r2]) rfl ⟨⟨_, _, _, rfl⟩, k10, sd10, by omega, ?_, ?_⟩
      · exact (((C11.out.other (a := ⟨w.heap.size, 0, none⟩) (by dsimp only; omega) _).other (a := ⟨w.heap.size, 1, none⟩) (by dsimp only; omega) _).other (a := ⟨w.heap.size, 2, none⟩) (by dsimp only; omega) _)
      · exact (((hR11.set (a := ⟨w.heap.size, 0, none⟩) (by dsimp only; omega) _).set (a := ⟨w.heap.size, 1, none⟩) (by dsimp only; omega) _).set (a := ⟨w.heap.size, 2, none⟩) (by dsimp only; omega) _)
    have ey0 : (y == 0) = false := by simpa using hy0
    have ey1 : (y == 1) = false := by simpa using hy1
    have ey2 : (y == 2) = false := by simpa using hy2
    have r0 := XR8.out.c 0 rfl
    have rf0 := XR8.out.f 0 rfl
    have r1 := XR8.out.c 1 rfl
    have rf1 := XR8.out.f 1 rfl
    have r2 := XR8.out.c 2 rfl
    have rf2 := XR8.out.f 2 rfl
    have rz := XR8.out.size
    have s0 := XS8.out.c 0 rfl
    have sf0 := XS8.out.f 0 rfl
    have s1 := XS8.out.c 1 rfl
    have sf1 := XS8.out.f 1 rfl
    have s2 := XS8.out.c 2 rfl
    have sf2 := XS8.out.f 2 rfl
    have sz := XS8.out.size
    go_wp2
    refine bodyPost_ret (v := .agg #[.int .i64 1, .int .i64 (a0 - 4), .int .i64 (b0 - 20)]) (by simp [results, Tryz.results33, go_sem, r0, r1, r2]) rfl ⟨⟨_, _, _, rfl⟩, k8, sd8, by omega, ?_, ?_⟩
    · exact (((C8.out.other (a := ⟨w.heap.size, 0, none⟩) (by dsimp only; omega) _).other (a := ⟨w.heap.size, 1, none⟩) (by dsimp only; omega) _).other (a := ⟨w.heap.size, 2, none⟩) (by dsimp only; omega) _)
    · exact (((hR8.set (a := ⟨w.heap.size, 0, none⟩) (by dsimp only; omega) _).set (a := ⟨w.heap.size, 1, none⟩) (by dsimp only; omega) _).set (a := ⟨w.heap.size, 2, none⟩) (by dsimp only; omega) _)
  · have r0 := XR2.out.c 0 rfl
    have rf0 := XR2.out.f 0 rfl
    have r1 := XR2.out.c 1 rfl
    have rf1 := XR2.out.f 1 rfl
    have r2 := XR2.out.c 2 rfl
    have rf2 := XR2.out.f 2 rfl
    have rz := XR2.out.size
    obtain ⟨w3, hV⟩ : ∃ V, V = w2.alloc (.cells #[.int .i64 2, .int .i64 0, .int .i64 0] 32) := ⟨_, rfl⟩
    have XR3 := hid (XR2.out.alloc (.cells #[.int .i64 2, .int .i64 0, .int .i64 0] 32))
    rw [← hV] at XR3
    have C3 := hid (C2.out.later (below1 w2 (.cells #[.int .i64 2, .int .i64 0, .int .i64 0] 32)))
    rw [← hV] at C3
    have hR3 : Grew p w w3 := by rw [hV]; exact hR2.trans (Grew.alloc p _ _)
    have hz3 : w2.heap.size ≤ w3.heap.size := by rw [hV]; simp
    have H3 := hid hV
    clear hV XR2 C2
    have XS3 : Hid (Bx w3 w2.heap.size [.int .i64 2, .int .i64 0, .int .i64 0]) := by rw [H3.out]; exact Bx.new [.int .i64 2, .int .i64 0, .int .i64 0] _ rfl
    have hy3 : w2.heap.size < w3.heap.size := XS3.out.size
    go_wp2_with fail
    clear r0 rf0 r1 rf1 r2 rf2 rz
    rw [← H3.out]
    clear H3
    refine (pick_any 5 p co cap bs k2 sd2 w3 hl (by omega) C3.out).mono ?_
    rintro e w4 ⟨⟨a0, rfl, h0a0, h1a0⟩, hD⟩
    obtain ⟨k4, sd4, hk4, hC4, hg4, hsz4⟩ := hD.grew
    have XR4 := hid (XR3.out.grew hg4 (by omega))
    have XS4 := hid (XS3.out.grew hg4 (by omega))
    have C4 := hid hC4
    have hR4 : Grew p w w4 := hR3.trans hg4
    have hz4 : w3.heap.size ≤ w4.heap.size := hg4.size
    clear XR3 XS3 C3 hD hg4 hC4 hsz4
    have r0 := XR4.out.c 0 rfl
    have rf0 := XR4.out.f 0 rfl
    have r1 := XR4.out.c 1 rfl
    have rf1 := XR4.out.f 1 rfl
    have r2 := XR4.out.c 2 rfl
    have rf2 := XR4.out.f 2 rfl
    have rz := XR4.out.size
    have s0 := XS4.out.c 0 rfl
    have sf0 := XS4.out.f 0 rfl
    have s1 := XS4.out.c 1 rfl
    have sf1 := XS4.out.f 1 rfl
    have s2 := XS4.out.c 2 rfl
    have sf2 := XS4.out.f 2 rfl
    have sz := XS4.out.size
    obtain ⟨w5, hV⟩ : ∃ V, V = (w4.setCell ⟨w2.heap.size, 1, none⟩ (.int .i64 (1 + a0))) := ⟨_, rfl⟩
    have XR5 := hid ((XR4.out.other (a := ⟨w2.heap.size, 1, none⟩) (by dsimp only; omega) (.int .i64 (1 + a0))))
    rw [← hV] at XR5
    have XS5 := hid ((XS4.out.set 1 (.int .i64 (1 + a0))))
    rw [← hV] at XS5
    have C5 := hid ((C4.out.other (a := ⟨w2.heap.size, 1, none⟩) (by dsimp only; omega) (.int .i64 (1 + a0))))
    rw [← hV] at C5
    have hR5 : Grew p w w5 := by rw [hV]; exact (hR4.set (a := ⟨w2.heap.size, 1, none⟩) (by dsimp only; omega) (.int .i64 (1 + a0)))
    have hz5 : w4.heap.size ≤ w5.heap.size := by rw [hV]; simp
    have H5 := hid hV
    clear hV XR4 XS4 C4
    go_upto_region 4 with fail
    clear r0 rf0 r1 rf1 r2 rf2 rz s0 sf0 s1 sf1 s2 sf2 sz
    rw [← H5.out]
    clear H5
    have r0 := XR5.out.c 0 rfl
    have rf0 := XR5.out.f 0 rfl
    have r1 := XR5.out.c 1 rfl
    have rf1 := XR5.out.f 1 rfl
    have r2 := XR5.out.c 2 rfl
    have rf2 := XR5.out.f 2 rfl
    have rz := XR5.out.size
    have s0 := XS5.out.c 0 rfl
    have sf0 := XS5.out.f 0 rfl
    have s1 := XS5.out.c 1 rfl
    have sf1 := XS5.out.f 1 rfl
    have s2 := XS5.out.c 2 rfl
    have sf2 := XS5.out.f 2 rfl
    have sz := XS5.out.size
    go_wp2_with fail
    clear r0 rf0 r1 rf1 r2 rf2 rz s0 sf0 s1 sf1 s2 sf2 sz
    refine (pick_any (1 + a0) p co cap bs k4 sd4 w5 hl (by omega) C5.out).mono ?_
    rintro e w6 ⟨⟨b0, rfl, h0b0, h1b0⟩, hD⟩
    obtain ⟨k6, sd6, hk6, hC6, hg6, hsz6⟩ := hD.grew
    have XR6 := hid (XR5.out.grew hg6 (by omega))
    have XS6 := hid (XS5.out.grew hg6 (by omega))
    have C6 := hid hC6
    have hR6 : Grew p w w6 := hR5.trans hg6
    have hz6 : w5.heap.size ≤ w6.heap.size := hg6.size
    clear XR5 XS5 C5 hD hg6 hC6 hsz6
    have r0 := XR6.out.c 0 rfl
    have rf0 := XR6.out.f 0 rfl
    have r1 := XR6.out.c 1 rfl
    have rf1 := XR6.out.f 1 rfl
    have r2 := XR6.out.c 2 rfl
    have rf2 := XR6.out.f 2 rfl
    have rz := XR6.out.size
    have s0 := XS6.out.c 0 rfl
    have sf0 := XS6.out.f 0 rfl
    have s1 := XS6.out.c 1 rfl
    have sf1 := XS6.out.f 1 rfl
    have s2 := XS6.out.c 2 rfl
    have sf2 := XS6.out.f 2 rfl
    have sz := XS6.out.size
    obtain ⟨w7, hV⟩ : ∃ V, V = (w6.setCell ⟨w2.heap.size, 2, none⟩ (.int .i64 b0)) := ⟨_, rfl⟩
    have XR7 := hid ((XR6.out.other (a := ⟨w2.heap.size, 2, none⟩) (by dsimp only; omega) (.int .i64 b0)))
    rw [← hV] at XR7
    have XS7 := hid ((XS6.out.set 2 (.int .i64 b0)))
    rw [← hV] at XS7
    have C7 := hid ((C6.out.other (a := ⟨w2.heap.size, 2, none⟩) (by dsimp only; omega) (.int .i64 b0)))
    rw [← hV] at C7
    have hR7 : Grew p w w7 := by rw [hV]; exact (hR6.set (a := ⟨w2.heap.size, 2, none⟩) (by dsimp only; omega) (.int .i64 b0))
    have hz7 : w6.heap.size ≤ w7.heap.size := by rw [hV]; simp
    have H7 := hid hV
    clear hV XR6 XS6 C6
    go_upto_region 11 with fail
    clear r0 rf0 r1 rf1 r2 rf2 rz s0 sf0 s1 sf1 s2 sf2 sz
    rw [← H7.out]
    clear H7
    have r0 := XR7.out.c 0 rfl
    have rf0 := XR7.out.f 0 rfl
    have r1 := XR7.out.c 1 rfl
    have rf1 := XR7.out.f 1 rfl
    have r2 := XR7.out.c 2 rfl
    have rf2 := XR7.out.f 2 rfl
    have rz := XR7.out.size
    have s0 := XS7.out.c 0 rfl
    have sf0 := XS7.out.f 0 rfl
    have s1 := XS7.out.c 1 rfl
    have sf1 := XS7.out.f 1 rfl
    have s2 := XS7.out.c 2 rfl
    have sf2 := XS7.out.f 2 rfl
    have sz := XS7.out.size
    go_wp2_with fail
    clear r0 rf0 r1 rf1 r2 rf2 rz s0 sf0 s1 sf1 s2 sf2 sz
    refine (pick_any 60 p co cap bs k6 sd6 w7 hl (by omega) C7.out).mono ?_
    rintro e w8 ⟨⟨y, rfl, h0y, h1y⟩, hD⟩
    obtain ⟨k8, sd8, hk8, hC8, hg8, hsz8⟩ := hD.grew
    have XR8 := hid (XR7.out.grew hg8 (by omega))
    have XS8 := hid (XS7.out.grew hg8 (by omega))
    have C8 := hid hC8
    have hR8 : Grew p w w8 := hR7.trans hg8
    have hz8 : w7.heap.size ≤ w8.heap.size := hg8.size
    clear XR7 XS7 C7 hD hg8 hC8 hsz8
    by_cases hy0 : y = 0
    case pos =>
      subst hy0
      have r0 := XR8.out.c 0 rfl
      have rf0 := XR8.out.f 0 rfl
      have r1 := XR8.out.c 1 rfl
      have rf1 := XR8.out.f 1 rfl
      have r2 := XR8.out.c 2 rfl
      have rf2 := XR8.out.f 2 rfl
      have rz := XR8.out.size
      have s0 := XS8.out.c 0 rfl
      have sf0 := XS8.out.f 0 rfl
      have s1 := XS8.out.c 1 rfl
      have sf1 := XS8.out.f 1 rfl
      have s2 := XS8.out.c 2 rfl
      have sf2 := XS8.out.f 2 rfl
      have sz := XS8.out.size
      obtain ⟨w9, hV⟩ : ∃ V, V = w8.alloc (.cells #[.int .i64 0, .int .i64 5] 3) := ⟨_, rfl⟩
      have XR9 := hid (XR8.out.alloc (.cells #[.int .i64 0, .int .i64 5] 3))
      rw [← hV] at XR9
      have XS9 := hid (XS8.out.alloc (.cells #[.int .i64 0, .int .i64 5] 3))
      rw [← hV] at XS9
      have C9 := hid (C8.out.later (below1 w8 (.cells #[.int .i64 0, .int .i64 5] 3)))
      rw [← hV] at C9
      have hR9 : Grew p w w9 := by rw [hV]; exact hR8.trans (Grew.alloc p _ _)
      have hz9 : w8.heap.size ≤ w9.heap.size := by rw [hV]; simp
      have H9 := hid hV
      clear hV XR8 XS8 C8
      have XU9 : Hid (Bx w9 w8.heap.size [.int .i64 0, .int .i64 5]) := by rw [H9.out]; exact Bx.new [.int .i64 0, .int .i64 5] _ rfl
      have hy9 : w8.heap.size < w9.heap.size := XU9.out.size
      go_wp2_with fail
      clear r0 rf0 r1 rf1 r2 rf2 rz s0 sf0 s1 sf1 s2 sf2 sz
      rw [← H9.out]
      clear H9
      refine (among_some [0, 5] w8.heap.size p co cap bs k8 sd8 w9 hl (by omega) C9.out (by simp) (by simp) XU9.out (by omega)).mono ?_
      rintro e w10 ⟨⟨z, rfl⟩, hD⟩
      obtain ⟨k10, sd10, hk10, hC10, hg10, hsz10⟩ := hD.grew
      have XR10 := hid (XR9.out.grew hg10 (by omega))
      have XS10 := hid (XS9.out.grew hg10 (by omega))
      have XU10 := hid (XU9.out.grew hg10 (by omega))
      have C10 := hid hC10
      have hR10 : Grew p w w10 := hR9.trans hg10
      have hz10 : w9.heap.size ≤ w10.heap.size := hg10.size
      clear XR9 XS9 XU9 C9 hD hg10 hC10 hsz10
      have r0 := XR10.out.c 0 rfl
      have rf0 := XR10.out.f 0 rfl
      have r1 := XR10.out.c 1 rfl
      have rf1 := XR10.out.f 1 rfl
      have r2 := XR10.out.c 2 rfl
      have rf2 := XR10.out.f 2 rfl
      have rz := XR10.out.size
      have s0 := XS10.out.c 0 rfl
      have sf0 := XS10.out.f 0 rfl
      have s1 := XS10.out.c 1 rfl
      have sf1 := XS10.out.f 1 rfl
      have s2 := XS10.out.c 2 rfl
      have sf2 := XS10.out.f 2 rfl
      have sz := XS10.out.size
      obtain ⟨w11, hV⟩ : ∃ V, V = (w10.setCell ⟨w2.heap.size, 0, none⟩ (.int .i64 z)) := ⟨_, rfl⟩
      have XR11 := hid ((XR10.out.other (a := ⟨w2.heap.size, 0, none⟩) (by dsimp only; omega) (.int .i64 z)))
      rw [← hV] at XR11
      have XS11 := hid ((XS10.out.set 0 (.int .i64 z)))
      rw [← hV] at XS11
      have C11 := hid ((C10.out.other (a := ⟨w2.heap.size, 0, none⟩) (by dsimp only; omega) (.int .i64 z)))
      rw [← hV] at C11
      have hR11 : Grew p w w11 := by rw [hV]; exact (hR10.set (a := ⟨w2.heap.size, 0, none⟩) (by dsimp only; omega) (.int .i64 z))
      have hz11 : w10.heap.size ≤ w11.heap.size := by rw [hV]; simp
      have H11 := hid hV
      clear hV XR10 XS10 C10
      go_upto_region 18 with fail
      clear r0 rf0 r1 rf1 r2 rf2 rz s0 sf0 s1 sf1 s2 sf2 sz
      rw [← H11.out]
      clear H11
      have r0 := XR11.out.c 0 rfl
      have rf0 := XR11.out.f 0 rfl
      have r1 := XR11.out.c 1 rfl
      have rf1 := XR11.out.f 1 rfl
      have r2 := XR11.out.c 2 rfl
      have rf2 := XR11.out.f 2 rfl
      have rz := XR11.out.size
      have s0 := XS11.out.c 0 rfl
      have sf0 := XS11.out.f 0 rfl
      have s1 := XS11.out.c 1 rfl
      have sf1 := XS11.out.f 1 rfl
      have s2 := XS11.out.c 2 rfl
      have sf2 := XS11.out.f 2 rfl
      have sz := XS11.out.size
      go_wp2
      refine bodyPost_ret (v := .agg #[.int .i64 z, .int .i64 (1 + a0), .int .i64 b0]) (by simp [results, Tryz.results33, go_sem, r0, r1, r2]) rfl ⟨⟨_, _, _, rfl⟩, k10, sd10, by omega, ?_, ?_⟩
      · exact (((C11.out.other (a := ⟨w.heap.size, 0, none⟩) (by dsimp only; omega) _).other (a := ⟨w.heap.size, 1, none⟩) (by dsimp only; omega) _).other (a := ⟨w.heap.size, 2, none⟩) (by dsimp only; omega) _)
      · exact (((hR11.set (a := ⟨w.heap.size, 0, none⟩) (by dsimp only; omega) _).set (a := ⟨w.heap.size, 1, none⟩) (by dsimp only; omega) _).set (a := ⟨w.heap.size, 2, none⟩) (by dsimp only; omega) _)
    by_cases hy1 : y = 1
    case pos =>
      subst hy1
      have r0 := XR8.out.c 0 rfl
      have rf0 := XR8.out.f 0 rfl
      have r1 := XR8.out.c 1 rfl
      have rf1 := XR8.out.f 1 rfl
      have r2 := XR8.out.c 2 rfl
      have rf2 := XR8.out.f 2 rfl
      have rz := XR8.out.size
      have s0 := XS8.out.c 0 rfl
      have sf0 := XS8.out.f 0 rfl
      have s1 := XS8.out.c 1 rfl
      have sf1 := XS8.out.f 1 rfl
      have s2 := XS8.out.c 2 rfl
      have sf2 := XS8.out.f 2 rfl
      have sz := XS8.out.size
      obtain ⟨w9, hV⟩ : ∃ V, V = w8.alloc (.cells #[.int .i64 (-100), .int .i64 (-101), .int .i64 100, .int .i64 101, .int .i64 0, .int .i64 3, .int .i64 4, .int .i64 1000, .int .i64 1001] 3) := ⟨_, rfl⟩
      have XR9 := hid (XR8.out.alloc (.cells #[.int .i64 (-100), .int .i64 (-101), .int .i64 100, .int .i64 101, .int .i64 0, .int .i64 3, .int .i64 4, .int .i64 1000, .int .i64 1001] 3))
      rw [← hV] at XR9
      have XS9 := hid (XS8.out.alloc (.cells #[.int .i64 (-100), .int .i64 (-101), .int .i64 100, .int .i64 101, .int .i64 0, .int .i64 3, .int .i64 4, .int .i64 1000, .int .i64 1001] 3))
      rw [← hV] at XS9
      have C9 := hid (C8.out.later (below1 w8 (.cells #[.int .i64 (-100), .int .i64 (-101), .int .i64 100, .int .i64 101, .int .i64 0, .int .i64 3, .int .i64 4, .int .i64 1000, .int .i64 1001] 3)))
      rw [← hV] at C9
      have hR9 : Grew p w w9 := by rw [hV]; exact hR8.trans (Grew.alloc p _ _)
      have hz9 : w8.heap.size ≤ w9.heap.size := by rw [hV]; simp
      have H9 := hid hV
      clear hV XR8 XS8 C8
      have XU9 : Hid (Bx w9 w8.heap.size [.int .i64 (-100), .int .i64 (-101), .int .i64 100, .int .i64 101, .int .i64 0, .int .i64 3, .int .i64 4, .int .i64 1000, .int .i64 1001]) := by rw [H9.out]; exact Bx.new [.int .i64 (-100), .int .i64 (-101), .int .i64 100, .int .i64 101, .int .i64 0, .int .i64 3, .int .i64 4, .int .i64 1000, .int .i64 1001] _ rfl
      have hy9 : w8.heap.size < w9.heap.size := XU9.out.size
      go_wp2_with fail
      clear r0 rf0 r1 rf1 r2 rf2 rz s0 sf0 s1 sf1 s2 sf2 sz
      rw [← H9.out]
      clear H9
      refine (among_some [-100, -101, 100, 101, 0, 3, 4, 1000, 1001] w8.heap.size p co cap bs k8 sd8 w9 hl (by omega) C9.out (by simp) (by simp) XU9.out (by omega)).mono ?_
      rintro e w10 ⟨⟨z, rfl⟩, hD⟩
      obtain ⟨k10, sd10, hk10, hC10, hg10, hsz10⟩ := hD.grew
      have XR10 := hid (XR9.out.grew hg10 (by omega))
      have XS10 := hid (XS9.out.grew hg10 (by omega))
      have XU10 := hid (XU9.out.grew hg10 (by omega))
      have C10 := hid hC10
      have hR10 : Grew p w w10 := hR9.trans hg10
      have hz10 : w9.heap.size ≤ w10.heap.size := hg10.size
      clear XR9 XS9 XU9 C9 hD hg10 hC10 hsz10
      have r0 := XR10.out.c 0 rfl
      have rf0 := XR10.out.f 0 rfl
      have r1 := XR10.out.c 1 rfl
      have rf1 := XR10.out.f 1 rfl
      have r2 := XR10.out.c 2 rfl
      have rf2 := XR10.out.f 2 rfl
      have rz := XR10.out.size
      have s0 := XS10.out.c 0 rfl
      have sf0 := XS10.out.f 0 rfl
      have s1 := XS10.out.c 1 rfl
      have sf1 := XS10.out.f 1 rfl
      have s2 := XS10.out.c 2 rfl
      have sf2 := XS10.out.f 2 rfl
      have sz := XS10.out.size
      obtain ⟨w11, hV⟩ : ∃ V, V = (w10.setCell ⟨w2.heap.size, 1, none⟩ (.int .i64 z)) := ⟨_, rfl⟩
      have XR11 := hid ((XR10.out.other (a := ⟨w2.heap.size, 1, none⟩) (by dsimp only; omega) (.int .i64 z)))
      rw [← hV] at XR11
      have XS11 := hid ((XS10.out.set 1 (.int .i64 z)))
      rw [← hV] at XS11
      have C11 := hid ((C10.out.other (a := ⟨w2.heap.size, 1, none⟩) (by dsimp only; omega) (.int .i64 z)))
      rw [← hV] at C11
      have hR11 : Grew p w w11 := by rw [hV]; exact (hR10.set (a := ⟨w2.heap.size, 1, none⟩) (by dsimp only; omega) (.int .i64 z))
      have hz11 : w10.heap.size ≤ w11.heap.size := by rw [hV]; simp
      have H11 := hid hV
      clear hV XR10 XS10 C10
      go_upto_region 18 with fail
      clear r0 rf0 r1 rf1 r2 rf2 rz s0 sf0 s1 sf1 s2 sf2 sz
      rw [← H11.out]
      clear H11
      have r0 := XR11.out.c 0 rfl
      have rf0 := XR11.out.f 0 rfl
      have r1 := XR11.out.c 1 rfl
      have rf1 := XR11.out.f 1 rfl
      have r2 := XR11.out.c 2 rfl
      have rf2 := XR11.out.f 2 rfl
      have rz := XR11.out.size
      have s0 := XS11.out.c 0 rfl
      have sf0 := XS11.out.f 0 rfl
      have s1 := XS11.out.c 1 rfl
      have sf1 := XS11.out.f 1 rfl
      have s2 := XS11.out.c 2 rfl
      have sf2 := XS11.out.f 2 rfl
      have sz := XS11.out.size
      go_wp2
      refine bodyPost_ret (v := .agg #[.int .i64 2, .int .i64 z, .int .i64 b0]) (by simp [results, Tryz.results33, go_sem, r0, r1, r2]) rfl ⟨⟨_, _, _, rfl⟩, k10, sd10, by omega, ?_, ?_⟩
      · exact (((C11.out.other (a := ⟨w.heap.size, 0, none⟩) (by dsimp only; omega) _).other (a := ⟨w.heap.size, 1, none⟩) (by dsimp only; omega) _).other (a := ⟨w.heap.size, 2, none⟩) (by dsimp only; omega) _)
      · exact (((hR11.set (a := ⟨w.heap.size, 0, none⟩) (by dsimp only; omega) _).set (a := ⟨w.heap.size, 1, none⟩) (by dsimp only; omega) _).set (a := ⟨w.heap.size, 2, none⟩) (by dsimp only; omega) _)
    by_cases hy2 : y = 2
    case pos =>
      subst hy2
      have r0 := XR8.out.c 0 rfl
      have rf0 := XR8.out.f 0 rfl
      have r1 := XR8.out.c 1 rfl
      have rf1 := XR8.out.f 1 rfl
      have r2 := XR8.out.c 2 rfl
      have rf2 := XR8.out.f 2 rfl
      have rz := XR8.out.size
      have s0 := XS8.out.c 0 rfl
      have sf0 := XS8.out.f 0 rfl
      have s1 := XS8.out.c 1 rfl
      have sf1 := XS8.out.f 1 rfl
      have s2 := XS8.out.c 2 rfl
      have sf2 := XS8.out.f 2 rfl
      have sz := XS8.out.size
      obtain ⟨w9, hV⟩ : ∃ V, V = w8.alloc (.cells #[.int .i64 1000000, .int .i64 1000001, .int .i64 (-1), .int .i64 1000, .int .i64 1001, .int .i64 (1 + a0)] 3) := ⟨_, rfl⟩
      have XR9 := hid (XR8.out.alloc (.cells #[.int .i64 1000000, .int .i64 1000001, .int .i64 (-1), .int .i64 1000, .int .i64 1001, .int .i64 (1 + a0)] 3))
      rw [← hV] at XR9
      have XS9 := hid (XS8.out.alloc (.cells #[.int .i64 1000000, .int .i64 1000001, .int .i64 (-1), .int .i64 1000, .int .i64 1001, .int .i64 (1 + a0)] 3))
      rw [← hV] at XS9
      have C9 := hid (C8.out.later (below1 w8 (.cells #[.int .i64 1000000, .int .i64 1000001, .int .i64 (-1), .int .i64 1000, .int .i64 1001, .int .i64 (1 + a0)] 3)))
      rw [← hV] at C9
      have hR9 : Grew p w w9 := by rw [hV]; exact hR8.trans (Grew.alloc p _ _)
      have hz9 : w8.heap.size ≤ w9.heap.size := by rw [hV]; simp
      have H9 := hid hV
      clear hV XR8 XS8 C8
      have XU9 : Hid (Bx w9 w8.heap.size [.int .i64 1000000, .int .i64 1000001, .int .i64 (-1), .int .i64 1000, .int .i64 1001, .int .i64 (1 + a0)]) := by rw [H9.out]; exact Bx.new [.int .i64 1000000, .int .i64 1000001, .int .i64 (-1), .int .i64 1000, .int .i64 1001, .int .i64 (1 + a0)] _ rfl
      have hy9 : w8.heap.size < w9.heap.size := XU9.out.size
      go_wp2_with fail
      clear r0 rf0 r1 rf1 r2 rf2 rz s0 sf0 s1 sf1 s2 sf2 sz
      rw [← H9.out]
      clear H9
      refine (among_some [1000000, 1000001, -1, 1000, 1001, (1 + a0)] w8.heap.size p co cap bs k8 sd8 w9 hl (by omega) C9.out (by simp) (by simp) XU9.out (by omega)).mono ?_
      rintro e w10 ⟨⟨z, rfl⟩, hD⟩
      obtain ⟨k10, sd10, hk10, hC10, hg10, hsz10⟩ := hD.grew
      have XR10 := hid (XR9.out.grew hg10 (by omega))
      have XS10 := hid (XS9.out.grew hg10 (by omega))
      have XU10 := hid (XU9.out.grew hg10 (by omega))
      have C10 := hid hC10
      have hR10 : Grew p w w10 := hR9.trans hg10
      have hz10 : w9.heap.size ≤ w10.heap.size := hg10.size
      clear XR9 XS9 XU9 C9 hD hg10 hC10 hsz10
      have r0 := XR10.out.c 0 rfl
      have rf0 := XR10.out.f 0 rfl
      have r1 := XR10.out.c 1 rfl
      have rf1 := XR10.out.f 1 rfl
      have r2 := XR10.out.c 2 rfl
      have rf2 := XR10.out.f 2 rfl
      have rz := XR10.out.size
      have s0 := XS10.out.c 0 rfl
      have sf0 := XS10.out.f 0 rfl
      have s1 := XS10.out.c 1 rfl
      have sf1 := XS10.out.f 1 rfl
      have s2 := XS10.out.c 2 rfl
      have sf2 := XS10.out.f 2 rfl
      have sz := XS10.out.size
      obtain ⟨w11, hV⟩ : ∃ V, V = (w10.setCell ⟨w2.heap.size, 2, none⟩ (.int .i64 z)) := ⟨_, rfl⟩
      have XR11 := hid ((XR10.out.other (a := ⟨w2.heap.size, 2, none⟩) (by dsimp only; omega) (.int .i64 z)))
      rw [← hV] at XR11
      have XS11 := hid ((XS10.out.set 2 (.int .i64 z)))
      rw [← hV] at XS11
      have C11 := hid ((C10.out.other (a := ⟨w2.heap.size, 2, none⟩) (by dsimp only; omega) (.int .i64 z)))
      rw [← hV] at C11
      have hR11 : Grew p w w11 := by rw [hV]; exact (hR10.set (a := ⟨w2.heap.size, 2, none⟩) (by dsimp only; omega) (.int .i64 z))
      have hz11 : w10.heap.size ≤ w11.heap.size := by rw [hV]; simp
      have H11 := hid hV
      clear hV XR10 XS10 C10
      go_upto_region 18 with fail
      clear r0 rf0 r1 rf1 r2 rf2 rz s0 sf0 s1 sf1 s2 sf2 sz
      rw [← H11.out]
      clear H11
      have r0 := XR11.out.c 0 rfl
      have rf0 := XR11.out.f 0 rfl
      have r1 := XR11.out.c 1 rfl
      have rf1 := XR11.out.f 1 rfl
      have r2 := XR11.out.c 2 rfl
      have rf2 := XR11.out.f 2 rfl
      have rz := XR11.out.size
      have s0 := XS11.out.c 0 rfl
      have sf0 := XS11.out.f 0 rfl
      have s1 := XS11.out.c 1 rfl
      have sf1 := XS11.out.f 1 rfl
      have s2 := XS11.out.c 2 rfl
      have sf2 := XS11.out.f 2 rfl
      have sz := XS11.out.size
      go_wp2
      refine bodyPost_ret (v := .agg #[.int .i64 2, .int .i64 (1 + a0), .int .i64 z]) (by simp [results, Tryz.results33, go_sem, r0, r1, r2]) rfl ⟨⟨_, _, _, rfl⟩, k10, sd10, by omega, ?_, ?_⟩
      · exact (((C11.out.other (a := ⟨w.heap.size, 0, none⟩) (by dsimp only; omega) _).other (a := ⟨w.heap.size, 1, none⟩) (by dsimp only; omega) _).other (a := ⟨w.heap.size, 2, none⟩) (by dsimp only; omega) _)
      · exact (((hR11.set (a := ⟨w.heap.size, 0, none⟩) (by dsimp only; omega) _).set (a := ⟨w.heap.size, 1, none⟩) (by dsimp only; omega) _).set (a := ⟨w.heap.size, 2, none⟩) (by dsimp only; omega) _)
    have ey0 : (y == 0) = false := by simpa using hy0
    have ey1 : (y == 1) = false := by simpa using hy1
    have ey2 : (y == 2) = false := by simpa using hy2
    have r0 := XR8.out.c 0 rfl
    have rf0 := XR8.out.f 0 rfl
    have r1 := XR8.out.c 1 rfl
    have rf1 := XR8.out.f 1 rfl
    have r2 := XR8.out.c 2 rfl
    have rf2 := XR8.out.f 2 rfl
    have rz := XR8.out.size
    have s0 := XS8.out.c 0 rfl
    have sf0 := XS8.out.f 0 rfl
    have s1 := XS8.out.c 1 rfl
    have sf1 := XS8.out.f 1 rfl
    have s2 := XS8.out.c 2 rfl
    have sf2 := XS8.out.f 2 rfl
    have sz := XS8.out.size
    go_wp2
    refine bodyPost_ret (v := .agg #[.int .i64 2, .int .i64 (1 + a0), .int .i64 b0]) (by simp [results, Tryz.results33, go_sem, r0, r1, r2]) rfl ⟨⟨_, _, _, rfl⟩, k8, sd8, by omega, ?_, ?_⟩
    · exact (((C8.out.other (a := ⟨w.heap.size, 0, none⟩) (by dsimp only; omega) _).other (a := ⟨w.heap.size, 1, none⟩) (by dsimp only; omega) _).other (a := ⟨w.heap.size, 2, none⟩) (by dsimp only; omega) _)
    · exact (((hR8.set (a := ⟨w.heap.size, 0, none⟩) (by dsimp only; omega) _).set (a := ⟨w.heap.size, 1, none⟩) (by dsimp only; omega) _).set (a := ⟨w.heap.size, 2, none⟩) (by dsimp only; omega) _)
  · have r0 := XR2.out.c 0 rfl
    have rf0 := XR2.out.f 0 rfl
    have r1 := XR2.out.c 1 rfl
    have rf1 := XR2.out.f 1 rfl
    have r2 := XR2.out.c 2 rfl
    have rf2 := XR2.out.f 2 rfl
    have rz := XR2.out.size
    obtain ⟨w3, hV⟩ : ∃ V, V = w2.alloc (.cells #[.int .i64 3, .int .i64 0, .int .i64 0] 32) := ⟨_, rfl⟩
    have XR3 := hid (XR2.out.alloc (.cells #[.int .i64 3, .int .i64 0, .int .i64 0] 32))
    rw [← hV] at XR3
    have C3 := hid (C2.out.later (below1 w2 (.cells #[.int .i64 3, .int .i64 0, .int .i64 0] 32)))
    rw [← hV] at C3
    have hR3 : Grew p w w3 := by rw [hV]; exact hR2.trans (Grew.alloc p _ _)
    have hz3 : w2.heap.size ≤ w3.heap.size := by rw [hV]; simp
    have H3 := hid hV
    clear hV XR2 C2
    have XS3 : Hid (Bx w3 w2.heap.size [.int .i64 3, .int .i64 0, .int .i64 0]) := by rw [H3.out]; exact Bx.new [.int .i64 3, .int .i64 0, .int .i64 0] _ rfl
    have hy3 : w2.heap.size < w3.heap.size := XS3.out.size
    go_wp2_with fail
    clear r0 rf0 r1 rf1 r2 rf2 rz
    rw [← H3.out]
    clear H3
    refine (pick_any 3 p co cap bs k2 sd2 w3 hl (by omega) C3.out).mono ?_
    rintro e w4 ⟨⟨a0, rfl, h0a0, h1a0⟩, hD⟩
    obtain ⟨k4, sd4, hk4, hC4, hg4, hsz4⟩ := hD.grew
    have XR4 := hid (XR3.out.grew hg4 (by omega))
    have XS4 := hid (XS3.out.grew hg4 (by omega))
    have C4 := hid hC4
    have hR4 : Grew p w w4 := hR3.trans hg4
    have hz4 : w3.heap.size ≤ w4.heap.size := hg4.size
    clear XR3 XS3 C3 hD hg4 hC4 hsz4
    have r0 := XR4.out.c 0 rfl
    have rf0 := XR4.out.f 0 rfl
    have r1 := XR4.out.c 1 rfl
    have rf1 := XR4.out.f 1 rfl
    have r2 := XR4.out.c 2 rfl
    have rf2 := XR4.out.f 2 rfl
    have rz := XR4.out.size
    have s0 := XS4.out.c 0 rfl
    have sf0 := XS4.out.f 0 rfl
    have s1 := XS4.out.c 1 rfl
    have sf1 := XS4.out.f 1 rfl
    have s2 := XS4.out.c 2 rfl
    have sf2 := XS4.out.f 2 rfl
    have sz := XS4.out.size
    obtain ⟨w5, hV⟩ : ∃ V, V = (w4.setCell ⟨w2.heap.size, 1, none⟩ (.int .i64 (1 + a0))) := ⟨_, rfl⟩
    have XR5 := hid ((XR4.out.other (a := ⟨w2.heap.size, 1, none⟩) (by dsimp only; omega) (.int .i64 (1 + a0))))
    rw [← hV] at XR5
    have XS5 := hid ((XS4.out.set 1 (.int .i64 (1 + a0))))
    rw [← hV] at XS5
    have C5 := hid ((C4.out.other (a := ⟨w2.heap.size, 1, none⟩) (by dsimp only; omega) (.int .i64 (1 + a0))))
    rw [← hV] at C5
    have hR5 : Grew p w w5 := by rw [hV]; exact (hR4.set (a := ⟨w2.heap.size, 1, none⟩) (by dsimp only; omega) (.int .i64 (1 + a0)))
    have hz5 : w4.heap.size ≤ w5.heap.size := by rw [hV]; simp
    have H5 := hid hV
    clear hV XR4 XS4 C4
    go_upto_region 10 with fail
    clear r0 rf0 r1 rf1 r2 rf2 rz s0 sf0 s1 sf1 s2 sf2 sz
    rw [← H5.out]
    clear H5
    have r0 := XR5.out.c 0 rfl
    have rf0 := XR5.out.f 0 rfl
    have r1 := XR5.out.c 1 rfl
    have rf1 := XR5.out.f 1 rfl
    have r2 := XR5.out.c 2 rfl
    have rf2 := XR5.out.f 2 rfl
    have rz := XR5.out.size
    have s0 := XS5.out.c 0 rfl
    have sf0 := XS5.out.f 0 rfl
    have s1 := XS5.out.c 1 rfl
    have sf1 := XS5.out.f 1 rfl
    have s2 := XS5.out.c 2 rfl
    have sf2 := XS5.out.f 2 rfl
    have sz := XS5.out.size
    go_wp2_with fail
    clear r0 rf0 r1 rf1 r2 rf2 rz s0 sf0 s1 sf1 s2 sf2 sz
    refine (pick_any 9 p co cap bs k4 sd4 w5 hl (by omega) C5.out).mono ?_
    rintro e w6 ⟨⟨b0, rfl, h0b0, h1b0⟩, hD⟩
    obtain ⟨k6, sd6, hk6, hC6, hg6, hsz6⟩ := hD.grew
    have XR6 := hid (XR5.out.grew hg6 (by omega))
    have XS6 := hid (XS5.out.grew hg6 (by omega))
    have C6 := hid hC6
    have hR6 : Grew p w w6 := hR5.trans hg6
    have hz6 : w5.heap.size ≤ w6.heap.size := hg6.size
    clear XR5 XS5 C5 hD hg6 hC6 hsz6
    have r0 := XR6.out.c 0 rfl
    have rf0 := XR6.out.f 0 rfl
    have r1 := XR6.out.c 1 rfl
    have rf1 := XR6.out.f 1 rfl
    have r2 := XR6.out.c 2 rfl
    have rf2 := XR6.out.f 2 rfl
    have rz := XR6.out.size
    have s0 := XS6.out.c 0 rfl
    have sf0 := XS6.out.f 0 rfl
    have s1 := XS6.out.c 1 rfl
    have sf1 := XS6.out.f 1 rfl
    have s2 := XS6.out.c 2 rfl
    have sf2 := XS6.out.f 2 rfl
    have sz := XS6.out.size
    obtain ⟨w7, hV⟩ : ∃ V, V = (w6.setCell ⟨w2.heap.size, 2, none⟩ (.int .i64 (b0 - 4))) := ⟨_, rfl⟩
    have XR7 := hid ((XR6.out.other (a := ⟨w2.heap.size, 2, none⟩) (by dsimp only; omega) (.int .i64 (b0 - 4))))
    rw [← hV] at XR7
    have XS7 := hid ((XS6.out.set 2 (.int .i64 (b0 - 4))))
    rw [← hV] at XS7
    have C7 := hid ((C6.out.other (a := ⟨w2.heap.size, 2, none⟩) (by dsimp only; omega) (.int .i64 (b0 - 4))))
    rw [← hV] at C7
    have hR7 : Grew p w w7 := by rw [hV]; exact (hR6.set (a := ⟨w2.heap.size, 2, none⟩) (by dsimp only; omega) (.int .i64 (b0 - 4)))
    have hz7 : w6.heap.size ≤ w7.heap.size := by rw [hV]; simp
    have H7 := hid hV
    clear hV XR6 XS6 C6
    go_upto_region 11 with fail
    clear r0 rf0 r1 rf1 r2 rf2 rz s0 sf0 s1 sf1 s2 sf2 sz
    rw [← H7.out]
    clear H7
    have r0 := XR7.out.c 0 rfl
    have rf0 := XR7.out.f 0 rfl
    have r1 := XR7.out.c 1 rfl
    have rf1 := XR7.out.f 1 rfl
    have r2 := XR7.out.c 2 rfl
    have rf2 := XR7.out.f 2 rfl
    have rz := XR7.out.size
    have s0 := XS7.out.c 0 rfl
    have sf0 := XS7.out.f 0 rfl
    have s1 := XS7.out.c 1 rfl
    have sf1 := XS7.out.f 1 rfl
    have s2 := XS7.out.c 2 rfl
    have sf2 := XS7.out.f 2 rfl
    have sz := XS7.out.size
    go_wp2_with fail
    clear r0 rf0 r1 rf1 r2 rf2 rz s0 sf0 s1 sf1 s2 sf2 sz
    refine (pick_any 60 p co cap bs k6 sd6 w7 hl (by omega) C7.out).mono ?_
    rintro e w8 ⟨⟨y, rfl, h0y, h1y⟩, hD⟩
    obtain ⟨k8, sd8, hk8, hC8, hg8, hsz8⟩ := hD.grew
    have XR8 := hid (XR7.out.grew hg8 (by omega))
    have XS8 := hid (XS7.out.grew hg8 (by omega))
    have C8 := hid hC8
    have hR8 : Grew p w w8 := hR7.trans hg8
    have hz8 : w7.heap.size ≤ w8.heap.size := hg8.size
    clear XR7 XS7 C7 hD hg8 hC8 hsz8
    by_cases hy0 : y = 0
    case pos =>
      subst hy0
      have r0 := XR8.out.c 0 rfl
      have rf0 := XR8.out.f 0 rfl
      have r1 := XR8.out.c 1 rfl
      have rf1 := XR8.out.f 1 rfl
      have r2 := XR8.out.c 2 rfl
      have rf2 := XR8.out.f 2 rfl
      have rz := XR8.out.size
      have s0 := XS8.out.c 0 rfl
      have sf0 := XS8.out.f 0 rfl
      have s1 := XS8.out.c 1 rfl
      have sf1 := XS8.out.f 1 rfl
      have s2 := XS8.out.c 2 rfl
      have sf2 := XS8.out.f 2 rfl
      have sz := XS8.out.size
      obtain ⟨w9, hV⟩ : ∃ V, V = w8.alloc (.cells #[.int .i64 0, .int .i64 5] 3) := ⟨_, rfl⟩
      have XR9 := hid (XR8.out.alloc (.cells #[.int .i64 0, .int .i64 5] 3))
      rw [← hV] at XR9
      have XS9 := hid (XS8.out.alloc (.cells #[.int .i64 0, .int .i64 5] 3))
      rw [← hV] at XS9
      have C9 := hid (C8.out.later (below1 w8 (.cells #[.int .i64 0, .int .i64 5] 3)))
      rw [← hV] at C9
      have hR9 : Grew p w w9 := by rw [hV]; exact hR8.trans (Grew.alloc p _ _)
      have hz9 : w8.heap.size ≤ w9.heap.size := by rw [hV]; simp
      have H9 := hid hV
      clear hV XR8 XS8 C8
      have XU9 : Hid (Bx w9 w8.heap.size [.int .i64 0, .int .i64 5]) := by rw [H9.out]; exact Bx.new [.int .i64 0, .int .i64 5] _ rfl
      have hy9 : w8.heap.size < w9.heap.size := XU9.out.size
      go_wp2_with fail
      clear r0 rf0 r1 rf1 r2 rf2 rz s0 sf0 s1 sf1 s2 sf2 sz
      rw [← H9.out]
      clear H9
      refine (among_some [0, 5] w8.heap.size p co cap bs k8 sd8 w9 hl (by omega) C9.out (by simp) (by simp) XU9.out (by omega)).mono ?_
      rintro e w10 ⟨⟨z, rfl⟩, hD⟩
      obtain ⟨k10, sd10, hk10, hC10, hg10, hsz10⟩ := hD.grew
      have XR10 := hid (XR9.out.grew hg10 (by omega))
      have XS10 := hid (XS9.out.grew hg10 (by omega))
      have XU10 := hid (XU9.out.grew hg10 (by omega))
      have C10 := hid hC10
      have hR10 : Grew p w w10 := hR9.trans hg10
      have hz10 : w9.heap.size ≤ w10.heap.size := hg10.size
      clear XR9 XS9 XU9 C9 hD hg10 hC10 hsz10
      have r0 := XR10.out.c 0 rfl
      have rf0 := XR10.out.f 0 rfl
      have r1 := XR10.out.c 1 rfl
      have rf1 := XR10.out.f 1 rfl
      have r2 := XR10.out.c 2 rfl
      have rf2 := XR10.out.f 2 rfl
      have rz := XR10.out.size
      have s0 := XS10.out.c 0 rfl
      have sf0 := XS10.out.f 0 rfl
      have s1 := XS10.out.c 1 rfl
      have sf1 := XS10.out.f 1 rfl
      have s2 := XS10.out.c 2 rfl
      have sf2 := XS10.out.f 2 rfl
      have sz := XS10.out.size
      obtain ⟨w11, hV⟩ : ∃ V, V = (w10.setCell ⟨w2.heap.size, 0, none⟩ (.int .i64 z)) := ⟨_, rfl⟩
      have XR11 := hid ((XR10.out.other (a := ⟨w2.heap.size, 0, none⟩) (by dsimp only; omega) (.int .i64 z)))
      rw [← hV] at XR11
      have XS11 := hid ((XS10.out.set 0 (.int .i64 z)))
      rw [← hV] at XS11
      have C11 := hid ((C10.out.other (a := ⟨w2.heap.size, 0, none⟩) (by dsimp only; omega) (.int .i64 z)))
      rw [← hV] at C11
      have hR11 : Grew p w w11 := by rw [hV]; exact (hR10.set (a := ⟨w2.heap.size, 0, none⟩) (by dsimp only; omega) (.int .i64 z))
      have hz11 : w10.heap.size ≤ w11.heap.size := by rw [hV]; simp
      have H11 := hid hV
      clear hV XR10 XS10 C10
      go_upto_region 18 with fail
      clear r0 rf0 r1 rf1 r2 rf2 rz s0 sf0 s1 sf1 s2 sf2 sz
      rw [← H11.out]
      clear H11
      have r0 := XR11.out.c 0 rfl
      have rf0 := XR11.out.f 0 rfl
      have r1 := XR11.out.c 1 rfl
      have rf1 := XR11.out.f 1 rfl
      have r2 := XR11.out.c 2 rfl
      have rf2 := XR11.out.f 2 rfl
      have rz := XR11.out.size
      have s0 := XS11.out.c 0 rfl
      have sf0 := XS11.out.f 0 rfl
      have s1 := XS11.out.c 1 rfl
      have sf1 := XS11.out.f 1 rfl
      have s2 := XS11.out.c 2 rfl
      have sf2 := XS11.out.f 2 rfl
      have sz := XS11.out.size
      go_wp2
      refine bodyPost_ret (v := .agg #[.int .i64 z, .int .i64 (1 + a0), .int .i64 (b0 - 4)]) (by simp [results, Tryz.results33, go_sem, r0, r1, r2]) rfl ⟨⟨_, _, _, rfl⟩, k10, sd10, by omega, ?_, ?_⟩
      · exact (((C11.out.other (a := ⟨w.heap.size, 0, none⟩) (by dsimp only; omega) _).other (a := ⟨w.heap.size, 1, none⟩) (by dsimp only; omega) _).other (a := ⟨w.heap.size, 2, none⟩) (by dsimp only; omega) _)
      · exact (((hR11.set (a := ⟨w.heap.size, 0, none⟩) (by dsimp only; omega) _).set (a := ⟨w.heap.size, 1, none⟩) (by dsimp only; omega) _).set (a := ⟨w.heap.size, 2, none⟩) (by dsimp only; omega) _)
    by_cases hy1 : y = 1
    case pos =>
      subst hy1
      have r0 := XR8.out.c 0 rfl
      have rf0 := XR8.out.f 0 rfl
      have r1 := XR8.out.c 1 rfl
      have rf1 := XR8.out.f 1 rfl
      have r2 := XR8.out.c 2 rfl
      have rf2 := XR8.out.f 2 rfl
      have rz := XR8.out.size
      have s0 := XS8.out.c 0 rfl
      have sf0 := XS8.out.f 0 rfl
      have s1 := XS8.out.c 1 rfl
      have sf1 := XS8.out.f 1 rfl
      have s2 := XS8.out.c 2 rfl
      have sf2 := XS8.out.f 2 rfl
      have sz := XS8.out.size
      obtain ⟨w9, hV⟩ : ∃ V, V = w8.alloc (.cells #[.int .i64 (-100), .int .i64 (-101), .int .i64 100, .int .i64 101, .int .i64 0, .int .i64 3, .int .i64 4, .int .i64 1000, .int .i64 1001] 3) := ⟨_, rfl⟩
      have XR9 := hid (XR8.out.alloc (.cells #[.int .i64 (-100), .int .i64 (-101), .int .i64 100, .int .i64 101, .int .i64 0, .int .i64 3, .int .i64 4, .int .i64 1000, .int .i64 1001] 3))
      rw [← hV] at XR9
      have XS9 := hid (XS8.out.alloc (.cells #[.int .i64 (-100), .int .i64 (-101), .int .i64 100, .int .i64 101, .int .i64 0, .int .i64 3, .int .i64 4, .int .i64 1000, .int .i64 1001] 3))
      rw [← hV] at XS9
      have C9 := hid (C8.out.later (below1 w8 (.cells #[.int .i64 (-100), .int .i64 (-101), .int .i64 100, .int .i64 101, .int .i64 0, .int .i64 3, .int .i64 4, .int .i64 1000, .int .i64 1001] 3)))
      rw [← hV] at C9
      have hR9 : Grew p w w9 := by rw [hV]; exact hR8.trans (Grew.alloc p _ _)
      have hz9 : w8.heap.size ≤ w9.heap.size := by rw [hV]; simp
      have H9 := hid hV
      clear hV XR8 XS8 C8
      have XU9 : Hid (Bx w9 w8.heap.size [.int .i64 (-100), .int .i64 (-101), .int .i64 100, .int .i64 101, .int .i64 0, .int .i64 3, .int .i64 4, .int .i64 1000, .int .i64 1001]) := by rw [H9.out]; exact Bx.new [.int .i64 (-100), .int .i64 (-101), .int .i64 100, .int .i64 101, .int .i64 0, .int .i64 3, .int .i64 4, .int .i64 1000, .int .i64 1001] _ rfl
      have hy9 : w8.heap.size < w9.heap.size := XU9.out.size
      go_wp2_with fail
      clear r0 rf0 r1 rf1 r2 rf2 rz s0 sf0 s1 sf1 s2 sf2 sz
      rw [← H9.out]
      clear H9
      refine (among_some [-100, -101, 100, 101, 0, 3, 4, 1000, 1001] w8.heap.size p co cap bs k8 sd8 w9 hl (by omega) C9.out (by simp) (by simp) XU9.out (by omega)).mono ?_
      rintro e w10 ⟨⟨z, rfl⟩, hD⟩
      obtain ⟨k10, sd10, hk10, hC10, hg10, hsz10⟩ := hD.grew
      have XR10 := hid (XR9.out.grew hg10 (by omega))
      have XS10 := hid (XS9.out.grew hg10 (by omega))
      have XU10 := hid (XU9.out.grew hg10 (by omega))
      have C10 := hid hC10
      have hR10 : Grew p w w10 := hR9.trans hg10
      have hz10 : w9.heap.size ≤ w10.heap.size := hg10.size
      clear XR9 XS9 XU9 C9 hD hg10 hC10 hsz10
      have r0 := XR10.out.c 0 rfl
      have rf0 := XR10.out.f 0 rfl
      have r1 := XR10.out.c 1 rfl
      have rf1 := XR10.out.f 1 rfl
      have r2 := XR10.out.c 2 rfl
      have rf2 := XR10.out.f 2 rfl
      have rz := XR10.out.size
      have s0 := XS10.out.c 0 rfl
      have sf0 := XS10.out.f 0 rfl
      have s1 := XS10.out.c 1 rfl
      have sf1 := XS10.out.f 1 rfl
      have s2 := XS10.out.c 2 rfl
      have sf2 := XS10.out.f 2 rfl
      have sz := XS10.out.size
      obtain ⟨w11, hV⟩ : ∃ V, V = (w10.setCell ⟨w2.heap.size, 1, none⟩ (.int .i64 z)) := ⟨_, rfl⟩
      have XR11 := hid ((XR10.out.other (a := ⟨w2.heap.size, 1, none⟩) (by dsimp only; omega) (.int .i64 z)))
      rw [← hV] at XR11
      have XS11 := hid ((XS10.out.set 1 (.int .i64 z)))
      rw [← hV] at XS11
      have C11 := hid ((C10.out.other (a := ⟨w2.heap.size, 1, none⟩) (by dsimp only; omega) (.int .i64 z)))
      rw [← hV] at C11
      have hR11 : Grew p w w11 := by rw [hV]; exact (hR10.set (a := ⟨w2.heap.size, 1, none⟩) (by dsimp only; omega) (.int .i64 z))
      have hz11 : w10.heap.size ≤ w11.heap.size := by rw [hV]; simp
      have H11 := hid hV
      clear hV XR10 XS10 C10
      go_upto_region 18 with fail
      clear r0 rf0 r1 rf1 r2 rf2 rz s0 sf0 s1 sf1 s2 sf2 sz
      rw [← H11.out]
      clear H11
      have r0 := XR11.out.c 0 rfl
      have rf0 := XR11.out.f 0 rfl
      have r1 := XR11.out.c 1 rfl
      have rf1 := XR11.out.f 1 rfl
      have r2 := XR11.out.c 2 rfl
      have rf2 := XR11.out.f 2 rfl
      have rz := XR11.out.size
      have s0 := XS11.out.c 0 rfl
      have sf0 := XS11.out.f 0 rfl
      have s1 := XS11.out.c 1 rfl
      have sf1 := XS11.out.f 1 rfl
      have s2 := XS11.out.c 2 rfl
      have sf2 := XS11.out.f 2 rfl
      have sz := XS11.out.size
      go_wp2
      refine bodyPost_ret (v := .agg #[.int .i64 3, .int .i64 z, .int .i64 (b0 - 4)]) (by simp [results, Tryz.results33, go_sem, r0, r1, r2]) rfl ⟨⟨_, _, _, rfl⟩, k10, sd10, by omega, ?_, ?_⟩
      · exact (((C11.out.other (a := ⟨w.heap.size, 0, none⟩) (by dsimp only; omega) _).other (a := ⟨w.heap.size, 1, none⟩) (by dsimp only; omega) _).other (a := ⟨w.heap.size, 2, none⟩) (by dsimp only; omega) _)
      · exact (((hR11.set (a := ⟨w.heap.size, 0, none⟩) (by dsimp only; omega) _).set (a := ⟨w.heap.size, 1, none⟩) (by dsimp only; omega) _).set (a := ⟨w.heap.size, 2, none⟩) (by dsimp only; omega) _)
    by_cases hy2 : y = 2
    case pos =>
      subst hy2
      have r0 := XR8.out.c 0 rfl
      have rf0 := XR8.out.f 0 rfl
      have r1 := XR8.out.c 1 rfl
      have rf1 := XR8.out.f 1 rfl
      have r2 := XR8.out.c 2 rfl
      have rf2 := XR8.out.f 2 rfl
      have rz := XR8.out.size
      have s0 := XS8.out.c 0 rfl
      have sf0 := XS8.out.f 0 rfl
      have s1 := XS8.out.c 1 rfl
      have sf1 := XS8.out.f 1 rfl
      have s2 := XS8.out.c 2 rfl
      have sf2 := XS8.out.f 2 rfl
      have sz := XS8.out.size
      obtain ⟨w9, hV⟩ : ∃ V, V = w8.alloc (.cells #[.int .i64 1000000, .int .i64 1000001, .int .i64 (-1), .int .i64 1000, .int .i64 1001, .int .i64 (1 + a0)] 3) := ⟨_, rfl⟩
      have XR9 := hid (XR8.out.alloc (.cells #[.int .i64 1000000, .int .i64 1000001, .int .i64 (-1), .int .i64 1000, .int .i64 1001, .int .i64 (1 + a0)] 3))
      rw [← hV] at XR9
      have XS9 := hid (XS8.out.alloc (.cells #[.int .i64 1000000, .int .i64 1000001, .int .i64 (-1), .int .i64 1000, .int .i64 1001, .int .i64 (1 + a0)] 3))
      rw [← hV] at XS9
      have C9 := hid (C8.out.later (below1 w8 (.cells #[.int .i64 1000000, .int .i64 1000001, .int .i64 (-1), .int .i64 1000, .int .i64 1001, .int .i64 (1 + a0)] 3)))
      rw [← hV] at C9
      have hR9 : Grew p w w9 := by rw [hV]; exact hR8.trans (Grew.alloc p _ _)
      have hz9 : w8.heap.size ≤ w9.heap.size := by rw [hV]; simp
      have H9 := hid hV
      clear hV XR8 XS8 C8
      have XU9 : Hid (Bx w9 w8.heap.size [.int .i64 1000000, .int .i64 1000001, .int .i64 (-1), .int .i64 1000, .int .i64 1001, .int .i64 (1 + a0)]) := by rw [H9.out]; exact Bx.new [.int .i64 1000000, .int .i64 1000001, .int .i64 (-1), .int .i64 1000, .int .i64 1001, .int .i64 (1 + a0)] _ rfl
      have hy9 : w8.heap.size < w9.heap.size := XU9.out.size
      go_wp2_with fail
      clear r0 rf0 r1 rf1 r2 rf2 rz s0 sf0 s1 sf1 s2 sf2 sz
      rw [← H9.out]
      clear H9
      refine (among_some [1000000, 1000001, -1, 1000, 1001, (1 + a0)] w8.heap.size p co cap bs k8 sd8 w9 hl (by omega) C9.out (by simp) (by simp) XU9.out (by omega)).mono ?_
      rintro e w10 ⟨⟨z, rfl⟩, hD⟩
      obtain ⟨k10, sd10, hk10, hC10, hg10, hsz10⟩ := hD.grew
      have XR10 := hid (XR9.out.grew hg10 (by omega))
      have XS10 := hid (XS9.out.grew hg10 (by omega))
      have XU10 := hid (XU9.out.grew hg10 (by omega))
      have C10 := hid hC10
      have hR10 : Grew p w w10 := hR9.trans hg10
      have hz10 : w9.heap.size ≤ w10.heap.size := hg10.size
      clear XR9 XS9 XU9 C9 hD hg10 hC10 hsz10
      have r0 := XR10.out.c 0 rfl
      have rf0 := XR10.out.f 0 rfl
      have r1 := XR10.out.c 1 rfl
      have rf1 := XR10.out.f 1 rfl
      have r2 := XR10.out.c 2 rfl
      have rf2 := XR10.out.f 2 rfl
      have rz := XR10.out.size
      have s0 := XS10.out.c 0 rfl
      have sf0 := XS10.out.f 0 rfl
      have s1 := XS10.out.c 1 rfl
      have sf1 := XS10.out.f 1 rfl
      have s2 := XS10.out.c 2 rfl
      have sf2 := XS10.out.f 2 rfl
      have sz := XS10.out.size
      obtain ⟨w11, hV⟩ : ∃ V, V = (w10.setCell ⟨w2.heap.size, 2, none⟩ (.int .i64 z)) := ⟨_, rfl⟩
      have XR11 := hid ((XR10.out.other (a := ⟨w2.heap.size, 2, none⟩) (by dsimp only; omega) (.int .i64 z)))
      rw [← hV] at XR11
      have XS11 := hid ((XS10.out.set 2 (.int .i64 z)))
      rw [← hV] at XS11
      have C11 := hid ((C10.out.other (a := ⟨w2.heap.size, 2, none⟩) (by dsimp only; omega) (.int .i64 z)))
      rw [← hV] at C11
      have hR11 : Grew p w w11 := by rw [hV]; exact (hR10.set (a := ⟨w2.heap.size, 2, none⟩) (by dsimp only; omega) (.int .i64 z))
      have hz11 : w10.heap.size ≤ w11.heap.size := by rw [hV]; simp
      have H11 := hid hV
      clear hV XR10 XS10 C10
      go_upto_region 18 with fail
      clear r0 rf0 r1 rf1 r2 rf2 rz s0 sf0 s1 sf1 s2 sf2 sz
      rw [← H11.out]
      clear H11
      have r0 := XR11.out.c 0 rfl
      have rf0 := XR11.out.f 0 rfl
      have r1 := XR11.out.c 1 rfl
      have rf1 := XR11.out.f 1 rfl
      have r2 := XR11.out.c 2 rfl
      have rf2 := XR11.out.f 2 rfl
      have rz := XR11.out.size
      have s0 := XS11.out.c 0 rfl
      have sf0 := XS11.out.f 0 rfl
      have s1 := XS11.out.c 1 rfl
      have sf1 := XS11.out.f 1 rfl
      have s2 := XS11.out.c 2 rfl
      have sf2 := XS11.out.f 2 rfl
      have sz := XS11.out.size
      go_wp2
      refine bodyPost_ret (v := .agg #[.int .i64 3, .int .i64 (1 + a0), .int .i64 z]) (by simp [results, Tryz.results33, go_sem, r0, r1, r2]) rfl ⟨⟨_, _, _, rfl⟩, k10, sd10, by omega, ?_, ?_⟩
      · exact (((C11.out.other (a := ⟨w.heap.size, 0, none⟩) (by dsimp only; omega) _).other (a := ⟨w.heap.size, 1, none⟩) (by dsimp only; omega) _).other (a := ⟨w.heap.size, 2, none⟩) (by dsimp only; omega) _)
      · exact (((hR11.set (a := ⟨w.heap.size, 0, none⟩) (by dsimp only; omega) _).set (a := ⟨w.heap.size, 1, none⟩) (by dsimp only; omega) _).set (a := ⟨w.heap.size, 2, none⟩) (by dsimp only; omega) _)
    have ey0 : (y == 0) = false := by simpa using hy0
    have ey1 : (y == 1) = false := by simpa using hy1
    have ey2 : (y == 2) = false := by simpa using hy2
    have r0 := XR8.out.c 0 rfl
    have rf0 := XR8.out.f 0 rfl
    have r1 := XR8.out.c 1 rfl
    have rf1 := XR8.out.f 1 rfl
    have r2 := XR8.out.c 2 rfl
    have rf2 := XR8.out.f 2 rfl
    have rz := XR8.out.size
    have s0 := XS8.out.c 0 rfl
    have sf0 := XS8.out.f 0 rfl
    have s1 := XS8.out.c 1 rfl
    have sf1 := XS8.out.f 1 rfl
    have s2 := XS8.out.c 2 rfl
    have sf2 := XS8.out.f 2 rfl
    have sz := XS8.out.size
    go_wp2
    refine bodyPost_ret (v := .agg #[.int .i64 3, .int .i64 (1 + a0), .int .i64 (b0 - 4)]) (by simp [results, Tryz.results33, go_sem, r0, r1, r2]) rfl ⟨⟨_, _, _, rfl⟩, k8, sd8, by omega, ?_, ?_⟩
    · exact (((C8.out.other (a := ⟨w.heap.size, 0, none⟩) (by dsimp only; omega) _).other (a := ⟨w.heap.size, 1, none⟩) (by dsimp only; omega) _).other (a := ⟨w.heap.size, 2, none⟩) (by dsimp only; omega) _)
    · exact (((hR8.set (a := ⟨w.heap.size, 0, none⟩) (by dsimp only; omega) _).set (a := ⟨w.heap.size, 1, none⟩) (by dsimp only; omega) _).set (a := ⟨w.heap.size, 2, none⟩) (by dsimp only; omega) _)
  · have r0 := XR2.out.c 0 rfl
    have rf0 := XR2.out.f 0 rfl
    have r1 := XR2.out.c 1 rfl
    have rf1 := XR2.out.f 1 rfl
    have r2 := XR2.out.c 2 rfl
    have rf2 := XR2.out.f 2 rfl
    have rz := XR2.out.size
    obtain ⟨w3, hV⟩ : ∃ V, V = w2.alloc (.cells #[.int .i64 4, .int .i64 0, .int .i64 0] 32) := ⟨_, rfl⟩
    have XR3 := hid (XR2.out.alloc (.cells #[.int .i64 4, .int .i64 0, .int .i64 0] 32))
    rw [← hV] at XR3
    have C3 := hid (C2.out.later (below1 w2 (.cells #[.int .i64 4, .int .i64 0, .int .i64 0] 32)))
    rw [← hV] at C3
    have hR3 : Grew p w w3 := by rw [hV]; exact hR2.trans (Grew.alloc p _ _)
    have hz3 : w2.heap.size ≤ w3.heap.size := by rw [hV]; simp
    have H3 := hid hV
    clear hV XR2 C2
    have XS3 : Hid (Bx w3 w2.heap.size [.int .i64 4, .int .i64 0, .int .i64 0]) := by rw [H3.out]; exact Bx.new [.int .i64 4, .int .i64 0, .int .i64 0] _ rfl
    have hy3 : w2.heap.size < w3.heap.size := XS3.out.size
    go_wp2_with fail
    clear r0 rf0 r1 rf1 r2 rf2 rz
    rw [← H3.out]
    clear H3
    refine (pick_any 5 p co cap bs k2 sd2 w3 hl (by omega) C3.out).mono ?_
    rintro e w4 ⟨⟨a0, rfl, h0a0, h1a0⟩, hD⟩
    obtain ⟨k4, sd4, hk4, hC4, hg4, hsz4⟩ := hD.grew
    have XR4 := hid (XR3.out.grew hg4 (by omega))
    have XS4 := hid (XS3.out.grew hg4 (by omega))
    have C4 := hid hC4
    have hR4 : Grew p w w4 := hR3.trans hg4
    have hz4 : w3.heap.size ≤ w4.heap.size := hg4.size
    clear XR3 XS3 C3 hD hg4 hC4 hsz4
    have r0 := XR4.out.c 0 rfl
    have rf0 := XR4.out.f 0 rfl
    have r1 := XR4.out.c 1 rfl
    have rf1 := XR4.out.f 1 rfl
    have r2 := XR4.out.c 2 rfl
    have rf2 := XR4.out.f 2 rfl
    have rz := XR4.out.size
    have s0 := XS4.out.c 0 rfl
    have sf0 := XS4.out.f 0 rfl
    have s1 := XS4.out.c 1 rfl
    have sf1 := XS4.out.f 1 rfl
    have s2 := XS4.out.c 2 rfl
    have sf2 := XS4.out.f 2 rfl
    have sz := XS4.out.size
    obtain ⟨w5, hV⟩ : ∃ V, V = (w4.setCell ⟨w2.heap.size, 1, none⟩ (.int .i64 (1 + a0))) := ⟨_, rfl⟩
    have XR5 := hid ((XR4.out.other (a := ⟨w2.heap.size, 1, none⟩) (by dsimp only; omega) (.int .i64 (1 + a0))))
    rw [← hV] at XR5
    have XS5 := hid ((XS4.out.set 1 (.int .i64 (1 + a0))))
    rw [← hV] at XS5
    have C5 := hid ((C4.out.other (a := ⟨w2.heap.size, 1, none⟩) (by dsimp only; omega) (.int .i64 (1 + a0))))
    rw [← hV] at C5
    have hR5 : Grew p w w5 := by rw [hV]; exact (hR4.set (a := ⟨w2.heap.size, 1, none⟩) (by dsimp only; omega) (.int .i64 (1 + a0)))
    have hz5 : w4.heap.size ≤ w5.heap.size := by rw [hV]; simp
    have H5 := hid hV
    clear hV XR4 XS4 C4
    go_upto_region 4 with fail
    clear r0 rf0 r1 rf1 r2 rf2 rz s0 sf0 s1 sf1 s2 sf2 sz
    rw [← H5.out]
    clear H5
    have r0 := XR5.out.c 0 rfl
    have rf0 := XR5.out.f 0 rfl
    have r1 := XR5.out.c 1 rfl
    have rf1 := XR5.out.f 1 rfl
    have r2 := XR5.out.c 2 rfl
    have rf2 := XR5.out.f 2 rfl
    have rz := XR5.out.size
    have s0 := XS5.out.c 0 rfl
    have sf0 := XS5.out.f 0 rfl
    have s1 := XS5.out.c 1 rfl
    have sf1 := XS5.out.f 1 rfl
    have s2 := XS5.out.c 2 rfl
    have sf2 := XS5.out.f 2 rfl
    have sz := XS5.out.size
    go_wp2_with fail
    clear r0 rf0 r1 rf1 r2 rf2 rz s0 sf0 s1 sf1 s2 sf2 sz
    refine (pick_any (1 + a0) p co cap bs k4 sd4 w5 hl (by omega) C5.out).mono ?_
    rintro e w6 ⟨⟨b0, rfl, h0b0, h1b0⟩, hD⟩
    obtain ⟨k6, sd6, hk6, hC6, hg6, hsz6⟩ := hD.grew
    have XR6 := hid (XR5.out.grew hg6 (by omega))
    have XS6 := hid (XS5.out.grew hg6 (by omega))
    have C6 := hid hC6
    have hR6 : Grew p w w6 := hR5.trans hg6
    have hz6 : w5.heap.size ≤ w6.heap.size := hg6.size
    clear XR5 XS5 C5 hD hg6 hC6 hsz6
    have r0 := XR6.out.c 0 rfl
    have rf0 := XR6.out.f 0 rfl
    have r1 := XR6.out.c 1 rfl
    have rf1 := XR6.out.f 1 rfl
    have r2 := XR6.out.c 2 rfl
    have rf2 := XR6.out.f 2 rfl
    have rz := XR6.out.size
    have s0 := XS6.out.c 0 rfl
    have sf0 := XS6.out.f 0 rfl
    have s1 := XS6.out.c 1 rfl
    have sf1 := XS6.out.f 1 rfl
    have s2 := XS6.out.c 2 rfl
    have sf2 := XS6.out.f 2 rfl
    have sz := XS6.out.size
    obtain ⟨w7, hV⟩ : ∃ V, V = (w6.setCell ⟨w2.heap.size, 2, none⟩ (.int .i64 b0)) := ⟨_, rfl⟩
    have XR7 := hid ((XR6.out.other (a := ⟨w2.heap.size, 2, none⟩) (by dsimp only; omega) (.int .i64 b0)))
    rw [← hV] at XR7
    have XS7 := hid ((XS6.out.set 2 (.int .i64 b0)))
    rw [← hV] at XS7
    have C7 := hid ((C6.out.other (a := ⟨w2.heap.size, 2, none⟩) (by dsimp only; omega) (.int .i64 b0)))
    rw [← hV] at C7
    have hR7 : Grew p w w7 := by rw [hV]; exact (hR6.set (a := ⟨w2.heap.size, 2, none⟩) (by dsimp only; omega) (.int .i64 b0))
    have hz7 : w6.heap.size ≤ w7.heap.size := by rw [hV]; simp
    have H7 := hid hV
    clear hV XR6 XS6 C6
    go_upto_region 11 with fail
    clear r0 rf0 r1 rf1 r2 rf2 rz s0 sf0 s1 sf1 s2 sf2 sz
    rw [← H7.out]
    clear H7
    have r0 := XR7.out.c 0 rfl
    have rf0 := XR7.out.f 0 rfl
    have r1 := XR7.out.c 1 rfl
    have rf1 := XR7.out.f 1 rfl
    have r2 := XR7.out.c 2 rfl
    have rf2 := XR7.out.f 2 rfl
    have rz := XR7.out.size
    have s0 := XS7.out.c 0 rfl
    have sf0 := XS7.out.f 0 rfl
    have s1 := XS7.out.c 1 rfl
    have sf1 := XS7.out.f 1 rfl
    have s2 := XS7.out.c 2 rfl
    have sf2 := XS7.out.f 2 rfl
    have sz := XS7.out.size
    go_wp2_with fail
    clear r0 rf0 r1 rf1 r2 rf2 rz s0 sf0 s1 sf1 s2 sf2 sz
    refine (pick_any 60 p co cap bs k6 sd6 w7 hl (by omega) C7.out).mono ?_
    rintro e w8 ⟨⟨y, rfl, h0y, h1y⟩, hD⟩
    obtain ⟨k8, sd8, hk8, hC8, hg8, hsz8⟩ := hD.grew
    have XR8 := hid (XR7.out.grew hg8 (by omega))
    have XS8 := hid (XS7.out.grew hg8 (by omega))
    have C8 := hid hC8
    have hR8 : Grew p w w8 := hR7.trans hg8
    have hz8 : w7.heap.size ≤ w8.heap.size := hg8.size
    clear XR7 XS7 C7 hD hg8 hC8 hsz8
    by_cases hy0 : y = 0
    case pos =>
      subst hy0
      have r0 := XR8.out.c 0 rfl
      have rf0 := XR8.out.f 0 rfl
      have r1 := XR8.out.c 1 rfl
      have rf1 := XR8.out.f 1 rfl
      have r2 := XR8.out.c 2 rfl
      have rf2 := XR8.out.f 2 rfl
      have rz := XR8.out.size
      have s0 := XS8.out.c 0 rfl
      have sf0 := XS8.out.f 0 rfl
      have s1 := XS8.out.c 1 rfl
      have sf1 := XS8.out.f 1 rfl
      have s2 := XS8.out.c 2 rfl
      have sf2 := XS8.out.f 2 rfl
      have sz := XS8.out.size
      obtain ⟨w9, hV⟩ : ∃ V, V = w8.alloc (.cells #[.int .i64 0, .int .i64 5] 3) := ⟨_, rfl⟩
      have XR9 := hid (XR8.out.alloc (.cells #[.int .i64 0, .int .i64 5] 3))
      rw [← hV] at XR9
      have XS9 := hid (XS8.out.alloc (.cells #[.int .i64 0, .int .i64 5] 3))
      rw [← hV] at XS9
      have C9 := hid (C8.out.later (below1 w8 (.cells #[.int .i64 0, .int .i64 5] 3)))
      rw [← hV] at C9
      have hR9 : Grew p w w9 := by rw [hV]; exact hR8.trans (Grew.alloc p _ _)
      have hz9 : w8.heap.size ≤ w9.heap.size := by rw [hV]; simp
      have H9 := hid hV
      clear hV XR8 XS8 C8
      have XU9 : Hid (Bx w9 w8.heap.size [.int .i64 0, .int .i64 5]) := by rw [H9.out]; exact Bx.new [.int .i64 0, .int .i64 5] _ rfl
      have hy9 : w8.heap.size < w9.heap.size := XU9.out.size
      go_wp2_with fail
      clear r0 rf0 r1 rf1 r2 rf2 rz s0 sf0 s1 sf1 s2 sf2 sz
      rw [← H9.out]
      clear H9
      refine (among_some [0, 5] w8.heap.size p co cap bs k8 sd8 w9 hl (by omega) C9.out (by simp) (by simp) XU9.out (by omega)).mono ?_
      rintro e w10 ⟨⟨z, rfl⟩, hD⟩
      obtain ⟨k10, sd10, hk10, hC10, hg10, hsz10⟩ := hD.grew
      have XR10 := hid (XR9.out.grew hg10 (by omega))
      have XS10 := hid (XS9.out.grew hg10 (by omega))
      have XU10 := hid (XU9.out.grew hg10 (by omega))
      have C10 := hid hC10
      have hR10 : Grew p w w10 := hR9.trans hg10
      have hz10 : w9.heap.size ≤ w10.heap.size := hg10.size
      clear XR9 XS9 XU9 C9 hD hg10 hC10 hsz10
      have r0 := XR10.out.c 0 rfl
      have rf0 := XR10.out.f 0 rfl
      have r1 := XR10.out.c 1 rfl
      have rf1 := XR10.out.f 1 rfl
      have r2 := XR10.out.c 2 rfl
      have rf2 := XR10.out.f 2 rfl
      have rz := XR10.out.size
      have s0 := XS10.out.c 0 rfl
      have sf0 := XS10.out.f 0 rfl
      have s1 := XS10.out.c 1 rfl
      have sf1 := XS10.out.f 1 rfl
      have s2 := XS10.out.c 2 rfl
      have sf2 := XS10.out.f 2 rfl
      have sz := XS10.out.size
      obtain ⟨w11, hV⟩ : ∃ V, V = (w10.setCell ⟨w2.heap.size, 0, none⟩ (.int .i64 z)) := ⟨_, rfl⟩
      have XR11 := hid ((XR10.out.other (a := ⟨w2.heap.size, 0, none⟩) (by dsimp only; omega) (.int .i64 z)))
      rw [← hV] at XR11
      have XS11 := hid ((XS10.out.set 0 (.int .i64 z)))
      rw [← hV] at XS11
      have C11 := hid ((C10.out.other (a := ⟨w2.heap.size, 0, none⟩) (by dsimp only; omega) (.int .i64 z)))
      rw [← hV] at C11
      have hR11 : Grew p w w11 := by rw [hV]; exact (hR10.set (a := ⟨w2.heap.size, 0, none⟩) (by dsimp only; omega) (.int .i64 z))
      have hz11 : w10.heap.size ≤ w11.heap.size := by rw [hV]; simp
      have H11 := hid hV
      clear hV XR10 XS10 C10
      go_upto_region 18 with fail
      clear r0 rf0 r1 rf1 r2 rf2 rz s0 sf0 s1 sf1 s2 sf2 sz
      rw [← H11.out]
      clear H11
      have r0 := XR11.out.c 0 rfl
      have rf0 := XR11.out.f 0 rfl
      have r1 := XR11.out.c 1 rfl
      have rf1 := XR11.out.f 1 rfl
      have r2 := XR11.out.c 2 rfl
      have rf2 := XR11.out.f 2 rfl
      have rz := XR11.out.size
      have s0 := XS11.out.c 0 rfl
      have sf0 := XS11.out.f 0 rfl
      have s1 := XS11.out.c 1 rfl
      have sf1 := XS11.out.f 1 rfl
      have s2 := XS11.out.c 2 rfl
      have sf2 := XS11.out.f 2 rfl
      have sz := XS11.out.size
      go_wp2
      refine bodyPost_ret (v := .agg #[.int .i64 z, .int .i64 (1 + a0), .int .i64 b0]) (by simp [results, Tryz.results33, go_sem, r0, r1, r2]) rfl ⟨⟨_, _, _, rfl⟩, k10, sd10, by omega, ?_, ?_⟩
      · exact (((C11.out.other (a := ⟨w.heap.size, 0, none⟩) (by dsimp only; omega) _).other (a := ⟨w.heap.size, 1, none⟩) (by dsimp only; omega) _).other (a := ⟨w.heap.size, 2, none⟩) (by dsimp only; omega) _)
      · exact (((hR11.set (a := ⟨w.heap.size, 0, none⟩) (by dsimp only; omega) _).set (a := ⟨w.heap.size, 1, none⟩) (by dsimp only; omega) _).set (a := ⟨w.heap.size, 2, none⟩) (by dsimp only; omega) _)
    by_cases hy1 : y = 1
    case pos =>
      subst hy1
      have r0 := XR8.out.c 0 rfl
      have rf0 := XR8.out.f 0 rfl
      have r1 := XR8.out.c 1 rfl
      have rf1 := XR8.out.f 1 rfl
      have r2 := XR8.out.c 2 rfl
      have rf2 := XR8.out.f 2 rfl
      have rz := XR8.out.size
      have s0 := XS8.out.c 0 rfl
      have sf0 := XS8.out.f 0 rfl
      have s1 := XS8.out.c 1 rfl
      have sf1 := XS8.out.f 1 rfl
      have s2 := XS8.out.c 2 rfl
      have sf2 := XS8.out.f 2 rfl
      have sz := XS8.out.size
      obtain ⟨w9, hV⟩ : ∃ V, V = w8.alloc (.cells #[.int .i64 (-100), .int .i64 (-101), .int .i64 100, .int .i64 101, .int .i64 0, .int .i64 3, .int .i64 4, .int .i64 1000, .int .i64 1001] 3) := ⟨_, rfl⟩
      have XR9 := hid (XR8.out.alloc (.cells #[.int .i64 (-100), .int .i64 (-101), .int .i64 100, .int .i64 101, .int .i64 0, .int .i64 3, .int .i64 4, .int .i64 1000, .int .i64 1001] 3))
      rw [← hV] at XR9
      have XS9 := hid (XS8.out.alloc (.cells #[.int .i64 (-100), .int .i64 (-101), .int .i64 100, .int .i64 101, .int .i64 0, .int .i64 3, .int .i64 4, .int .i64 1000, .int .i64 1001] 3))
      rw [← hV] at XS9
      have C9 := hid (C8.out.later (below1 w8 (.cells #[.int .i64 (-100), .int .i64 (-101), .int .i64 100, .int .i64 101, .int .i64 0, .int .i64 3, .int .i64 4, .int .i64 1000, .int .i64 1001] 3)))
      rw [← hV] at C9
      have hR9 : Grew p w w9 := by rw [hV]; exact hR8.trans (Grew.alloc p _ _)
      have hz9 : w8.heap.size ≤ w9.heap.size := by rw [hV]; simp
      have H9 := hid hV
      clear hV XR8 XS8 C8
      have XU9 : Hid (Bx w9 w8.heap.size [.int .i64 (-100), .int .i64 (-101), .int .i64 100, .int .i64 101, .int .i64 0, .int .i64 3, .int .i64 4, .int .i64 1000, .int .i64 1001]) := by rw [H9.out]; exact Bx.new [.int .i64 (-100), .int .i64 (-101), .int .i64 100, .int .i64 101, .int .i64 0, .int .i64 3, .int .i64 4, .int .i64 1000, .int .i64 1001] _ rfl
      have hy9 : w8.heap.size < w9.heap.size := XU9.out.size
      go_wp2_with fail
      clear r0 rf0 r1 rf1 r2 rf2 rz s0 sf0 s1 sf1 s2 sf2 sz
      rw [← H9.out]
      clear H9
      refine (among_some [-100, -101, 100, 101, 0, 3, 4, 1000, 1001] w8.heap.size p co cap bs k8 sd8 w9 hl (by omega) C9.out (by simp) (by simp) XU9.out (by omega)).mono ?_
      rintro e w10 ⟨⟨z, rfl⟩, hD⟩
      obtain ⟨k10, sd10, hk10, hC10, hg10, hsz10⟩ := hD.grew
      have XR10 := hid (XR9.out.grew hg10 (by omega))
      have XS10 := hid (XS9.out.grew hg10 (by omega))
      have XU10 := hid (XU9.out.grew hg10 (by omega))
      have C10 := hid hC10
      have hR10 : Grew p w w10 := hR9.trans hg10
      have hz10 : w9.heap.size ≤ w10.heap.size := hg10.size
      clear XR9 XS9 XU9 C9 hD hg10 hC10 hsz10
      have r0 := XR10.out.c 0 rfl
      have rf0 := XR10.out.f 0 rfl
      have r1 := XR10.out.c 1 rfl
      have rf1 := XR10.out.f 1 rfl
      have r2 := XR10.out.c 2 rfl
      have rf2 := XR10.out.f 2 rfl
      have rz := XR10.out.size
      have s0 := XS10.out.c 0 rfl
      have sf0 := XS10.out.f 0 rfl
      have s1 := XS10.out.c 1 rfl
      have sf1 := XS10.out.f 1 rfl
      have s2 := XS10.out.c 2 rfl
      have sf2 := XS10.out.f 2 rfl
      have sz := XS10.out.size
      obtain ⟨w11, hV⟩ : ∃ V, V = (w10.setCell ⟨w2.heap.size, 1, none⟩ (.int .i64 z)) := ⟨_, rfl⟩
      have XR11 := hid ((XR10.out.other (a := ⟨w2.heap.size, 1, none⟩) (by dsimp only; omega) (.int .i64 z)))
      rw [← hV] at XR11
      have XS11 := hid ((XS10.out.set 1 (.int .i64 z)))
      rw [← hV] at XS11
      have C11 := hid ((C10.out.other (a := ⟨w2.heap.size, 1, none⟩) (by dsimp only; omega) (.int .i64 z)))
      rw [← hV] at C11
      have hR11 : Grew p w w11 := by rw [hV]; exact (hR10.set (a := ⟨w2.heap.size, 1, none⟩) (by dsimp only; omega) (.int .i64 z))
      have hz11 : w10.heap.size ≤ w11.heap.size := by rw [hV]; simp
      have H11 := hid hV
      clear hV XR10 XS10 C10
      go_upto_region 18 with fail
      clear r0 rf0 r1 rf1 r2 rf2 rz s0 sf0 s1 sf1 s2 sf2 sz
      rw [← H11.out]
      clear H11
      have r0 := XR11.out.c 0 rfl
      have rf0 := XR11.out.f 0 rfl
      have r1 := XR11.out.c 1 rfl
      have rf1 := XR11.out.f 1 rfl
      have r2 := XR11.out.c 2 rfl
      have rf2 := XR11.out.f 2 rfl
      have rz := XR11.out.size
      have s0 := XS11.out.c 0 rfl
      have sf0 := XS11.out.f 0 rfl
      have s1 := XS11.out.c 1 rfl
      have sf1 := XS11.out.f 1 rfl
      have s2 := XS11.out.c 2 rfl
      have sf2 := XS11.out.f 2 rfl
      have sz := XS11.out.size
      go_wp2
      refine bodyPost_ret (v := .agg #[.int .i64 4, .int .i64 z, .int .i64 b0]) (by simp [results, Tryz.results33, go_sem, r0, r1, r2]) rfl ⟨⟨_, _, _, rfl⟩, k10, sd10, by omega, ?_, ?_⟩
      · exact (((C11.out.other (a := ⟨w.heap.size, 0, none⟩) (by dsimp only; omega) _).other (a := ⟨w.heap.size, 1, none⟩) (by dsimp only; omega) _).other (a := ⟨w.heap.size, 2, none⟩) (by dsimp only; omega) _)
      · exact (((hR11.set (a := ⟨w.heap.size, 0, none⟩) (by dsimp only; omega) _).set (a := ⟨w.heap.size, 1, none⟩) (by dsimp only; omega) _).set (a := ⟨w.heap.size, 2, none⟩) (by dsimp only; omega) _)
    by_cases hy2 : y = 2
    case pos =>
      subst hy2
      have r0 := XR8.out.c 0 rfl
      have rf0 := XR8.out.f 0 rfl
      have r1 := XR8.out.c 1 rfl
      have rf1 := XR8.out.f 1 rfl
      have r2 := XR8.out.c 2 rfl
      have rf2 := XR8.out.f 2 rfl
      have rz := XR8.out.size
      have s0 := XS8.out.c 0 rfl
      have sf0 := XS8.out.f 0 rfl
      have s1 := XS8.out.c 1 rfl
      have sf1 := XS8.out.f 1 rfl
      have s2 := XS8.out.c 2 rfl
      have sf2 := XS8.out.f 2 rfl
      have sz := XS8.out.size
      obtain ⟨w9, hV⟩ : ∃ V, V = w8.alloc (.cells #[.int .i64 1000000, .int .i64 1000001, .int .i64 (-1), .int .i64 1000, .int .i64 1001, .int .i64 (1 + a0)] 3) := ⟨_, rfl⟩
      have XR9 := hid (XR8.out.alloc (.cells #[.int .i64 1000000, .int .i64 1000001, .int .i64 (-1), .int .i64 1000, .int .i64 1001, .int .i64 (1 + a0)] 3))
      rw [← hV] at XR9
      have XS9 := hid (XS8.out.alloc (.cells #[.int .i64 1000000, .int .i64 1000001, .int .i64 (-1), .int .i64 1000, .int .i64 1001, .int .i64 (1 + a0)] 3))
      rw [← hV] at XS9
      have C9 := hid (C8.out.later (below1 w8 (.cells #[.int .i64 1000000, .int .i64 1000001, .int .i64 (-1), .int .i64 1000, .int .i64 1001, .int .i64 (1 + a0)] 3)))
      rw [← hV] at C9
      have hR9 : Grew p w w9 := by rw [hV]; exact hR8.trans (Grew.alloc p _ _)
      have hz9 : w8.heap.size ≤ w9.heap.size := by rw [hV]; simp
      have H9 := hid hV
      clear hV XR8 XS8 C8
      have XU9 : Hid (Bx w9 w8.heap.size [.int .i64 1000000, .int .i64 1000001, .int .i64 (-1), .int .i64 1000, .int .i64 1001, .int .i64 (1 + a0)]) := by rw [H9.out]; exact Bx.new [.int .i64 1000000, .int .i64 1000001, .int .i64 (-1), .int .i64 1000, .int .i64 1001, .int .i64 (1 + a0)] _ rfl
      have hy9 : w8.heap.size < w9.heap.size := XU9.out.size
      go_wp2_with fail
      clear r0 rf0 r1 rf1 r2 rf2 rz s0 sf0 s1 sf1 s2 sf2 sz
      rw [← H9.out]
      clear H9
      refine (among_some [1000000, 1000001, -1, 1000, 1001, (1 + a0)] w8.heap.size p co cap bs k8 sd8 w9 hl (by omega) C9.out (by simp) (by simp) XU9.out (by omega)).mono ?_
      rintro e w10 ⟨⟨z, rfl⟩, hD⟩
      obtain ⟨k10, sd10, hk10, hC10, hg10, hsz10⟩ := hD.grew
      have XR10 := hid (XR9.out.grew hg10 (by omega))
      have XS10 := hid (XS9.out.grew hg10 (by omega))
      have XU10 := hid (XU9.out.grew hg10 (by omega))
      have C10 := hid hC10
      have hR10 : Grew p w w10 := hR9.trans hg10
      have hz10 : w9.heap.size ≤ w10.heap.size := hg10.size
      clear XR9 XS9 XU9 C9 hD hg10 hC10 hsz10
      have r0 := XR10.out.c 0 rfl
      have rf0 := XR10.out.f 0 rfl
      have r1 := XR10.out.c 1 rfl
      have rf1 := XR10.out.f 1 rfl
      have r2 := XR10.out.c 2 rfl
      have rf2 := XR10.out.f 2 rfl
      have rz := XR10.out.size
      have s0 := XS10.out.c 0 rfl
      have sf0 := XS10.out.f 0 rfl
      have s1 := XS10.out.c 1 rfl
      have sf1 := XS10.out.f 1 rfl
      have s2 := XS10.out.c 2 rfl
      have sf2 := XS10.out.f 2 rfl
      have sz := XS10.out.size
      obtain ⟨w11, hV⟩ : ∃ V, V = (w10.setCell ⟨w2.heap.size, 2, none⟩ (.int .i64 z)) := ⟨_, rfl⟩
      have XR11 := hid ((XR10.out.other (a := ⟨w2.heap.size, 2, none⟩) (by dsimp only; omega) (.int .i64 z)))
      rw [← hV] at XR11
      have XS11 := hid ((XS10.out.set 2 (.int .i64 z)))
      rw [← hV] at XS11
      have C11 := hid ((C10.out.other (a := ⟨w2.heap.size, 2, none⟩) (by dsimp only; omega) (.int .i64 z)))
      rw [← hV] at C11
      have hR11 : Grew p w w11 := by rw [hV]; exact (hR10.set (a := ⟨w2.heap.size, 2, none⟩) (by dsimp only; omega) (.int .i64 z))
      have hz11 : w10.heap.size ≤ w11.heap.size := by rw [hV]; simp
      have H11 := hid hV
      clear hV XR10 XS10 C10
      go_upto_region 18 with fail
      clear r0 rf0 r1 rf1 r2 rf2 rz s0 sf0 s1 sf1 s2 sf2 sz
      rw [← H11.out]
      clear H11
      have r0 := XR11.out.c 0 rfl
      have rf0 := XR11.out.f 0 rfl
      have r1 := XR11.out.c 1 rfl
      have rf1 := XR11.out.f 1 rfl
      have r2 := XR11.out.c 2 rfl
      have rf2 := XR11.out.f 2 rfl
      have rz := XR11.out.size
      have s0 := XS11.out.c 0 rfl
      have sf0 := XS11.out.f 0 rfl
      have s1 := XS11.out.c 1 rfl
      have sf1 := XS11.out.f 1 rfl
      have s2 := XS11.out.c 2 rfl
      have sf2 := XS11.out.f 2 rfl
      have sz := XS11.out.size
      go_wp2
      refine bodyPost_ret (v := .agg #[.int .i64 4, .int .i64 (1 + a0), .int .i64 z]) (by simp [results, Tryz.results33, go_sem, r0, r1, r2]) rfl ⟨⟨_, _, _, rfl⟩, k10, sd10, by omega, ?_, ?_⟩
      · exact (((C11.out.other (a := ⟨w.heap.size, 0, none⟩) (by dsimp only; omega) _).other (a := ⟨w.heap.size, 1, none⟩) (by dsimp only; omega) _).other (a := ⟨w.heap.size, 2, none⟩) (by dsimp only; omega) _)
      · exact (((hR11.set (a := ⟨w.heap.size, 0, none⟩) (by dsimp only; omega) _).set (a := ⟨w.heap.size, 1, none⟩) (by dsimp only; omega) _).set (a := ⟨w.heap.size, 2, none⟩) (by dsimp only; omega) _)
    have ey0 : (y == 0) = false := by simpa using hy0
    have ey1 : (y == 1) = false := by simpa using hy1
    have ey2 : (y == 2) = false := by simpa using hy2
    have r0 := XR8.out.c 0 rfl
    have rf0 := XR8.out.f 0 rfl
    have r1 := XR8.out.c 1 rfl
    have rf1 := XR8.out.f 1 rfl
    have r2 := XR8.out.c 2 rfl
    have rf2 := XR8.out.f 2 rfl
    have rz := XR8.out.size
    have s0 := XS8.out.c 0 rfl
    have sf0 := XS8.out.f 0 rfl
    have s1 := XS8.out.c 1 rfl
    have sf1 := XS8.out.f 1 rfl
    have s2 := XS8.out.c 2 rfl
    have sf2 := XS8.out.f 2 rfl
    have sz := XS8.out.size
    go_wp2
    refine bodyPost_ret (v := .agg #[.int .i64 4, .int .i64 (1 + a0), .int .i64 b0]) (by simp [results, Tryz.results33, go_sem, r0, r1, r2]) rfl ⟨⟨_, _, _, rfl⟩, k8, sd8, by omega, ?_, ?_⟩
    · exact (((C8.out.other (a := ⟨w.heap.size, 0, none⟩) (by dsimp only; omega) _).other (a := ⟨w.heap.size, 1, none⟩) (by dsimp only; omega) _).other (a := ⟨w.heap.size, 2, none⟩) (by dsimp only; omega) _)
    · exact (((hR8.set (a := ⟨w.heap.size, 0, none⟩) (by dsimp only; omega) _).set (a := ⟨w.heap.size, 1, none⟩) (by dsimp only; omega) _).set (a := ⟨w.heap.size, 2, none⟩) (by dsimp only; omega) _)
end Go.Proofs.YtebnapgcobcilaaGreatDoor
