
/- A drawn board. No conditions but those written. -/
import Derived.Test.YtgbnbnjfaffaiaaXk
import Derived.Deep.Cut
import Derived.Deep.RegionLaw
namespace Go.Proofs.Ytgbnbnjfaffaiaa
open Go.RowKit

set_option maxRecDepth 10000 in
set_option maxHeartbeats 64000000 in
theorem board_any (p : Nat) (co : Option Addr) (cap : Nat) (bs : List Int) (k : Nat) (sd : Int) (w : World) (hl : bs.length ≤ 9223372036854775807) (ha : k ≤ 1000000000) (hC : Cur w p co cap bs k sd) :
    Calls Try.prog 11 #[.pointer (some ⟨p, 0, none⟩)] w fun e w' => (∃ (to : Option Addr) (tc : Nat) (ts : List (Int × Int)) (qo : Option Addr) (qc : Nat) (q : List Int), e = .returned (.agg #[.slice to ts.length tc, .slice qo q.length qc]) ∧ (ts.length ≤ 31 ∧ q.length ≤ 32) ∧ BW w.heap.size w'.heap.size w' to tc ts qo qc q) ∧ DrawnG w p co cap bs k 500 w' := by
  have hp := hC.1
  have C0 := hid hC
  have hR0 := Grew.refl p w
  clear hC
  obtain ⟨w1, hV⟩ : ∃ V, V = w.alloc (.cells #[.slice none 0 0, .slice none 0 0] 26) := ⟨_, rfl⟩
  have C1 := hid (C0.out.later (below1 w (.cells #[.slice none 0 0, .slice none 0 0] 26)))
  rw [← hV] at C1
  have hR1 : Grew p w w1 := by rw [hV]; exact hR0.trans (Grew.alloc p _ _)
  have hz1 : w.heap.size ≤ w1.heap.size := by rw [hV]; simp
  have H1 := hid hV
  clear hV C0
  have XR1 : Hid (Bx w1 w.heap.size [.slice none 0 0, .slice none 0 0]) := by rw [H1.out]; exact Bx.new [.slice none 0 0, .slice none 0 0] _ rfl
  have hy1 : w.heap.size < w1.heap.size := XR1.out.size
  obtain ⟨w2, hV⟩ : ∃ V, V = w1.alloc (.cells #[.slice none 0 0, .slice none 0 0] 26) := ⟨_, rfl⟩
  have XR2 := hid (XR1.out.alloc (.cells #[.slice none 0 0, .slice none 0 0] 26))
  rw [← hV] at XR2
  have C2 := hid (C1.out.later (below1 w1 (.cells #[.slice none 0 0, .slice none 0 0] 26)))
  rw [← hV] at C2
  have hR2 : Grew p w w2 := by rw [hV]; exact hR1.trans (Grew.alloc p _ _)
  have hz2 : w1.heap.size ≤ w2.heap.size := by rw [hV]; simp
  have H2 := hid hV
  clear hV XR1 C1
  have XA2 : Hid (Bx w2 w1.heap.size [.slice none 0 0, .slice none 0 0]) := by rw [H2.out]; exact Bx.new [.slice none 0 0, .slice none 0 0] _ rfl
  have hy2 : w1.heap.size < w2.heap.size := XA2.out.size
  have hw1 : w1.heap.size = w.heap.size + 1 := by rw [H1.out]; simp
  rw [hw1] at XA2
  rw [hw1] at hy2
  clear hw1
  go_enter Try.func11, Try.ntmps11
  have r0 := XR2.out.c 0 rfl
  have rf0 := XR2.out.f 0 rfl
  have r1 := XR2.out.c 1 rfl
  have rf1 := XR2.out.f 1 rfl
  have rz := XR2.out.size
  have a0 := XA2.out.c 0 rfl
  have af0 := XA2.out.f 0 rfl
  have a1 := XA2.out.c 1 rfl
  have af1 := XA2.out.f 1 rfl
  have az := XA2.out.size
  go_wp2_with fail
  clear r0 rf0 r1 rf1 rz a0 af0 a1 af1 az
  rw [← H1.out]
  clear H1
  rw [← H2.out]
  clear H2
  refine (pick_any 24 p co cap bs k sd w2 hl (by omega) C2.out).mono ?_
  rintro e w3 ⟨⟨n0, rfl, h0n0, h1n0⟩, hD⟩
  obtain ⟨k3, sd3, hk3, hC3, hg3, hsz3⟩ := hD.grew
  have XR3 := hid (XR2.out.grew hg3 (by omega))
  have XA3 := hid (XA2.out.grew hg3 (by omega))
  have C3 := hid hC3
  have hR3 : Grew p w w3 := hR2.trans hg3
  have hz3 : w2.heap.size ≤ w3.heap.size := hg3.size
  clear XR2 XA2 C2 hD hg3 hC3 hsz3
  obtain ⟨m0, rfl⟩ : ∃ m : Nat, n0 = m := ⟨n0.toNat, by omega⟩
  have hm0 : m0 ≤ 60 := by omega
  clear h0n0 h1n0
  have r0 := XR3.out.c 0 rfl
  have rf0 := XR3.out.f 0 rfl
  have r1 := XR3.out.c 1 rfl
  have rf1 := XR3.out.f 1 rfl
  have rz := XR3.out.size
  have a0 := XA3.out.c 0 rfl
  have af0 := XA3.out.f 0 rfl
  have a1 := XA3.out.c 1 rfl
  have af1 := XA3.out.f 1 rfl
  have az := XA3.out.size
  go_wp2_with fail
  clear r0 rf0 r1 rf1 rz a0 af0 a1 af1 az
  refine (one_any 20 p co cap bs k3 sd3 w3 hl (by omega) C3.out).mono ?_
  rintro e w4 ⟨⟨b, rfl⟩, hD⟩
  obtain ⟨k4, sd4, hk4, hC4, hg4, hsz4⟩ := hD.grew
  have XR4 := hid (XR3.out.grew hg4 (by omega))
  have XA4 := hid (XA3.out.grew hg4 (by omega))
  have C4 := hid hC4
  have hR4 : Grew p w w4 := hR3.trans hg4
  have hz4 : w3.heap.size ≤ w4.heap.size := hg4.size
  clear XR3 XA3 C3 hD hg4 hC4 hsz4
  cases b
  · as_aux_lemma =>
      have D4 : Hid (BW ((w.heap.size + 1) + 1) w4.heap.size w4 none 0 [] none 0 []) := hid bw_nil
      have r0 := XR4.out.c 0 rfl
      have rf0 := XR4.out.f 0 rfl
      have r1 := XR4.out.c 1 rfl
      have rf1 := XR4.out.f 1 rfl
      have rz := XR4.out.size
      have a0 := XA4.out.c 0 rfl
      have af0 := XA4.out.f 0 rfl
      have a1 := XA4.out.c 1 rfl
      have af1 := XA4.out.f 1 rfl
      have az := XA4.out.size
      go_wp2
      clear r0 rf0 r1 rf1 rz a0 af0 a1 af1 az
      go_loopw [4] (fun i wr => ∃ (m k2 : Nat) (sd2 : Int) (to : Option Addr) (tc : Nat) (ts : List (Int × Int)) (qo : Option Addr) (qc : Nat) (q : List Int), i = .int .i64 (m : Int) ∧ m ≤ 60 ∧ ts.length ≤ 30 ∧ q.length ≤ 31 ∧ Hid (Old.InR ts q) ∧ k2 + 6 * m ≤ k + 420 ∧ Hid (Bx wr w.heap.size [.slice none 0 0, .slice none 0 0]) ∧ Hid (Bx wr (w.heap.size + 1) [.slice to ts.length tc, .slice qo q.length qc]) ∧ Hid (BW ((w.heap.size + 1) + 1) wr.heap.size wr to tc ts qo qc q) ∧ Hid (Cur wr p co cap bs k2 sd2) ∧ Grew p w wr ∧ (w.heap.size + 1) + 1 ≤ wr.heap.size) (fun i _ => (intOf i).toNat)
      case atStart => exact ⟨m0, k4, sd4, none, 0, [], none, 0, [], rfl, hm0, by simp, by simp, fun _ h => by simp at h, by omega, XR4, XA4, D4, C4, hR4, by have := XA4.out.size; omega⟩
      case round =>
        clear XR4 XA4 D4 C4 hR4
        obtain ⟨m, k0, sd0, to, tc, ts, qo, qc, q, rfl, hm, hts, hq, HIR, hk0, XR5, XA5, D5, C5, hR5, hs0⟩ := hrel
        cases m with
        | succ m =>
          have hm1 : decide (0 < ((m + 1 : Nat) : Int)) = true := by simp <;> omega
          have hm2 : (0 : Int) < ((m + 1 : Nat) : Int) := by omega
          have r0 := XR5.out.c 0 rfl
          have rf0 := XR5.out.f 0 rfl
          have r1 := XR5.out.c 1 rfl
          have rf1 := XR5.out.f 1 rfl
          have rz := XR5.out.size
          have a0 := XA5.out.c 0 rfl
          have af0 := XA5.out.f 0 rfl
          have a1 := XA5.out.c 1 rfl
          have af1 := XA5.out.f 1 rfl
          have az := XA5.out.size
          obtain ⟨w6, hV⟩ : ∃ V, V = wr.alloc (.cells #[.slice to ts.length tc, .slice qo q.length qc] 26) := ⟨_, rfl⟩
          have XR6 := hid (XR5.out.alloc (.cells #[.slice to ts.length tc, .slice qo q.length qc] 26))
          rw [← hV] at XR6
          have XA6 := hid (XA5.out.alloc (.cells #[.slice to ts.length tc, .slice qo q.length qc] 26))
          rw [← hV] at XA6
          have D6 := hid (D5.out.later (below1 wr (.cells #[.slice to ts.length tc, .slice qo q.length qc] 26)))
          rw [← hV] at D6
          have C6 := hid (C5.out.later (below1 wr (.cells #[.slice to ts.length tc, .slice qo q.length qc] 26)))
          rw [← hV] at C6
          have hR6 : Grew p w w6 := by rw [hV]; exact hR5.trans (Grew.alloc p _ _)
          have hz6 : wr.heap.size ≤ w6.heap.size := by rw [hV]; simp
          have H6 := hid hV
          clear hV XR5 XA5 D5 C5
          have XX6 : Hid (Bx w6 wr.heap.size [.slice to ts.length tc, .slice qo q.length qc]) := by rw [H6.out]; exact Bx.new [.slice to ts.length tc, .slice qo q.length qc] _ rfl
          have hy6 : wr.heap.size < w6.heap.size := XX6.out.size
          go_wp2_with fail
          clear r0 rf0 r1 rf1 rz a0 af0 a1 af1 az
          rw [← H6.out]
          clear H6
          refine (pick_any 9 p co cap bs k0 sd0 w6 hl (by omega) C6.out).mono ?_
          rintro e w7 ⟨⟨y, rfl, h0y, h1y⟩, hD⟩
          obtain ⟨k7, sd7, hk7, hC7, hg7, hsz7⟩ := hD.grew
          have XR7 := hid (XR6.out.grew hg7 (by omega))
          have XA7 := hid (XA6.out.grew hg7 (by omega))
          have XX7 := hid (XX6.out.grew hg7 (by omega))
          have D7 := hid (D6.out.grew hg7 (by omega))
          have C7 := hid hC7
          have hR7 : Grew p w w7 := hR6.trans hg7
          have hz7 : w6.heap.size ≤ w7.heap.size := hg7.size
          clear XR6 XA6 XX6 D6 C6 hD hg7 hC7 hsz7
          have hy9 : y = 0 ∨ y = 1 ∨ y = 2 ∨ y = 3 ∨ y = 4 ∨ y = 5 ∨ y = 6 ∨ y = 7 ∨ y = 8 := by omega
          clear h0y h1y
          rcases hy9 with rfl | rfl | rfl | rfl | rfl | rfl | rfl | rfl | rfl
          · have r0 := XR7.out.c 0 rfl
            have rf0 := XR7.out.f 0 rfl
            have r1 := XR7.out.c 1 rfl
            have rf1 := XR7.out.f 1 rfl
            have rz := XR7.out.size
            have a0 := XA7.out.c 0 rfl
            have af0 := XA7.out.f 0 rfl
            have a1 := XA7.out.c 1 rfl
            have af1 := XA7.out.f 1 rfl
            have az := XA7.out.size
            have x0 := XX7.out.c 0 rfl
            have xf0 := XX7.out.f 0 rfl
            have x1 := XX7.out.c 1 rfl
            have xf1 := XX7.out.f 1 rfl
            have xz := XX7.out.size
            go_wp2_with fail
            clear r0 rf0 r1 rf1 rz a0 af0 a1 af1 az x0 xf0 x1 xf1 xz
            refine (stepSpawn to tc ts qo qc q w7 (by omega) (by omega) D7.out).mono ?_
            rintro e w8 ⟨⟨vto, vtc, vts, vqo, vqc, vq, iv, cv, rfl, hS1⟩, hb8⟩
            have XR8 := hid (XR7.out.later hb8)
            have XA8 := hid (XA7.out.later hb8)
            have XX8 := hid (XX7.out.later hb8)
            have D8 := hid (D7.out.later hb8)
            have C8 := hid (C7.out.later hb8)
            have hR8 : Grew p w w8 := hR7.trans (Grew.of_below hb8)
            have hz8 : w7.heap.size ≤ w8.heap.size := hb8.size
            clear XR7 XA7 XX7 D7 C7 hb8
            by_cases hc : cv = 0
            · obtain ⟨hS, hE⟩ := hS1 hc
              have E8 := hid hE
              have HS := hid hS
              have hc1 : (cv == 0) = true := by simpa using hc
              have hc2 : decide (cv = 0) = true := by simpa using hc
              clear hc hS hE hS1
              have r0 := XR8.out.c 0 rfl
              have rf0 := XR8.out.f 0 rfl
              have r1 := XR8.out.c 1 rfl
              have rf1 := XR8.out.f 1 rfl
              have rz := XR8.out.size
              have a0 := XA8.out.c 0 rfl
              have af0 := XA8.out.f 0 rfl
              have a1 := XA8.out.c 1 rfl
              have af1 := XA8.out.f 1 rfl
              have az := XA8.out.size
              have x0 := XX8.out.c 0 rfl
              have xf0 := XX8.out.f 0 rfl
              have x1 := XX8.out.c 1 rfl
              have xf1 := XX8.out.f 1 rfl
              have xz := XX8.out.size
              obtain ⟨w9, hV⟩ : ∃ V, V = ((w8.setCell ⟨wr.heap.size, 0, none⟩ (.slice vto vts.length vtc)).setCell ⟨wr.heap.size, 1, none⟩ (.slice vqo vq.length vqc)) := ⟨_, rfl⟩
              have XR9 := hid (((XR8.out.other (a := ⟨wr.heap.size, 0, none⟩) (by dsimp only; omega) (.slice vto vts.length vtc)).other (a := ⟨wr.heap.size, 1, none⟩) (by dsimp only; omega) (.slice vqo vq.length vqc)))
              rw [← hV] at XR9
              have XA9 := hid (((XA8.out.other (a := ⟨wr.heap.size, 0, none⟩) (by dsimp only; omega) (.slice vto vts.length vtc)).other (a := ⟨wr.heap.size, 1, none⟩) (by dsimp only; omega) (.slice vqo vq.length vqc)))
              rw [← hV] at XA9
              have XX9 := hid (((XX8.out.set 0 (.slice vto vts.length vtc)).set 1 (.slice vqo vq.length vqc)))
              rw [← hV] at XX9
              have D9 := hid (((D8.out.setOff (a := ⟨wr.heap.size, 0, none⟩) (by dsimp only; omega) (.slice vto vts.length vtc)).setOff (a := ⟨wr.heap.size, 1, none⟩) (by dsimp only; omega) (.slice vqo vq.length vqc)))
              rw [← hV] at D9
              have E9 := hid (((E8.out.setOff (a := ⟨wr.heap.size, 0, none⟩) (by dsimp only; omega) (.slice vto vts.length vtc)).setOff (a := ⟨wr.heap.size, 1, none⟩) (by dsimp only; omega) (.slice vqo vq.length vqc)))
              rw [← hV] at E9
              have C9 := hid (((C8.out.other (a := ⟨wr.heap.size, 0, none⟩) (by dsimp only; omega) (.slice vto vts.length vtc)).other (a := ⟨wr.heap.size, 1, none⟩) (by dsimp only; omega) (.slice vqo vq.length vqc)))
              rw [← hV] at C9
              have hR9 : Grew p w w9 := by rw [hV]; exact ((hR8.set (a := ⟨wr.heap.size, 0, none⟩) (by dsimp only; omega) (.slice vto vts.length vtc)).set (a := ⟨wr.heap.size, 1, none⟩) (by dsimp only; omega) (.slice vqo vq.length vqc))
              have hz9 : w8.heap.size ≤ w9.heap.size := by rw [hV]; simp
              have H9 := hid hV
              clear hV XR8 XA8 XX8 D8 E8 C8
              go_upto_region 25 with fail
              clear r0 rf0 r1 rf1 rz a0 af0 a1 af1 az x0 xf0 x1 xf1 xz
              rw [← H9.out]
              clear H9
              have r0 := XR9.out.c 0 rfl
              have rf0 := XR9.out.f 0 rfl
              have r1 := XR9.out.c 1 rfl
              have rf1 := XR9.out.f 1 rfl
              have rz := XR9.out.size
              have a0 := XA9.out.c 0 rfl
              have af0 := XA9.out.f 0 rfl
              have a1 := XA9.out.c 1 rfl
              have af1 := XA9.out.f 1 rfl
              have az := XA9.out.size
              have x0 := XX9.out.c 0 rfl
              have xf0 := XX9.out.f 0 rfl
              have x1 := XX9.out.c 1 rfl
              have xf1 := XX9.out.f 1 rfl
              have xz := XX9.out.size
              obtain ⟨w10, hV⟩ : ∃ V, V = ((w9.setCell ⟨(w.heap.size + 1), 0, none⟩ (.slice vto vts.length vtc)).setCell ⟨(w.heap.size + 1), 1, none⟩ (.slice vqo vq.length vqc)) := ⟨_, rfl⟩
              have XR10 := hid (((XR9.out.other (a := ⟨(w.heap.size + 1), 0, none⟩) (by dsimp only; omega) (.slice vto vts.length vtc)).other (a := ⟨(w.heap.size + 1), 1, none⟩) (by dsimp only; omega) (.slice vqo vq.length vqc)))
              rw [← hV] at XR10
              have XA10 := hid (((XA9.out.set 0 (.slice vto vts.length vtc)).set 1 (.slice vqo vq.length vqc)))
              rw [← hV] at XA10
              have XX10 := hid (((XX9.out.other (a := ⟨(w.heap.size + 1), 0, none⟩) (by dsimp only; omega) (.slice vto vts.length vtc)).other (a := ⟨(w.heap.size + 1), 1, none⟩) (by dsimp only; omega) (.slice vqo vq.length vqc)))
              rw [← hV] at XX10
              have D10 := hid (((D9.out.setOff (a := ⟨(w.heap.size + 1), 0, none⟩) (by dsimp only; omega) (.slice vto vts.length vtc)).setOff (a := ⟨(w.heap.size + 1), 1, none⟩) (by dsimp only; omega) (.slice vqo vq.length vqc)))
              rw [← hV] at D10
              have E10 := hid (((E9.out.setOff (a := ⟨(w.heap.size + 1), 0, none⟩) (by dsimp only; omega) (.slice vto vts.length vtc)).setOff (a := ⟨(w.heap.size + 1), 1, none⟩) (by dsimp only; omega) (.slice vqo vq.length vqc)))
              rw [← hV] at E10
              have C10 := hid (((C9.out.other (a := ⟨(w.heap.size + 1), 0, none⟩) (by dsimp only; omega) (.slice vto vts.length vtc)).other (a := ⟨(w.heap.size + 1), 1, none⟩) (by dsimp only; omega) (.slice vqo vq.length vqc)))
              rw [← hV] at C10
              have hR10 : Grew p w w10 := by rw [hV]; exact ((hR9.set (a := ⟨(w.heap.size + 1), 0, none⟩) (by dsimp only; omega) (.slice vto vts.length vtc)).set (a := ⟨(w.heap.size + 1), 1, none⟩) (by dsimp only; omega) (.slice vqo vq.length vqc))
              have hz10 : w9.heap.size ≤ w10.heap.size := by rw [hV]; simp
              have H10 := hid hV
              clear hV XR9 XA9 XX9 D9 E9 C9
              go_wp2
              clear r0 rf0 r1 rf1 rz a0 af0 a1 af1 az x0 xf0 x1 xf1 xz
              rw [← H10.out]
              clear H10
              have S2 := HS.out
              go_roundw
              case rel => exact ⟨m, k7, sd7, vto, vtc, vts, vqo, vqc, vq, by go_num, by omega, S2.2.1, S2.2.2.1, hid S2.2.2.2, by omega, XR10, XA10, hid (E10.out.wide (by omega) (by omega)), C10, hR10, by omega⟩
              case measure => simp [intOf] <;> omega
            · have hc1 : (cv == 0) = false := by simpa using hc
              have hc2 : decide (cv = 0) = false := by simpa using hc
              clear hc hS1
              have r0 := XR8.out.c 0 rfl
              have rf0 := XR8.out.f 0 rfl
              have r1 := XR8.out.c 1 rfl
              have rf1 := XR8.out.f 1 rfl
              have rz := XR8.out.size
              have a0 := XA8.out.c 0 rfl
              have af0 := XA8.out.f 0 rfl
              have a1 := XA8.out.c 1 rfl
              have af1 := XA8.out.f 1 rfl
              have az := XA8.out.size
              have x0 := XX8.out.c 0 rfl
              have xf0 := XX8.out.f 0 rfl
              have x1 := XX8.out.c 1 rfl
              have xf1 := XX8.out.f 1 rfl
              have xz := XX8.out.size
              obtain ⟨w9, hV⟩ : ∃ V, V = ((w8.setCell ⟨wr.heap.size, 0, none⟩ (.slice vto vts.length vtc)).setCell ⟨wr.heap.size, 1, none⟩ (.slice vqo vq.length vqc)) := ⟨_, rfl⟩
              have XR9 := hid (((XR8.out.other (a := ⟨wr.heap.size, 0, none⟩) (by dsimp only; omega) (.slice vto vts.length vtc)).other (a := ⟨wr.heap.size, 1, none⟩) (by dsimp only; omega) (.slice vqo vq.length vqc)))
              rw [← hV] at XR9
              have XA9 := hid (((XA8.out.other (a := ⟨wr.heap.size, 0, none⟩) (by dsimp only; omega) (.slice vto vts.length vtc)).other (a := ⟨wr.heap.size, 1, none⟩) (by dsimp only; omega) (.slice vqo vq.length vqc)))
              rw [← hV] at XA9
              have XX9 := hid (((XX8.out.set 0 (.slice vto vts.length vtc)).set 1 (.slice vqo vq.length vqc)))
              rw [← hV] at XX9
              have D9 := hid (((D8.out.setOff (a := ⟨wr.heap.size, 0, none⟩) (by dsimp only; omega) (.slice vto vts.length vtc)).setOff (a := ⟨wr.heap.size, 1, none⟩) (by dsimp only; omega) (.slice vqo vq.length vqc)))
              rw [← hV] at D9
              have C9 := hid (((C8.out.other (a := ⟨wr.heap.size, 0, none⟩) (by dsimp only; omega) (.slice vto vts.length vtc)).other (a := ⟨wr.heap.size, 1, none⟩) (by dsimp only; omega) (.slice vqo vq.length vqc)))
              rw [← hV] at C9
              have hR9 : Grew p w w9 := by rw [hV]; exact ((hR8.set (a := ⟨wr.heap.size, 0, none⟩) (by dsimp only; omega) (.slice vto vts.length vtc)).set (a := ⟨wr.heap.size, 1, none⟩) (by dsimp only; omega) (.slice vqo vq.length vqc))
              have hz9 : w8.heap.size ≤ w9.heap.size := by rw [hV]; simp
              have H9 := hid hV
              clear hV XR8 XA8 XX8 D8 C8
              go_upto_region 25 with fail
              clear r0 rf0 r1 rf1 rz a0 af0 a1 af1 az x0 xf0 x1 xf1 xz
              rw [← H9.out]
              clear H9
              have r0 := XR9.out.c 0 rfl
              have rf0 := XR9.out.f 0 rfl
              have r1 := XR9.out.c 1 rfl
              have rf1 := XR9.out.f 1 rfl
              have rz := XR9.out.size
              have a0 := XA9.out.c 0 rfl
              have af0 := XA9.out.f 0 rfl
              have a1 := XA9.out.c 1 rfl
              have af1 := XA9.out.f 1 rfl
              have az := XA9.out.size
              have x0 := XX9.out.c 0 rfl
              have xf0 := XX9.out.f 0 rfl
              have x1 := XX9.out.c 1 rfl
              have xf1 := XX9.out.f 1 rfl
              have xz := XX9.out.size
              go_wp2
              clear r0 rf0 r1 rf1 rz a0 af0 a1 af1 az x0 xf0 x1 xf1 xz
              go_roundw
              case rel => exact ⟨m, k7, sd7, to, tc, ts, qo, qc, q, by go_num, by omega, hts, hq, HIR, by omega, XR9, XA9, hid (D9.out.wide (by omega) (by omega)), C9, hR9, by omega⟩
              case measure => simp [intOf] <;> omega
          · have r0 := XR7.out.c 0 rfl
            have rf0 := XR7.out.f 0 rfl
            have r1 := XR7.out.c 1 rfl
            have rf1 := XR7.out.f 1 rfl
            have rz := XR7.out.size
            have a0 := XA7.out.c 0 rfl
            have af0 := XA7.out.f 0 rfl
            have a1 := XA7.out.c 1 rfl
            have af1 := XA7.out.f 1 rfl
            have az := XA7.out.size
            have x0 := XX7.out.c 0 rfl
            have xf0 := XX7.out.f 0 rfl
            have x1 := XX7.out.c 1 rfl
            have xf1 := XX7.out.f 1 rfl
            have xz := XX7.out.size
            go_wp2_with fail
            clear r0 rf0 r1 rf1 rz a0 af0 a1 af1 az x0 xf0 x1 xf1 xz
            refine (stepSpawn to tc ts qo qc q w7 (by omega) (by omega) D7.out).mono ?_
            rintro e w8 ⟨⟨vto, vtc, vts, vqo, vqc, vq, iv, cv, rfl, hS1⟩, hb8⟩
            have XR8 := hid (XR7.out.later hb8)
            have XA8 := hid (XA7.out.later hb8)
            have XX8 := hid (XX7.out.later hb8)
            have D8 := hid (D7.out.later hb8)
            have C8 := hid (C7.out.later hb8)
            have hR8 : Grew p w w8 := hR7.trans (Grew.of_below hb8)
            have hz8 : w7.heap.size ≤ w8.heap.size := hb8.size
            clear XR7 XA7 XX7 D7 C7 hb8
            by_cases hc : cv = 0
            · obtain ⟨hS, hE⟩ := hS1 hc
              have E8 := hid hE
              have HS := hid hS
              have hc1 : (cv == 0) = true := by simpa using hc
              have hc2 : decide (cv = 0) = true := by simpa using hc
              clear hc hS hE hS1
              have r0 := XR8.out.c 0 rfl
              have rf0 := XR8.out.f 0 rfl
              have r1 := XR8.out.c 1 rfl
              have rf1 := XR8.out.f 1 rfl
              have rz := XR8.out.size
              have a0 := XA8.out.c 0 rfl
              have af0 := XA8.out.f 0 rfl
              have a1 := XA8.out.c 1 rfl
              have af1 := XA8.out.f 1 rfl
              have az := XA8.out.size
              have x0 := XX8.out.c 0 rfl
              have xf0 := XX8.out.f 0 rfl
              have x1 := XX8.out.c 1 rfl
              have xf1 := XX8.out.f 1 rfl
              have xz := XX8.out.size
              obtain ⟨w9, hV⟩ : ∃ V, V = ((w8.setCell ⟨wr.heap.size, 0, none⟩ (.slice vto vts.length vtc)).setCell ⟨wr.heap.size, 1, none⟩ (.slice vqo vq.length vqc)) := ⟨_, rfl⟩
              have XR9 := hid (((XR8.out.other (a := ⟨wr.heap.size, 0, none⟩) (by dsimp only; omega) (.slice vto vts.length vtc)).other (a := ⟨wr.heap.size, 1, none⟩) (by dsimp only; omega) (.slice vqo vq.length vqc)))
              rw [← hV] at XR9
              have XA9 := hid (((XA8.out.other (a := ⟨wr.heap.size, 0, none⟩) (by dsimp only; omega) (.slice vto vts.length vtc)).other (a := ⟨wr.heap.size, 1, none⟩) (by dsimp only; omega) (.slice vqo vq.length vqc)))
              rw [← hV] at XA9
              have XX9 := hid (((XX8.out.set 0 (.slice vto vts.length vtc)).set 1 (.slice vqo vq.length vqc)))
              rw [← hV] at XX9
              have D9 := hid (((D8.out.setOff (a := ⟨wr.heap.size, 0, none⟩) (by dsimp only; omega) (.slice vto vts.length vtc)).setOff (a := ⟨wr.heap.size, 1, none⟩) (by dsimp only; omega) (.slice vqo vq.length vqc)))
              rw [← hV] at D9
              have E9 := hid (((E8.out.setOff (a := ⟨wr.heap.size, 0, none⟩) (by dsimp only; omega) (.slice vto vts.length vtc)).setOff (a := ⟨wr.heap.size, 1, none⟩) (by dsimp only; omega) (.slice vqo vq.length vqc)))
              rw [← hV] at E9
              have C9 := hid (((C8.out.other (a := ⟨wr.heap.size, 0, none⟩) (by dsimp only; omega) (.slice vto vts.length vtc)).other (a := ⟨wr.heap.size, 1, none⟩) (by dsimp only; omega) (.slice vqo vq.length vqc)))
              rw [← hV] at C9
              have hR9 : Grew p w w9 := by rw [hV]; exact ((hR8.set (a := ⟨wr.heap.size, 0, none⟩) (by dsimp only; omega) (.slice vto vts.length vtc)).set (a := ⟨wr.heap.size, 1, none⟩) (by dsimp only; omega) (.slice vqo vq.length vqc))
              have hz9 : w8.heap.size ≤ w9.heap.size := by rw [hV]; simp
              have H9 := hid hV
              clear hV XR8 XA8 XX8 D8 E8 C8
              go_upto_region 25 with fail
              clear r0 rf0 r1 rf1 rz a0 af0 a1 af1 az x0 xf0 x1 xf1 xz
              rw [← H9.out]
              clear H9
              have r0 := XR9.out.c 0 rfl
              have rf0 := XR9.out.f 0 rfl
              have r1 := XR9.out.c 1 rfl
              have rf1 := XR9.out.f 1 rfl
              have rz := XR9.out.size
              have a0 := XA9.out.c 0 rfl
              have af0 := XA9.out.f 0 rfl
              have a1 := XA9.out.c 1 rfl
              have af1 := XA9.out.f 1 rfl
              have az := XA9.out.size
              have x0 := XX9.out.c 0 rfl
              have xf0 := XX9.out.f 0 rfl
              have x1 := XX9.out.c 1 rfl
              have xf1 := XX9.out.f 1 rfl
              have xz := XX9.out.size
              obtain ⟨w10, hV⟩ : ∃ V, V = ((w9.setCell ⟨(w.heap.size + 1), 0, none⟩ (.slice vto vts.length vtc)).setCell ⟨(w.heap.size + 1), 1, none⟩ (.slice vqo vq.length vqc)) := ⟨_, rfl⟩
              have XR10 := hid (((XR9.out.other (a := ⟨(w.heap.size + 1), 0, none⟩) (by dsimp only; omega) (.slice vto vts.length vtc)).other (a := ⟨(w.heap.size + 1), 1, none⟩) (by dsimp only; omega) (.slice vqo vq.length vqc)))
              rw [← hV] at XR10
              have XA10 := hid (((XA9.out.set 0 (.slice vto vts.length vtc)).set 1 (.slice vqo vq.length vqc)))
              rw [← hV] at XA10
              have XX10 := hid (((XX9.out.other (a := ⟨(w.heap.size + 1), 0, none⟩) (by dsimp only; omega) (.slice vto vts.length vtc)).other (a := ⟨(w.heap.size + 1), 1, none⟩) (by dsimp only; omega) (.slice vqo vq.length vqc)))
              rw [← hV] at XX10
              have D10 := hid (((D9.out.setOff (a := ⟨(w.heap.size + 1), 0, none⟩) (by dsimp only; omega) (.slice vto vts.length vtc)).setOff (a := ⟨(w.heap.size + 1), 1, none⟩) (by dsimp only; omega) (.slice vqo vq.length vqc)))
              rw [← hV] at D10
              have E10 := hid (((E9.out.setOff (a := ⟨(w.heap.size + 1), 0, none⟩) (by dsimp only; omega) (.slice vto vts.length vtc)).setOff (a := ⟨(w.heap.size + 1), 1, none⟩) (by dsimp only; omega) (.slice vqo vq.length vqc)))
              rw [← hV] at E10
              have C10 := hid (((C9.out.other (a := ⟨(w.heap.size + 1), 0, none⟩) (by dsimp only; omega) (.slice vto vts.length vtc)).other (a := ⟨(w.heap.size + 1), 1, none⟩) (by dsimp only; omega) (.slice vqo vq.length vqc)))
              rw [← hV] at C10
              have hR10 : Grew p w w10 := by rw [hV]; exact ((hR9.set (a := ⟨(w.heap.size + 1), 0, none⟩) (by dsimp only; omega) (.slice vto vts.length vtc)).set (a := ⟨(w.heap.size + 1), 1, none⟩) (by dsimp only; omega) (.slice vqo vq.length vqc))
              have hz10 : w9.heap.size ≤ w10.heap.size := by rw [hV]; simp
              have H10 := hid hV
              clear hV XR9 XA9 XX9 D9 E9 C9
              go_wp2
              clear r0 rf0 r1 rf1 rz a0 af0 a1 af1 az x0 xf0 x1 xf1 xz
              rw [← H10.out]
              clear H10
              have S2 := HS.out
              go_roundw
              case rel => exact ⟨m, k7, sd7, vto, vtc, vts, vqo, vqc, vq, by go_num, by omega, S2.2.1, S2.2.2.1, hid S2.2.2.2, by omega, XR10, XA10, hid (E10.out.wide (by omega) (by omega)), C10, hR10, by omega⟩
              case measure => simp [intOf] <;> omega
            · have hc1 : (cv == 0) = false := by simpa using hc
              have hc2 : decide (cv = 0) = false := by simpa using hc
              clear hc hS1
              have r0 := XR8.out.c 0 rfl
              have rf0 := XR8.out.f 0 rfl
              have r1 := XR8.out.c 1 rfl
              have rf1 := XR8.out.f 1 rfl
              have rz := XR8.out.size
              have a0 := XA8.out.c 0 rfl
              have af0 := XA8.out.f 0 rfl
              have a1 := XA8.out.c 1 rfl
              have af1 := XA8.out.f 1 rfl
              have az := XA8.out.size
              have x0 := XX8.out.c 0 rfl
              have xf0 := XX8.out.f 0 rfl
              have x1 := XX8.out.c 1 rfl
              have xf1 := XX8.out.f 1 rfl
              have xz := XX8.out.size
              obtain ⟨w9, hV⟩ : ∃ V, V = ((w8.setCell ⟨wr.heap.size, 0, none⟩ (.slice vto vts.length vtc)).setCell ⟨wr.heap.size, 1, none⟩ (.slice vqo vq.length vqc)) := ⟨_, rfl⟩
              have XR9 := hid (((XR8.out.other (a := ⟨wr.heap.size, 0, none⟩) (by dsimp only; omega) (.slice vto vts.length vtc)).other (a := ⟨wr.heap.size, 1, none⟩) (by dsimp only; omega) (.slice vqo vq.length vqc)))
              rw [← hV] at XR9
              have XA9 := hid (((XA8.out.other (a := ⟨wr.heap.size, 0, none⟩) (by dsimp only; omega) (.slice vto vts.length vtc)).other (a := ⟨wr.heap.size, 1, none⟩) (by dsimp only; omega) (.slice vqo vq.length vqc)))
              rw [← hV] at XA9
              have XX9 := hid (((XX8.out.set 0 (.slice vto vts.length vtc)).set 1 (.slice vqo vq.length vqc)))
              rw [← hV] at XX9
              have D9 := hid (((D8.out.setOff (a := ⟨wr.heap.size, 0, none⟩) (by dsimp only; omega) (.slice vto vts.length vtc)).setOff (a := ⟨wr.heap.size, 1, none⟩) (by dsimp only; omega) (.slice vqo vq.length vqc)))
              rw [← hV] at D9
              have C9 := hid (((C8.out.other (a := ⟨wr.heap.size, 0, none⟩) (by dsimp only; omega) (.slice vto vts.length vtc)).other (a := ⟨wr.heap.size, 1, none⟩) (by dsimp only; omega) (.slice vqo vq.length vqc)))
              rw [← hV] at C9
              have hR9 : Grew p w w9 := by rw [hV]; exact ((hR8.set (a := ⟨wr.heap.size, 0, none⟩) (by dsimp only; omega) (.slice vto vts.length vtc)).set (a := ⟨wr.heap.size, 1, none⟩) (by dsimp only; omega) (.slice vqo vq.length vqc))
              have hz9 : w8.heap.size ≤ w9.heap.size := by rw [hV]; simp
              have H9 := hid hV
              clear hV XR8 XA8 XX8 D8 C8
              go_upto_region 25 with fail
              clear r0 rf0 r1 rf1 rz a0 af0 a1 af1 az x0 xf0 x1 xf1 xz
              rw [← H9.out]
              clear H9
              have r0 := XR9.out.c 0 rfl
              have rf0 := XR9.out.f 0 rfl
              have r1 := XR9.out.c 1 rfl
              have rf1 := XR9.out.f 1 rfl
              have rz := XR9.out.size
              have a0 := XA9.out.c 0 rfl
              have af0 := XA9.out.f 0 rfl
              have a1 := XA9.out.c 1 rfl
              have af1 := XA9.out.f 1 rfl
              have az := XA9.out.size
              have x0 := XX9.out.c 0 rfl
              have xf0 := XX9.out.f 0 rfl
              have x1 := XX9.out.c 1 rfl
              have xf1 := XX9.out.f 1 rfl
              have xz := XX9.out.size
              go_wp2
              clear r0 rf0 r1 rf1 rz a0 af0 a1 af1 az x0 xf0 x1 xf1 xz
              go_roundw
              case rel => exact ⟨m, k7, sd7, to, tc, ts, qo, qc, q, by go_num, by omega, hts, hq, HIR, by omega, XR9, XA9, hid (D9.out.wide (by omega) (by omega)), C9, hR9, by omega⟩
              case measure => simp [intOf] <;> omega
          · have r0 := XR7.out.c 0 rfl
            have rf0 := XR7.out.f 0 rfl
            have r1 := XR7.out.c 1 rfl
            have rf1 := XR7.out.f 1 rfl
            have rz := XR7.out.size
            have a0 := XA7.out.c 0 rfl
            have af0 := XA7.out.f 0 rfl
            have a1 := XA7.out.c 1 rfl
            have af1 := XA7.out.f 1 rfl
            have az := XA7.out.size
            have x0 := XX7.out.c 0 rfl
            have xf0 := XX7.out.f 0 rfl
            have x1 := XX7.out.c 1 rfl
            have xf1 := XX7.out.f 1 rfl
            have xz := XX7.out.size
            go_wp2_with fail
            clear r0 rf0 r1 rf1 rz a0 af0 a1 af1 az x0 xf0 x1 xf1 xz
            refine (stepSpawn to tc ts qo qc q w7 (by omega) (by omega) D7.out).mono ?_
            rintro e w8 ⟨⟨vto, vtc, vts, vqo, vqc, vq, iv, cv, rfl, hS1⟩, hb8⟩
            have XR8 := hid (XR7.out.later hb8)
            have XA8 := hid (XA7.out.later hb8)
            have XX8 := hid (XX7.out.later hb8)
            have D8 := hid (D7.out.later hb8)
            have C8 := hid (C7.out.later hb8)
            have hR8 : Grew p w w8 := hR7.trans (Grew.of_below hb8)
            have hz8 : w7.heap.size ≤ w8.heap.size := hb8.size
            clear XR7 XA7 XX7 D7 C7 hb8
            by_cases hc : cv = 0
            · obtain ⟨hS, hE⟩ := hS1 hc
              have E8 := hid hE
              have HS := hid hS
              have hc1 : (cv == 0) = true := by simpa using hc
              have hc2 : decide (cv = 0) = true := by simpa using hc
              clear hc hS hE hS1
              have r0 := XR8.out.c 0 rfl
              have rf0 := XR8.out.f 0 rfl
              have r1 := XR8.out.c 1 rfl
              have rf1 := XR8.out.f 1 rfl
              have rz := XR8.out.size
              have a0 := XA8.out.c 0 rfl
              have af0 := XA8.out.f 0 rfl
              have a1 := XA8.out.c 1 rfl
              have af1 := XA8.out.f 1 rfl
              have az := XA8.out.size
              have x0 := XX8.out.c 0 rfl
              have xf0 := XX8.out.f 0 rfl
              have x1 := XX8.out.c 1 rfl
              have xf1 := XX8.out.f 1 rfl
              have xz := XX8.out.size
              obtain ⟨w9, hV⟩ : ∃ V, V = ((w8.setCell ⟨wr.heap.size, 0, none⟩ (.slice vto vts.length vtc)).setCell ⟨wr.heap.size, 1, none⟩ (.slice vqo vq.length vqc)) := ⟨_, rfl⟩
              have XR9 := hid (((XR8.out.other (a := ⟨wr.heap.size, 0, none⟩) (by dsimp only; omega) (.slice vto vts.length vtc)).other (a := ⟨wr.heap.size, 1, none⟩) (by dsimp only; omega) (.slice vqo vq.length vqc)))
              rw [← hV] at XR9
              have XA9 := hid (((XA8.out.other (a := ⟨wr.heap.size, 0, none⟩) (by dsimp only; omega) (.slice vto vts.length vtc)).other (a := ⟨wr.heap.size, 1, none⟩) (by dsimp only; omega) (.slice vqo vq.length vqc)))
              rw [← hV] at XA9
              have XX9 := hid (((XX8.out.set 0 (.slice vto vts.length vtc)).set 1 (.slice vqo vq.length vqc)))
              rw [← hV] at XX9
              have D9 := hid (((D8.out.setOff (a := ⟨wr.heap.size, 0, none⟩) (by dsimp only; omega) (.slice vto vts.length vtc)).setOff (a := ⟨wr.heap.size, 1, none⟩) (by dsimp only; omega) (.slice vqo vq.length vqc)))
              rw [← hV] at D9
              have E9 := hid (((E8.out.setOff (a := ⟨wr.heap.size, 0, none⟩) (by dsimp only; omega) (.slice vto vts.length vtc)).setOff (a := ⟨wr.heap.size, 1, none⟩) (by dsimp only; omega) (.slice vqo vq.length vqc)))
              rw [← hV] at E9
              have C9 := hid (((C8.out.other (a := ⟨wr.heap.size, 0, none⟩) (by dsimp only; omega) (.slice vto vts.length vtc)).other (a := ⟨wr.heap.size, 1, none⟩) (by dsimp only; omega) (.slice vqo vq.length vqc)))
              rw [← hV] at C9
              have hR9 : Grew p w w9 := by rw [hV]; exact ((hR8.set (a := ⟨wr.heap.size, 0, none⟩) (by dsimp only; omega) (.slice vto vts.length vtc)).set (a := ⟨wr.heap.size, 1, none⟩) (by dsimp only; omega) (.slice vqo vq.length vqc))
              have hz9 : w8.heap.size ≤ w9.heap.size := by rw [hV]; simp
              have H9 := hid hV
              clear hV XR8 XA8 XX8 D8 E8 C8
              go_upto_region 25 with fail
              clear r0 rf0 r1 rf1 rz a0 af0 a1 af1 az x0 xf0 x1 xf1 xz
              rw [← H9.out]
              clear H9
              have r0 := XR9.out.c 0 rfl
              have rf0 := XR9.out.f 0 rfl
              have r1 := XR9.out.c 1 rfl
              have rf1 := XR9.out.f 1 rfl
              have rz := XR9.out.size
              have a0 := XA9.out.c 0 rfl
              have af0 := XA9.out.f 0 rfl
              have a1 := XA9.out.c 1 rfl
              have af1 := XA9.out.f 1 rfl
              have az := XA9.out.size
              have x0 := XX9.out.c 0 rfl
              have xf0 := XX9.out.f 0 rfl
              have x1 := XX9.out.c 1 rfl
              have xf1 := XX9.out.f 1 rfl
              have xz := XX9.out.size
              obtain ⟨w10, hV⟩ : ∃ V, V = ((w9.setCell ⟨(w.heap.size + 1), 0, none⟩ (.slice vto vts.length vtc)).setCell ⟨(w.heap.size + 1), 1, none⟩ (.slice vqo vq.length vqc)) := ⟨_, rfl⟩
              have XR10 := hid (((XR9.out.other (a := ⟨(w.heap.size + 1), 0, none⟩) (by dsimp only; omega) (.slice vto vts.length vtc)).other (a := ⟨(w.heap.size + 1), 1, none⟩) (by dsimp only; omega) (.slice vqo vq.length vqc)))
              rw [← hV] at XR10
              have XA10 := hid (((XA9.out.set 0 (.slice vto vts.length vtc)).set 1 (.slice vqo vq.length vqc)))
              rw [← hV] at XA10
              have XX10 := hid (((XX9.out.other (a := ⟨(w.heap.size + 1), 0, none⟩) (by dsimp only; omega) (.slice vto vts.length vtc)).other (a := ⟨(w.heap.size + 1), 1, none⟩) (by dsimp only; omega) (.slice vqo vq.length vqc)))
              rw [← hV] at XX10
              have D10 := hid (((D9.out.setOff (a := ⟨(w.heap.size + 1), 0, none⟩) (by dsimp only; omega) (.slice vto vts.length vtc)).setOff (a := ⟨(w.heap.size + 1), 1, none⟩) (by dsimp only; omega) (.slice vqo vq.length vqc)))
              rw [← hV] at D10
              have E10 := hid (((E9.out.setOff (a := ⟨(w.heap.size + 1), 0, none⟩) (by dsimp only; omega) (.slice vto vts.length vtc)).setOff (a := ⟨(w.heap.size + 1), 1, none⟩) (by dsimp only; omega) (.slice vqo vq.length vqc)))
              rw [← hV] at E10
              have C10 := hid (((C9.out.other (a := ⟨(w.heap.size + 1), 0, none⟩) (by dsimp only; omega) (.slice vto vts.length vtc)).other (a := ⟨(w.heap.size + 1), 1, none⟩) (by dsimp only; omega) (.slice vqo vq.length vqc)))
              rw [← hV] at C10
              have hR10 : Grew p w w10 := by rw [hV]; exact ((hR9.set (a := ⟨(w.heap.size + 1), 0, none⟩) (by dsimp only; omega) (.slice vto vts.length vtc)).set (a := ⟨(w.heap.size + 1), 1, none⟩) (by dsimp only; omega) (.slice vqo vq.length vqc))
              have hz10 : w9.heap.size ≤ w10.heap.size := by rw [hV]; simp
              have H10 := hid hV
              clear hV XR9 XA9 XX9 D9 E9 C9
              go_wp2
              clear r0 rf0 r1 rf1 rz a0 af0 a1 af1 az x0 xf0 x1 xf1 xz
              rw [← H10.out]
              clear H10
              have S2 := HS.out
              go_roundw
              case rel => exact ⟨m, k7, sd7, vto, vtc, vts, vqo, vqc, vq, by go_num, by omega, S2.2.1, S2.2.2.1, hid S2.2.2.2, by omega, XR10, XA10, hid (E10.out.wide (by omega) (by omega)), C10, hR10, by omega⟩
              case measure => simp [intOf] <;> omega
            · have hc1 : (cv == 0) = false := by simpa using hc
              have hc2 : decide (cv = 0) = false := by simpa using hc
              clear hc hS1
              have r0 := XR8.out.c 0 rfl
              have rf0 := XR8.out.f 0 rfl
              have r1 := XR8.out.c 1 rfl
              have rf1 := XR8.out.f 1 rfl
              have rz := XR8.out.size
              have a0 := XA8.out.c 0 rfl
              have af0 := XA8.out.f 0 rfl
              have a1 := XA8.out.c 1 rfl
              have af1 := XA8.out.f 1 rfl
              have az := XA8.out.size
              have x0 := XX8.out.c 0 rfl
              have xf0 := XX8.out.f 0 rfl
              have x1 := XX8.out.c 1 rfl
              have xf1 := XX8.out.f 1 rfl
              have xz := XX8.out.size
              obtain ⟨w9, hV⟩ : ∃ V, V = ((w8.setCell ⟨wr.heap.size, 0, none⟩ (.slice vto vts.length vtc)).setCell ⟨wr.heap.size, 1, none⟩ (.slice vqo vq.length vqc)) := ⟨_, rfl⟩
              have XR9 := hid (((XR8.out.other (a := ⟨wr.heap.size, 0, none⟩) (by dsimp only; omega) (.slice vto vts.length vtc)).other (a := ⟨wr.heap.size, 1, none⟩) (by dsimp only; omega) (.slice vqo vq.length vqc)))
              rw [← hV] at XR9
              have XA9 := hid (((XA8.out.other (a := ⟨wr.heap.size, 0, none⟩) (by dsimp only; omega) (.slice vto vts.length vtc)).other (a := ⟨wr.heap.size, 1, none⟩) (by dsimp only; omega) (.slice vqo vq.length vqc)))
              rw [← hV] at XA9
              have XX9 := hid (((XX8.out.set 0 (.slice vto vts.length vtc)).set 1 (.slice vqo vq.length vqc)))
              rw [← hV] at XX9
              have D9 := hid (((D8.out.setOff (a := ⟨wr.heap.size, 0, none⟩) (by dsimp only; omega) (.slice vto vts.length vtc)).setOff (a := ⟨wr.heap.size, 1, none⟩) (by dsimp only; omega) (.slice vqo vq.length vqc)))
              rw [← hV] at D9
              have C9 := hid (((C8.out.other (a := ⟨wr.heap.size, 0, none⟩) (by dsimp only; omega) (.slice vto vts.length vtc)).other (a := ⟨wr.heap.size, 1, none⟩) (by dsimp only; omega) (.slice vqo vq.length vqc)))
              rw [← hV] at C9
              have hR9 : Grew p w w9 := by rw [hV]; exact ((hR8.set (a := ⟨wr.heap.size, 0, none⟩) (by dsimp only; omega) (.slice vto vts.length vtc)).set (a := ⟨wr.heap.size, 1, none⟩) (by dsimp only; omega) (.slice vqo vq.length vqc))
              have hz9 : w8.heap.size ≤ w9.heap.size := by rw [hV]; simp
              have H9 := hid hV
              clear hV XR8 XA8 XX8 D8 C8
              go_upto_region 25 with fail
              clear r0 rf0 r1 rf1 rz a0 af0 a1 af1 az x0 xf0 x1 xf1 xz
              rw [← H9.out]
              clear H9
              have r0 := XR9.out.c 0 rfl
              have rf0 := XR9.out.f 0 rfl
              have r1 := XR9.out.c 1 rfl
              have rf1 := XR9.out.f 1 rfl
              have rz := XR9.out.size
              have a0 := XA9.out.c 0 rfl
              have af0 := XA9.out.f 0 rfl
              have a1 := XA9.out.c 1 rfl
              have af1 := XA9.out.f 1 rfl
              have az := XA9.out.size
              have x0 := XX9.out.c 0 rfl
              have xf0 := XX9.out.f 0 rfl
              have x1 := XX9.out.c 1 rfl
              have xf1 := XX9.out.f 1 rfl
              have xz := XX9.out.size
              go_wp2
              clear r0 rf0 r1 rf1 rz a0 af0 a1 af1 az x0 xf0 x1 xf1 xz
              go_roundw
              case rel => exact ⟨m, k7, sd7, to, tc, ts, qo, qc, q, by go_num, by omega, hts, hq, HIR, by omega, XR9, XA9, hid (D9.out.wide (by omega) (by omega)), C9, hR9, by omega⟩
              case measure => simp [intOf] <;> omega
          · have r0 := XR7.out.c 0 rfl
            have rf0 := XR7.out.f 0 rfl
            have r1 := XR7.out.c 1 rfl
            have rf1 := XR7.out.f 1 rfl
            have rz := XR7.out.size
            have a0 := XA7.out.c 0 rfl
            have af0 := XA7.out.f 0 rfl
            have a1 := XA7.out.c 1 rfl
            have af1 := XA7.out.f 1 rfl
            have az := XA7.out.size
            have x0 := XX7.out.c 0 rfl
            have xf0 := XX7.out.f 0 rfl
            have x1 := XX7.out.c 1 rfl
            have xf1 := XX7.out.f 1 rfl
            have xz := XX7.out.size
            go_wp2
            have PD0 : w7.drew.cell? ⟨(w.heap.size + 1), 0, none⟩ = some (.slice to ts.length tc) := a0
            have PD1 : w7.drew.cell? ⟨(w.heap.size + 1), 1, none⟩ = some (.slice qo q.length qc) := a1
            go_region_law (first
                | (go_simp; go_at_call 6; have _g := hz8; refine (stepPick to tc ts qo qc q z w8 (by omega) (by omega) D8.out).mono ?_; rintro e w9 ⟨⟨vto, vtc, vts, vqo, vqc, vq, iv, cv, rfl, hS1⟩, hy⟩; have hb : Below w8.heap.size w8 w9 := hy; have XR9 := hid (XR8.out.grew (Grew.of_below (p := p) hb) (by omega)); have XA9 := hid (XA8.out.grew (Grew.of_below (p := p) hb) (by omega)); have XX9 := hid (XX8.out.grew (Grew.of_below (p := p) hb) (by omega)); have D9 := hid (D8.out.grew (Grew.of_below (p := p) hb) (by omega)); have C9 := hid (C8.out.later hb); have hR9 : Grew p w w9 := hR8.trans (Grew.of_below (p := p) hb); have hz9 : w8.heap.size ≤ w9.heap.size := hb.size; have P9a := XA9.out.c 0 rfl; have P9b := XA9.out.c 1 rfl; have rg0 := XR9.out.c 0 rfl; have rh0 := XR9.out.f 0 rfl; have rg1 := XR9.out.c 1 rfl; have rh1 := XR9.out.f 1 rfl; have ag0 := XA9.out.c 0 rfl; have ah0 := XA9.out.f 0 rfl; have ag1 := XA9.out.c 1 rfl; have ah1 := XA9.out.f 1 rfl; have xg0 := XX9.out.c 0 rfl; have xh0 := XX9.out.f 0 rfl; have xg1 := XX9.out.c 1 rfl; have xh1 := XX9.out.f 1 rfl; clear hy hb)
                | (go_simp; go_at_call 31; refine (pick_any 9 p co cap bs k7 sd7 w7.drew hl (by omega) C7.out.drew).mono ?_; rintro e w8 ⟨⟨z, rfl, h0z, h1z⟩, hD⟩; obtain ⟨k8, sd8, hk8, hC, hg0, hsz⟩ := hD.grew; have hg : Grew p w7 w8 := hg0.from; have XR8 := hid (XR7.out.grew hg (by omega)); have XA8 := hid (XA7.out.grew hg (by omega)); have XX8 := hid (XX7.out.grew hg (by omega)); have D8 := hid (D7.out.grew hg (by omega)); have C8 := hid hC; have hR8 : Grew p w w8 := hR7.trans hg; have hz8 : w7.heap.size ≤ w8.heap.size := hg.size; have P8a := XA8.out.c 0 rfl; have P8b := XA8.out.c 1 rfl; clear hD hC hg0 hg hsz))
            all_goals
              by_cases hc : cv = 0
              · obtain ⟨hS, hE⟩ := hS1 hc
                have E9 := hid hE
                have HS := hid hS
                have hc1 : (cv == 0) = true := by simpa using hc
                have hc2 : decide (cv = 0) = true := by simpa using hc
                clear hc hS hE hS1
                obtain ⟨w10, hV⟩ : ∃ V, V = ((w9.setCell ⟨wr.heap.size, 0, none⟩ (.slice vto vts.length vtc)).setCell ⟨wr.heap.size, 1, none⟩ (.slice vqo vq.length vqc)) := ⟨_, rfl⟩
                have XR10 := hid (((XR9.out.other (a := ⟨wr.heap.size, 0, none⟩) (by dsimp only; omega) (.slice vto vts.length vtc)).other (a := ⟨wr.heap.size, 1, none⟩) (by dsimp only; omega) (.slice vqo vq.length vqc)))
                rw [← hV] at XR10
                have XA10 := hid (((XA9.out.other (a := ⟨wr.heap.size, 0, none⟩) (by dsimp only; omega) (.slice vto vts.length vtc)).other (a := ⟨wr.heap.size, 1, none⟩) (by dsimp only; omega) (.slice vqo vq.length vqc)))
                rw [← hV] at XA10
                have XX10 := hid (((XX9.out.set 0 (.slice vto vts.length vtc)).set 1 (.slice vqo vq.length vqc)))
                rw [← hV] at XX10
                have D10 := hid (((D9.out.setOff (a := ⟨wr.heap.size, 0, none⟩) (by dsimp only; omega) (.slice vto vts.length vtc)).setOff (a := ⟨wr.heap.size, 1, none⟩) (by dsimp only; omega) (.slice vqo vq.length vqc)))
                rw [← hV] at D10
                have E10 := hid (((E9.out.setOff (a := ⟨wr.heap.size, 0, none⟩) (by dsimp only; omega) (.slice vto vts.length vtc)).setOff (a := ⟨wr.heap.size, 1, none⟩) (by dsimp only; omega) (.slice vqo vq.length vqc)))
                rw [← hV] at E10
                have C10 := hid (((C9.out.other (a := ⟨wr.heap.size, 0, none⟩) (by dsimp only; omega) (.slice vto vts.length vtc)).other (a := ⟨wr.heap.size, 1, none⟩) (by dsimp only; omega) (.slice vqo vq.length vqc)))
                rw [← hV] at C10
                have hR10 : Grew p w w10 := by rw [hV]; exact ((hR9.set (a := ⟨wr.heap.size, 0, none⟩) (by dsimp only; omega) (.slice vto vts.length vtc)).set (a := ⟨wr.heap.size, 1, none⟩) (by dsimp only; omega) (.slice vqo vq.length vqc))
                have hz10 : w9.heap.size ≤ w10.heap.size := by rw [hV]; simp
                have H10 := hid hV
                clear hV XR9 XA9 XX9 D9 E9 C9
                go_upto_region 25 with fail
                clear rg0 rh0 rg1 rh1 ag0 ah0 ag1 ah1 xg0 xh0 xg1 xh1
                rw [← H10.out]
                clear H10
                have r0 := XR10.out.c 0 rfl
                have rf0 := XR10.out.f 0 rfl
                have r1 := XR10.out.c 1 rfl
                have rf1 := XR10.out.f 1 rfl
                have rz := XR10.out.size
                have a0 := XA10.out.c 0 rfl
                have af0 := XA10.out.f 0 rfl
                have a1 := XA10.out.c 1 rfl
                have af1 := XA10.out.f 1 rfl
                have az := XA10.out.size
                have x0 := XX10.out.c 0 rfl
                have xf0 := XX10.out.f 0 rfl
                have x1 := XX10.out.c 1 rfl
                have xf1 := XX10.out.f 1 rfl
                have xz := XX10.out.size
                obtain ⟨w11, hV⟩ : ∃ V, V = ((w10.setCell ⟨(w.heap.size + 1), 0, none⟩ (.slice vto vts.length vtc)).setCell ⟨(w.heap.size + 1), 1, none⟩ (.slice vqo vq.length vqc)) := ⟨_, rfl⟩
                have XR11 := hid (((XR10.out.other (a := ⟨(w.heap.size + 1), 0, none⟩) (by dsimp only; omega) (.slice vto vts.length vtc)).other (a := ⟨(w.heap.size + 1), 1, none⟩) (by dsimp only; omega) (.slice vqo vq.length vqc)))
                rw [← hV] at XR11
                have XA11 := hid (((XA10.out.set 0 (.slice vto vts.length vtc)).set 1 (.slice vqo vq.length vqc)))
                rw [← hV] at XA11
                have XX11 := hid (((XX10.out.other (a := ⟨(w.heap.size + 1), 0, none⟩) (by dsimp only; omega) (.slice vto vts.length vtc)).other (a := ⟨(w.heap.size + 1), 1, none⟩) (by dsimp only; omega) (.slice vqo vq.length vqc)))
                rw [← hV] at XX11
                have D11 := hid (((D10.out.setOff (a := ⟨(w.heap.size + 1), 0, none⟩) (by dsimp only; omega) (.slice vto vts.length vtc)).setOff (a := ⟨(w.heap.size + 1), 1, none⟩) (by dsimp only; omega) (.slice vqo vq.length vqc)))
                rw [← hV] at D11
                have E11 := hid (((E10.out.setOff (a := ⟨(w.heap.size + 1), 0, none⟩) (by dsimp only; omega) (.slice vto vts.length vtc)).setOff (a := ⟨(w.heap.size + 1), 1, none⟩) (by dsimp only; omega) (.slice vqo vq.length vqc)))
                rw [← hV] at E11
                have C11 := hid (((C10.out.other (a := ⟨(w.heap.size + 1), 0, none⟩) (by dsimp only; omega) (.slice vto vts.length vtc)).other (a := ⟨(w.heap.size + 1), 1, none⟩) (by dsimp only; omega) (.slice vqo vq.length vqc)))
                rw [← hV] at C11
                have hR11 : Grew p w w11 := by rw [hV]; exact ((hR10.set (a := ⟨(w.heap.size + 1), 0, none⟩) (by dsimp only; omega) (.slice vto vts.length vtc)).set (a := ⟨(w.heap.size + 1), 1, none⟩) (by dsimp only; omega) (.slice vqo vq.length vqc))
                have hz11 : w10.heap.size ≤ w11.heap.size := by rw [hV]; simp
                have H11 := hid hV
                clear hV XR10 XA10 XX10 D10 E10 C10
                go_wp2
                clear r0 rf0 r1 rf1 rz a0 af0 a1 af1 az x0 xf0 x1 xf1 xz
                rw [← H11.out]
                clear H11
                have S2 := HS.out
                go_roundw
                case rel => exact ⟨m, k8, sd8, vto, vtc, vts, vqo, vqc, vq, by go_num, by omega, S2.2.1, S2.2.2.1, hid S2.2.2.2, by omega, XR11, XA11, hid (E11.out.wide (by omega) (by omega)), C11, hR11, by omega⟩
                case measure => simp [intOf] <;> omega
              · have hc1 : (cv == 0) = false := by simpa using hc
                have hc2 : decide (cv = 0) = false := by simpa using hc
                clear hc hS1
                obtain ⟨w10, hV⟩ : ∃ V, V = ((w9.setCell ⟨wr.heap.size, 0, none⟩ (.slice vto vts.length vtc)).setCell ⟨wr.heap.size, 1, none⟩ (.slice vqo vq.length vqc)) := ⟨_, rfl⟩
                have XR10 := hid (((XR9.out.other (a := ⟨wr.heap.size, 0, none⟩) (by dsimp only; omega) (.slice vto vts.length vtc)).other (a := ⟨wr.heap.size, 1, none⟩) (by dsimp only; omega) (.slice vqo vq.length vqc)))
                rw [← hV] at XR10
                have XA10 := hid (((XA9.out.other (a := ⟨wr.heap.size, 0, none⟩) (by dsimp only; omega) (.slice vto vts.length vtc)).other (a := ⟨wr.heap.size, 1, none⟩) (by dsimp only; omega) (.slice vqo vq.length vqc)))
                rw [← hV] at XA10
                have XX10 := hid (((XX9.out.set 0 (.slice vto vts.length vtc)).set 1 (.slice vqo vq.length vqc)))
                rw [← hV] at XX10
                have D10 := hid (((D9.out.setOff (a := ⟨wr.heap.size, 0, none⟩) (by dsimp only; omega) (.slice vto vts.length vtc)).setOff (a := ⟨wr.heap.size, 1, none⟩) (by dsimp only; omega) (.slice vqo vq.length vqc)))
                rw [← hV] at D10
                have C10 := hid (((C9.out.other (a := ⟨wr.heap.size, 0, none⟩) (by dsimp only; omega) (.slice vto vts.length vtc)).other (a := ⟨wr.heap.size, 1, none⟩) (by dsimp only; omega) (.slice vqo vq.length vqc)))
                rw [← hV] at C10
                have hR10 : Grew p w w10 := by rw [hV]; exact ((hR9.set (a := ⟨wr.heap.size, 0, none⟩) (by dsimp only; omega) (.slice vto vts.length vtc)).set (a := ⟨wr.heap.size, 1, none⟩) (by dsimp only; omega) (.slice vqo vq.length vqc))
                have hz10 : w9.heap.size ≤ w10.heap.size := by rw [hV]; simp
                have H10 := hid hV
                clear hV XR9 XA9 XX9 D9 C9
                go_upto_region 25 with fail
                clear rg0 rh0 rg1 rh1 ag0 ah0 ag1 ah1 xg0 xh0 xg1 xh1
                rw [← H10.out]
                clear H10
                have r0 := XR10.out.c 0 rfl
                have rf0 := XR10.out.f 0 rfl
                have r1 := XR10.out.c 1 rfl
                have rf1 := XR10.out.f 1 rfl
                have rz := XR10.out.size
                have a0 := XA10.out.c 0 rfl
                have af0 := XA10.out.f 0 rfl
                have a1 := XA10.out.c 1 rfl
                have af1 := XA10.out.f 1 rfl
                have az := XA10.out.size
                have x0 := XX10.out.c 0 rfl
                have xf0 := XX10.out.f 0 rfl
                have x1 := XX10.out.c 1 rfl
                have xf1 := XX10.out.f 1 rfl
                have xz := XX10.out.size
                go_wp2
                clear r0 rf0 r1 rf1 rz a0 af0 a1 af1 az x0 xf0 x1 xf1 xz
                go_roundw
                case rel => exact ⟨m, k8, sd8, to, tc, ts, qo, qc, q, by go_num, by omega, hts, hq, HIR, by omega, XR10, XA10, hid (D10.out.wide (by omega) (by omega)), C10, hR10, by omega⟩
                case measure => simp [intOf] <;> omega
          · have r0 := XR7.out.c 0 rfl
            have rf0 := XR7.out.f 0 rfl
            have r1 := XR7.out.c 1 rfl
            have rf1 := XR7.out.f 1 rfl
            have rz := XR7.out.size
            have a0 := XA7.out.c 0 rfl
            have af0 := XA7.out.f 0 rfl
            have a1 := XA7.out.c 1 rfl
            have af1 := XA7.out.f 1 rfl
            have az := XA7.out.size
            have x0 := XX7.out.c 0 rfl
            have xf0 := XX7.out.f 0 rfl
            have x1 := XX7.out.c 1 rfl
            have xf1 := XX7.out.f 1 rfl
            have xz := XX7.out.size
            go_wp2
            have PD0 : w7.drew.cell? ⟨(w.heap.size + 1), 0, none⟩ = some (.slice to ts.length tc) := a0
            have PD1 : w7.drew.cell? ⟨(w.heap.size + 1), 1, none⟩ = some (.slice qo q.length qc) := a1
            go_region_law (first
                | (go_simp; go_at_call 6; have _g := hz8; refine (stepPick to tc ts qo qc q z w8 (by omega) (by omega) D8.out).mono ?_; rintro e w9 ⟨⟨vto, vtc, vts, vqo, vqc, vq, iv, cv, rfl, hS1⟩, hy⟩; have hb : Below w8.heap.size w8 w9 := hy; have XR9 := hid (XR8.out.grew (Grew.of_below (p := p) hb) (by omega)); have XA9 := hid (XA8.out.grew (Grew.of_below (p := p) hb) (by omega)); have XX9 := hid (XX8.out.grew (Grew.of_below (p := p) hb) (by omega)); have D9 := hid (D8.out.grew (Grew.of_below (p := p) hb) (by omega)); have C9 := hid (C8.out.later hb); have hR9 : Grew p w w9 := hR8.trans (Grew.of_below (p := p) hb); have hz9 : w8.heap.size ≤ w9.heap.size := hb.size; have P9a := XA9.out.c 0 rfl; have P9b := XA9.out.c 1 rfl; have rg0 := XR9.out.c 0 rfl; have rh0 := XR9.out.f 0 rfl; have rg1 := XR9.out.c 1 rfl; have rh1 := XR9.out.f 1 rfl; have ag0 := XA9.out.c 0 rfl; have ah0 := XA9.out.f 0 rfl; have ag1 := XA9.out.c 1 rfl; have ah1 := XA9.out.f 1 rfl; have xg0 := XX9.out.c 0 rfl; have xh0 := XX9.out.f 0 rfl; have xg1 := XX9.out.c 1 rfl; have xh1 := XX9.out.f 1 rfl; clear hy hb)
                | (go_simp; go_at_call 31; refine (pick_any 9 p co cap bs k7 sd7 w7.drew hl (by omega) C7.out.drew).mono ?_; rintro e w8 ⟨⟨z, rfl, h0z, h1z⟩, hD⟩; obtain ⟨k8, sd8, hk8, hC, hg0, hsz⟩ := hD.grew; have hg : Grew p w7 w8 := hg0.from; have XR8 := hid (XR7.out.grew hg (by omega)); have XA8 := hid (XA7.out.grew hg (by omega)); have XX8 := hid (XX7.out.grew hg (by omega)); have D8 := hid (D7.out.grew hg (by omega)); have C8 := hid hC; have hR8 : Grew p w w8 := hR7.trans hg; have hz8 : w7.heap.size ≤ w8.heap.size := hg.size; have P8a := XA8.out.c 0 rfl; have P8b := XA8.out.c 1 rfl; clear hD hC hg0 hg hsz))
            all_goals
              by_cases hc : cv = 0
              · obtain ⟨hS, hE⟩ := hS1 hc
                have E9 := hid hE
                have HS := hid hS
                have hc1 : (cv == 0) = true := by simpa using hc
                have hc2 : decide (cv = 0) = true := by simpa using hc
                clear hc hS hE hS1
                obtain ⟨w10, hV⟩ : ∃ V, V = ((w9.setCell ⟨wr.heap.size, 0, none⟩ (.slice vto vts.length vtc)).setCell ⟨wr.heap.size, 1, none⟩ (.slice vqo vq.length vqc)) := ⟨_, rfl⟩
                have XR10 := hid (((XR9.out.other (a := ⟨wr.heap.size, 0, none⟩) (by dsimp only; omega) (.slice vto vts.length vtc)).other (a := ⟨wr.heap.size, 1, none⟩) (by dsimp only; omega) (.slice vqo vq.length vqc)))
                rw [← hV] at XR10
                have XA10 := hid (((XA9.out.other (a := ⟨wr.heap.size, 0, none⟩) (by dsimp only; omega) (.slice vto vts.length vtc)).other (a := ⟨wr.heap.size, 1, none⟩) (by dsimp only; omega) (.slice vqo vq.length vqc)))
                rw [← hV] at XA10
                have XX10 := hid (((XX9.out.set 0 (.slice vto vts.length vtc)).set 1 (.slice vqo vq.length vqc)))
                rw [← hV] at XX10
                have D10 := hid (((D9.out.setOff (a := ⟨wr.heap.size, 0, none⟩) (by dsimp only; omega) (.slice vto vts.length vtc)).setOff (a := ⟨wr.heap.size, 1, none⟩) (by dsimp only; omega) (.slice vqo vq.length vqc)))
                rw [← hV] at D10
                have E10 := hid (((E9.out.setOff (a := ⟨wr.heap.size, 0, none⟩) (by dsimp only; omega) (.slice vto vts.length vtc)).setOff (a := ⟨wr.heap.size, 1, none⟩) (by dsimp only; omega) (.slice vqo vq.length vqc)))
                rw [← hV] at E10
                have C10 := hid (((C9.out.other (a := ⟨wr.heap.size, 0, none⟩) (by dsimp only; omega) (.slice vto vts.length vtc)).other (a := ⟨wr.heap.size, 1, none⟩) (by dsimp only; omega) (.slice vqo vq.length vqc)))
                rw [← hV] at C10
                have hR10 : Grew p w w10 := by rw [hV]; exact ((hR9.set (a := ⟨wr.heap.size, 0, none⟩) (by dsimp only; omega) (.slice vto vts.length vtc)).set (a := ⟨wr.heap.size, 1, none⟩) (by dsimp only; omega) (.slice vqo vq.length vqc))
                have hz10 : w9.heap.size ≤ w10.heap.size := by rw [hV]; simp
                have H10 := hid hV
                clear hV XR9 XA9 XX9 D9 E9 C9
                go_upto_region 25 with fail
                clear rg0 rh0 rg1 rh1 ag0 ah0 ag1 ah1 xg0 xh0 xg1 xh1
                rw [← H10.out]
                clear H10
                have r0 := XR10.out.c 0 rfl
                have rf0 := XR10.out.f 0 rfl
                have r1 := XR10.out.c 1 rfl
                have rf1 := XR10.out.f 1 rfl
                have rz := XR10.out.size
                have a0 := XA10.out.c 0 rfl
                have af0 := XA10.out.f 0 rfl
                have a1 := XA10.out.c 1 rfl
                have af1 := XA10.out.f 1 rfl
                have az := XA10.out.size
                have x0 := XX10.out.c 0 rfl
                have xf0 := XX10.out.f 0 rfl
                have x1 := XX10.out.c 1 rfl
                have xf1 := XX10.out.f 1 rfl
                have xz := XX10.out.size
                obtain ⟨w11, hV⟩ : ∃ V, V = ((w10.setCell ⟨(w.heap.size + 1), 0, none⟩ (.slice vto vts.length vtc)).setCell ⟨(w.heap.size + 1), 1, none⟩ (.slice vqo vq.length vqc)) := ⟨_, rfl⟩
                have XR11 := hid (((XR10.out.other (a := ⟨(w.heap.size + 1), 0, none⟩) (by dsimp only; omega) (.slice vto vts.length vtc)).other (a := ⟨(w.heap.size + 1), 1, none⟩) (by dsimp only; omega) (.slice vqo vq.length vqc)))
                rw [← hV] at XR11
                have XA11 := hid (((XA10.out.set 0 (.slice vto vts.length vtc)).set 1 (.slice vqo vq.length vqc)))
                rw [← hV] at XA11
                have XX11 := hid (((XX10.out.other (a := ⟨(w.heap.size + 1), 0, none⟩) (by dsimp only; omega) (.slice vto vts.length vtc)).other (a := ⟨(w.heap.size + 1), 1, none⟩) (by dsimp only; omega) (.slice vqo vq.length vqc)))
                rw [← hV] at XX11
                have D11 := hid (((D10.out.setOff (a := ⟨(w.heap.size + 1), 0, none⟩) (by dsimp only; omega) (.slice vto vts.length vtc)).setOff (a := ⟨(w.heap.size + 1), 1, none⟩) (by dsimp only; omega) (.slice vqo vq.length vqc)))
                rw [← hV] at D11
                have E11 := hid (((E10.out.setOff (a := ⟨(w.heap.size + 1), 0, none⟩) (by dsimp only; omega) (.slice vto vts.length vtc)).setOff (a := ⟨(w.heap.size + 1), 1, none⟩) (by dsimp only; omega) (.slice vqo vq.length vqc)))
                rw [← hV] at E11
                have C11 := hid (((C10.out.other (a := ⟨(w.heap.size + 1), 0, none⟩) (by dsimp only; omega) (.slice vto vts.length vtc)).other (a := ⟨(w.heap.size + 1), 1, none⟩) (by dsimp only; omega) (.slice vqo vq.length vqc)))
                rw [← hV] at C11
                have hR11 : Grew p w w11 := by rw [hV]; exact ((hR10.set (a := ⟨(w.heap.size + 1), 0, none⟩) (by dsimp only; omega) (.slice vto vts.length vtc)).set (a := ⟨(w.heap.size + 1), 1, none⟩) (by dsimp only; omega) (.slice vqo vq.length vqc))
                have hz11 : w10.heap.size ≤ w11.heap.size := by rw [hV]; simp
                have H11 := hid hV
                clear hV XR10 XA10 XX10 D10 E10 C10
                go_wp2
                clear r0 rf0 r1 rf1 rz a0 af0 a1 af1 az x0 xf0 x1 xf1 xz
                rw [← H11.out]
                clear H11
                have S2 := HS.out
                go_roundw
                case rel => exact ⟨m, k8, sd8, vto, vtc, vts, vqo, vqc, vq, by go_num, by omega, S2.2.1, S2.2.2.1, hid S2.2.2.2, by omega, XR11, XA11, hid (E11.out.wide (by omega) (by omega)), C11, hR11, by omega⟩
                case measure => simp [intOf] <;> omega
              · have hc1 : (cv == 0) = false := by simpa using hc
                have hc2 : decide (cv = 0) = false := by simpa using hc
                clear hc hS1
                obtain ⟨w10, hV⟩ : ∃ V, V = ((w9.setCell ⟨wr.heap.size, 0, none⟩ (.slice vto vts.length vtc)).setCell ⟨wr.heap.size, 1, none⟩ (.slice vqo vq.length vqc)) := ⟨_, rfl⟩
                have XR10 := hid (((XR9.out.other (a := ⟨wr.heap.size, 0, none⟩) (by dsimp only; omega) (.slice vto vts.length vtc)).other (a := ⟨wr.heap.size, 1, none⟩) (by dsimp only; omega) (.slice vqo vq.length vqc)))
                rw [← hV] at XR10
                have XA10 := hid (((XA9.out.other (a := ⟨wr.heap.size, 0, none⟩) (by dsimp only; omega) (.slice vto vts.length vtc)).other (a := ⟨wr.heap.size, 1, none⟩) (by dsimp only; omega) (.slice vqo vq.length vqc)))
                rw [← hV] at XA10
                have XX10 := hid (((XX9.out.set 0 (.slice vto vts.length vtc)).set 1 (.slice vqo vq.length vqc)))
                rw [← hV] at XX10
                have D10 := hid (((D9.out.setOff (a := ⟨wr.heap.size, 0, none⟩) (by dsimp only; omega) (.slice vto vts.length vtc)).setOff (a := ⟨wr.heap.size, 1, none⟩) (by dsimp only; omega) (.slice vqo vq.length vqc)))
                rw [← hV] at D10
                have C10 := hid (((C9.out.other (a := ⟨wr.heap.size, 0, none⟩) (by dsimp only; omega) (.slice vto vts.length vtc)).other (a := ⟨wr.heap.size, 1, none⟩) (by dsimp only; omega) (.slice vqo vq.length vqc)))
                rw [← hV] at C10
                have hR10 : Grew p w w10 := by rw [hV]; exact ((hR9.set (a := ⟨wr.heap.size, 0, none⟩) (by dsimp only; omega) (.slice vto vts.length vtc)).set (a := ⟨wr.heap.size, 1, none⟩) (by dsimp only; omega) (.slice vqo vq.length vqc))
                have hz10 : w9.heap.size ≤ w10.heap.size := by rw [hV]; simp
                have H10 := hid hV
                clear hV XR9 XA9 XX9 D9 C9
                go_upto_region 25 with fail
                clear rg0 rh0 rg1 rh1 ag0 ah0 ag1 ah1 xg0 xh0 xg1 xh1
                rw [← H10.out]
                clear H10
                have r0 := XR10.out.c 0 rfl
                have rf0 := XR10.out.f 0 rfl
                have r1 := XR10.out.c 1 rfl
                have rf1 := XR10.out.f 1 rfl
                have rz := XR10.out.size
                have a0 := XA10.out.c 0 rfl
                have af0 := XA10.out.f 0 rfl
                have a1 := XA10.out.c 1 rfl
                have af1 := XA10.out.f 1 rfl
                have az := XA10.out.size
                have x0 := XX10.out.c 0 rfl
                have xf0 := XX10.out.f 0 rfl
                have x1 := XX10.out.c 1 rfl
                have xf1 := XX10.out.f 1 rfl
                have xz := XX10.out.size
                go_wp2
                clear r0 rf0 r1 rf1 rz a0 af0 a1 af1 az x0 xf0 x1 xf1 xz
                go_roundw
                case rel => exact ⟨m, k8, sd8, to, tc, ts, qo, qc, q, by go_num, by omega, hts, hq, HIR, by omega, XR10, XA10, hid (D10.out.wide (by omega) (by omega)), C10, hR10, by omega⟩
                case measure => simp [intOf] <;> omega
          · have r0 := XR7.out.c 0 rfl
            have rf0 := XR7.out.f 0 rfl
            have r1 := XR7.out.c 1 rfl
            have rf1 := XR7.out.f 1 rfl
            have rz := XR7.out.size
            have a0 := XA7.out.c 0 rfl
            have af0 := XA7.out.f 0 rfl
            have a1 := XA7.out.c 1 rfl
            have af1 := XA7.out.f 1 rfl
            have az := XA7.out.size
            have x0 := XX7.out.c 0 rfl
            have xf0 := XX7.out.f 0 rfl
            have x1 := XX7.out.c 1 rfl
            have xf1 := XX7.out.f 1 rfl
            have xz := XX7.out.size
            go_wp2_with fail
            clear r0 rf0 r1 rf1 rz a0 af0 a1 af1 az x0 xf0 x1 xf1 xz
            refine (stepYield to tc ts qo qc q w7 (by omega) (by omega) D7.out).mono ?_
            rintro e w8 ⟨⟨vto, vtc, vts, vqo, vqc, vq, cv, rfl, hS1⟩, hb8⟩
            have XR8 := hid (XR7.out.later hb8)
            have XA8 := hid (XA7.out.later hb8)
            have XX8 := hid (XX7.out.later hb8)
            have D8 := hid (D7.out.later hb8)
            have C8 := hid (C7.out.later hb8)
            have hR8 : Grew p w w8 := hR7.trans (Grew.of_below hb8)
            have hz8 : w7.heap.size ≤ w8.heap.size := hb8.size
            clear XR7 XA7 XX7 D7 C7 hb8
            by_cases hc : cv = 0
            · obtain ⟨hS, hE⟩ := hS1 hc
              have E8 := hid hE
              have HS := hid hS
              have hc1 : (cv == 0) = true := by simpa using hc
              have hc2 : decide (cv = 0) = true := by simpa using hc
              clear hc hS hE hS1
              have r0 := XR8.out.c 0 rfl
              have rf0 := XR8.out.f 0 rfl
              have r1 := XR8.out.c 1 rfl
              have rf1 := XR8.out.f 1 rfl
              have rz := XR8.out.size
              have a0 := XA8.out.c 0 rfl
              have af0 := XA8.out.f 0 rfl
              have a1 := XA8.out.c 1 rfl
              have af1 := XA8.out.f 1 rfl
              have az := XA8.out.size
              have x0 := XX8.out.c 0 rfl
              have xf0 := XX8.out.f 0 rfl
              have x1 := XX8.out.c 1 rfl
              have xf1 := XX8.out.f 1 rfl
              have xz := XX8.out.size
              obtain ⟨w9, hV⟩ : ∃ V, V = ((w8.setCell ⟨wr.heap.size, 0, none⟩ (.slice vto vts.length vtc)).setCell ⟨wr.heap.size, 1, none⟩ (.slice vqo vq.length vqc)) := ⟨_, rfl⟩
              have XR9 := hid (((XR8.out.other (a := ⟨wr.heap.size, 0, none⟩) (by dsimp only; omega) (.slice vto vts.length vtc)).other (a := ⟨wr.heap.size, 1, none⟩) (by dsimp only; omega) (.slice vqo vq.length vqc)))
              rw [← hV] at XR9
              have XA9 := hid (((XA8.out.other (a := ⟨wr.heap.size, 0, none⟩) (by dsimp only; omega) (.slice vto vts.length vtc)).other (a := ⟨wr.heap.size, 1, none⟩) (by dsimp only; omega) (.slice vqo vq.length vqc)))
              rw [← hV] at XA9
              have XX9 := hid (((XX8.out.set 0 (.slice vto vts.length vtc)).set 1 (.slice vqo vq.length vqc)))
              rw [← hV] at XX9
              have D9 := hid (((D8.out.setOff (a := ⟨wr.heap.size, 0, none⟩) (by dsimp only; omega) (.slice vto vts.length vtc)).setOff (a := ⟨wr.heap.size, 1, none⟩) (by dsimp only; omega) (.slice vqo vq.length vqc)))
              rw [← hV] at D9
              have E9 := hid (((E8.out.setOff (a := ⟨wr.heap.size, 0, none⟩) (by dsimp only; omega) (.slice vto vts.length vtc)).setOff (a := ⟨wr.heap.size, 1, none⟩) (by dsimp only; omega) (.slice vqo vq.length vqc)))
              rw [← hV] at E9
              have C9 := hid (((C8.out.other (a := ⟨wr.heap.size, 0, none⟩) (by dsimp only; omega) (.slice vto vts.length vtc)).other (a := ⟨wr.heap.size, 1, none⟩) (by dsimp only; omega) (.slice vqo vq.length vqc)))
              rw [← hV] at C9
              have hR9 : Grew p w w9 := by rw [hV]; exact ((hR8.set (a := ⟨wr.heap.size, 0, none⟩) (by dsimp only; omega) (.slice vto vts.length vtc)).set (a := ⟨wr.heap.size, 1, none⟩) (by dsimp only; omega) (.slice vqo vq.length vqc))
              have hz9 : w8.heap.size ≤ w9.heap.size := by rw [hV]; simp
              have H9 := hid hV
              clear hV XR8 XA8 XX8 D8 E8 C8
              go_upto_region 25 with fail
              clear r0 rf0 r1 rf1 rz a0 af0 a1 af1 az x0 xf0 x1 xf1 xz
              rw [← H9.out]
              clear H9
              have r0 := XR9.out.c 0 rfl
              have rf0 := XR9.out.f 0 rfl
              have r1 := XR9.out.c 1 rfl
              have rf1 := XR9.out.f 1 rfl
              have rz := XR9.out.size
              have a0 := XA9.out.c 0 rfl
              have af0 := XA9.out.f 0 rfl
              have a1 := XA9.out.c 1 rfl
              have af1 := XA9.out.f 1 rfl
              have az := XA9.out.size
              have x0 := XX9.out.c 0 rfl
              have xf0 := XX9.out.f 0 rfl
              have x1 := XX9.out.c 1 rfl
              have xf1 := XX9.out.f 1 rfl
              have xz := XX9.out.size
              obtain ⟨w10, hV⟩ : ∃ V, V = ((w9.setCell ⟨(w.heap.size + 1), 0, none⟩ (.slice vto vts.length vtc)).setCell ⟨(w.heap.size + 1), 1, none⟩ (.slice vqo vq.length vqc)) := ⟨_, rfl⟩
              have XR10 := hid (((XR9.out.other (a := ⟨(w.heap.size + 1), 0, none⟩) (by dsimp only; omega) (.slice vto vts.length vtc)).other (a := ⟨(w.heap.size + 1), 1, none⟩) (by dsimp only; omega) (.slice vqo vq.length vqc)))
              rw [← hV] at XR10
              have XA10 := hid (((XA9.out.set 0 (.slice vto vts.length vtc)).set 1 (.slice vqo vq.length vqc)))
              rw [← hV] at XA10
              have XX10 := hid (((XX9.out.other (a := ⟨(w.heap.size + 1), 0, none⟩) (by dsimp only; omega) (.slice vto vts.length vtc)).other (a := ⟨(w.heap.size + 1), 1, none⟩) (by dsimp only; omega) (.slice vqo vq.length vqc)))
              rw [← hV] at XX10
              have D10 := hid (((D9.out.setOff (a := ⟨(w.heap.size + 1), 0, none⟩) (by dsimp only; omega) (.slice vto vts.length vtc)).setOff (a := ⟨(w.heap.size + 1), 1, none⟩) (by dsimp only; omega) (.slice vqo vq.length vqc)))
              rw [← hV] at D10
              have E10 := hid (((E9.out.setOff (a := ⟨(w.heap.size + 1), 0, none⟩) (by dsimp only; omega) (.slice vto vts.length vtc)).setOff (a := ⟨(w.heap.size + 1), 1, none⟩) (by dsimp only; omega) (.slice vqo vq.length vqc)))
              rw [← hV] at E10
              have C10 := hid (((C9.out.other (a := ⟨(w.heap.size + 1), 0, none⟩) (by dsimp only; omega) (.slice vto vts.length vtc)).other (a := ⟨(w.heap.size + 1), 1, none⟩) (by dsimp only; omega) (.slice vqo vq.length vqc)))
              rw [← hV] at C10
              have hR10 : Grew p w w10 := by rw [hV]; exact ((hR9.set (a := ⟨(w.heap.size + 1), 0, none⟩) (by dsimp only; omega) (.slice vto vts.length vtc)).set (a := ⟨(w.heap.size + 1), 1, none⟩) (by dsimp only; omega) (.slice vqo vq.length vqc))
              have hz10 : w9.heap.size ≤ w10.heap.size := by rw [hV]; simp
              have H10 := hid hV
              clear hV XR9 XA9 XX9 D9 E9 C9
              go_wp2
              clear r0 rf0 r1 rf1 rz a0 af0 a1 af1 az x0 xf0 x1 xf1 xz
              rw [← H10.out]
              clear H10
              have S2 := HS.out
              go_roundw
              case rel => exact ⟨m, k7, sd7, vto, vtc, vts, vqo, vqc, vq, by go_num, by omega, S2.2.1, S2.2.2.1, hid S2.2.2.2, by omega, XR10, XA10, hid (E10.out.wide (by omega) (by omega)), C10, hR10, by omega⟩
              case measure => simp [intOf] <;> omega
            · have hc1 : (cv == 0) = false := by simpa using hc
              have hc2 : decide (cv = 0) = false := by simpa using hc
              clear hc hS1
              have r0 := XR8.out.c 0 rfl
              have rf0 := XR8.out.f 0 rfl
              have r1 := XR8.out.c 1 rfl
              have rf1 := XR8.out.f 1 rfl
              have rz := XR8.out.size
              have a0 := XA8.out.c 0 rfl
              have af0 := XA8.out.f 0 rfl
              have a1 := XA8.out.c 1 rfl
              have af1 := XA8.out.f 1 rfl
              have az := XA8.out.size
              have x0 := XX8.out.c 0 rfl
              have xf0 := XX8.out.f 0 rfl
              have x1 := XX8.out.c 1 rfl
              have xf1 := XX8.out.f 1 rfl
              have xz := XX8.out.size
              obtain ⟨w9, hV⟩ : ∃ V, V = ((w8.setCell ⟨wr.heap.size, 0, none⟩ (.slice vto vts.length vtc)).setCell ⟨wr.heap.size, 1, none⟩ (.slice vqo vq.length vqc)) := ⟨_, rfl⟩
              have XR9 := hid (((XR8.out.other (a := ⟨wr.heap.size, 0, none⟩) (by dsimp only; omega) (.slice vto vts.length vtc)).other (a := ⟨wr.heap.size, 1, none⟩) (by dsimp only; omega) (.slice vqo vq.length vqc)))
              rw [← hV] at XR9
              have XA9 := hid (((XA8.out.other (a := ⟨wr.heap.size, 0, none⟩) (by dsimp only; omega) (.slice vto vts.length vtc)).other (a := ⟨wr.heap.size, 1, none⟩) (by dsimp only; omega) (.slice vqo vq.length vqc)))
              rw [← hV] at XA9
              have XX9 := hid (((XX8.out.set 0 (.slice vto vts.length vtc)).set 1 (.slice vqo vq.length vqc)))
              rw [← hV] at XX9
              have D9 := hid (((D8.out.setOff (a := ⟨wr.heap.size, 0, none⟩) (by dsimp only; omega) (.slice vto vts.length vtc)).setOff (a := ⟨wr.heap.size, 1, none⟩) (by dsimp only; omega) (.slice vqo vq.length vqc)))
              rw [← hV] at D9
              have C9 := hid (((C8.out.other (a := ⟨wr.heap.size, 0, none⟩) (by dsimp only; omega) (.slice vto vts.length vtc)).other (a := ⟨wr.heap.size, 1, none⟩) (by dsimp only; omega) (.slice vqo vq.length vqc)))
              rw [← hV] at C9
              have hR9 : Grew p w w9 := by rw [hV]; exact ((hR8.set (a := ⟨wr.heap.size, 0, none⟩) (by dsimp only; omega) (.slice vto vts.length vtc)).set (a := ⟨wr.heap.size, 1, none⟩) (by dsimp only; omega) (.slice vqo vq.length vqc))
              have hz9 : w8.heap.size ≤ w9.heap.size := by rw [hV]; simp
              have H9 := hid hV
              clear hV XR8 XA8 XX8 D8 C8
              go_upto_region 25 with fail
              clear r0 rf0 r1 rf1 rz a0 af0 a1 af1 az x0 xf0 x1 xf1 xz
              rw [← H9.out]
              clear H9
              have r0 := XR9.out.c 0 rfl
              have rf0 := XR9.out.f 0 rfl
              have r1 := XR9.out.c 1 rfl
              have rf1 := XR9.out.f 1 rfl
              have rz := XR9.out.size
              have a0 := XA9.out.c 0 rfl
              have af0 := XA9.out.f 0 rfl
              have a1 := XA9.out.c 1 rfl
              have af1 := XA9.out.f 1 rfl
              have az := XA9.out.size
              have x0 := XX9.out.c 0 rfl
              have xf0 := XX9.out.f 0 rfl
              have x1 := XX9.out.c 1 rfl
              have xf1 := XX9.out.f 1 rfl
              have xz := XX9.out.size
              go_wp2
              clear r0 rf0 r1 rf1 rz a0 af0 a1 af1 az x0 xf0 x1 xf1 xz
              go_roundw
              case rel => exact ⟨m, k7, sd7, to, tc, ts, qo, qc, q, by go_num, by omega, hts, hq, HIR, by omega, XR9, XA9, hid (D9.out.wide (by omega) (by omega)), C9, hR9, by omega⟩
              case measure => simp [intOf] <;> omega
          · have r0 := XR7.out.c 0 rfl
            have rf0 := XR7.out.f 0 rfl
            have r1 := XR7.out.c 1 rfl
            have rf1 := XR7.out.f 1 rfl
            have rz := XR7.out.size
            have a0 := XA7.out.c 0 rfl
            have af0 := XA7.out.f 0 rfl
            have a1 := XA7.out.c 1 rfl
            have af1 := XA7.out.f 1 rfl
            have az := XA7.out.size
            have x0 := XX7.out.c 0 rfl
            have xf0 := XX7.out.f 0 rfl
            have x1 := XX7.out.c 1 rfl
            have xf1 := XX7.out.f 1 rfl
            have xz := XX7.out.size
            go_wp2_with fail
            clear r0 rf0 r1 rf1 rz a0 af0 a1 af1 az x0 xf0 x1 xf1 xz
            refine (stepPark to tc ts qo qc q w7 (by omega) (by omega) D7.out).mono ?_
            rintro e w8 ⟨⟨vto, vtc, vts, vqo, vqc, vq, cv, rfl, hS1⟩, hb8⟩
            have XR8 := hid (XR7.out.later hb8)
            have XA8 := hid (XA7.out.later hb8)
            have XX8 := hid (XX7.out.later hb8)
            have D8 := hid (D7.out.later hb8)
            have C8 := hid (C7.out.later hb8)
            have hR8 : Grew p w w8 := hR7.trans (Grew.of_below hb8)
            have hz8 : w7.heap.size ≤ w8.heap.size := hb8.size
            clear XR7 XA7 XX7 D7 C7 hb8
            by_cases hc : cv = 0
            · obtain ⟨hS, hE⟩ := hS1 hc
              have E8 := hid hE
              have HS := hid hS
              have hc1 : (cv == 0) = true := by simpa using hc
              have hc2 : decide (cv = 0) = true := by simpa using hc
              clear hc hS hE hS1
              have r0 := XR8.out.c 0 rfl
              have rf0 := XR8.out.f 0 rfl
              have r1 := XR8.out.c 1 rfl
              have rf1 := XR8.out.f 1 rfl
              have rz := XR8.out.size
              have a0 := XA8.out.c 0 rfl
              have af0 := XA8.out.f 0 rfl
              have a1 := XA8.out.c 1 rfl
              have af1 := XA8.out.f 1 rfl
              have az := XA8.out.size
              have x0 := XX8.out.c 0 rfl
              have xf0 := XX8.out.f 0 rfl
              have x1 := XX8.out.c 1 rfl
              have xf1 := XX8.out.f 1 rfl
              have xz := XX8.out.size
              obtain ⟨w9, hV⟩ : ∃ V, V = ((w8.setCell ⟨wr.heap.size, 0, none⟩ (.slice vto vts.length vtc)).setCell ⟨wr.heap.size, 1, none⟩ (.slice vqo vq.length vqc)) := ⟨_, rfl⟩
              have XR9 := hid (((XR8.out.other (a := ⟨wr.heap.size, 0, none⟩) (by dsimp only; omega) (.slice vto vts.length vtc)).other (a := ⟨wr.heap.size, 1, none⟩) (by dsimp only; omega) (.slice vqo vq.length vqc)))
              rw [← hV] at XR9
              have XA9 := hid (((XA8.out.other (a := ⟨wr.heap.size, 0, none⟩) (by dsimp only; omega) (.slice vto vts.length vtc)).other (a := ⟨wr.heap.size, 1, none⟩) (by dsimp only; omega) (.slice vqo vq.length vqc)))
              rw [← hV] at XA9
              have XX9 := hid (((XX8.out.set 0 (.slice vto vts.length vtc)).set 1 (.slice vqo vq.length vqc)))
              rw [← hV] at XX9
              have D9 := hid (((D8.out.setOff (a := ⟨wr.heap.size, 0, none⟩) (by dsimp only; omega) (.slice vto vts.length vtc)).setOff (a := ⟨wr.heap.size, 1, none⟩) (by dsimp only; omega) (.slice vqo vq.length vqc)))
              rw [← hV] at D9
              have E9 := hid (((E8.out.setOff (a := ⟨wr.heap.size, 0, none⟩) (by dsimp only; omega) (.slice vto vts.length vtc)).setOff (a := ⟨wr.heap.size, 1, none⟩) (by dsimp only; omega) (.slice vqo vq.length vqc)))
              rw [← hV] at E9
              have C9 := hid (((C8.out.other (a := ⟨wr.heap.size, 0, none⟩) (by dsimp only; omega) (.slice vto vts.length vtc)).other (a := ⟨wr.heap.size, 1, none⟩) (by dsimp only; omega) (.slice vqo vq.length vqc)))
              rw [← hV] at C9
              have hR9 : Grew p w w9 := by rw [hV]; exact ((hR8.set (a := ⟨wr.heap.size, 0, none⟩) (by dsimp only; omega) (.slice vto vts.length vtc)).set (a := ⟨wr.heap.size, 1, none⟩) (by dsimp only; omega) (.slice vqo vq.length vqc))
              have hz9 : w8.heap.size ≤ w9.heap.size := by rw [hV]; simp
              have H9 := hid hV
              clear hV XR8 XA8 XX8 D8 E8 C8
              go_upto_region 25 with fail
              clear r0 rf0 r1 rf1 rz a0 af0 a1 af1 az x0 xf0 x1 xf1 xz
              rw [← H9.out]
              clear H9
              have r0 := XR9.out.c 0 rfl
              have rf0 := XR9.out.f 0 rfl
              have r1 := XR9.out.c 1 rfl
              have rf1 := XR9.out.f 1 rfl
              have rz := XR9.out.size
              have a0 := XA9.out.c 0 rfl
              have af0 := XA9.out.f 0 rfl
              have a1 := XA9.out.c 1 rfl
              have af1 := XA9.out.f 1 rfl
              have az := XA9.out.size
              have x0 := XX9.out.c 0 rfl
              have xf0 := XX9.out.f 0 rfl
              have x1 := XX9.out.c 1 rfl
              have xf1 := XX9.out.f 1 rfl
              have xz := XX9.out.size
              obtain ⟨w10, hV⟩ : ∃ V, V = ((w9.setCell ⟨(w.heap.size + 1), 0, none⟩ (.slice vto vts.length vtc)).setCell ⟨(w.heap.size + 1), 1, none⟩ (.slice vqo vq.length vqc)) := ⟨_, rfl⟩
              have XR10 := hid (((XR9.out.other (a := ⟨(w.heap.size + 1), 0, none⟩) (by dsimp only; omega) (.slice vto vts.length vtc)).other (a := ⟨(w.heap.size + 1), 1, none⟩) (by dsimp only; omega) (.slice vqo vq.length vqc)))
              rw [← hV] at XR10
              have XA10 := hid (((XA9.out.set 0 (.slice vto vts.length vtc)).set 1 (.slice vqo vq.length vqc)))
              rw [← hV] at XA10
              have XX10 := hid (((XX9.out.other (a := ⟨(w.heap.size + 1), 0, none⟩) (by dsimp only; omega) (.slice vto vts.length vtc)).other (a := ⟨(w.heap.size + 1), 1, none⟩) (by dsimp only; omega) (.slice vqo vq.length vqc)))
              rw [← hV] at XX10
              have D10 := hid (((D9.out.setOff (a := ⟨(w.heap.size + 1), 0, none⟩) (by dsimp only; omega) (.slice vto vts.length vtc)).setOff (a := ⟨(w.heap.size + 1), 1, none⟩) (by dsimp only; omega) (.slice vqo vq.length vqc)))
              rw [← hV] at D10
              have E10 := hid (((E9.out.setOff (a := ⟨(w.heap.size + 1), 0, none⟩) (by dsimp only; omega) (.slice vto vts.length vtc)).setOff (a := ⟨(w.heap.size + 1), 1, none⟩) (by dsimp only; omega) (.slice vqo vq.length vqc)))
              rw [← hV] at E10
              have C10 := hid (((C9.out.other (a := ⟨(w.heap.size + 1), 0, none⟩) (by dsimp only; omega) (.slice vto vts.length vtc)).other (a := ⟨(w.heap.size + 1), 1, none⟩) (by dsimp only; omega) (.slice vqo vq.length vqc)))
              rw [← hV] at C10
              have hR10 : Grew p w w10 := by rw [hV]; exact ((hR9.set (a := ⟨(w.heap.size + 1), 0, none⟩) (by dsimp only; omega) (.slice vto vts.length vtc)).set (a := ⟨(w.heap.size + 1), 1, none⟩) (by dsimp only; omega) (.slice vqo vq.length vqc))
              have hz10 : w9.heap.size ≤ w10.heap.size := by rw [hV]; simp
              have H10 := hid hV
              clear hV XR9 XA9 XX9 D9 E9 C9
              go_wp2
              clear r0 rf0 r1 rf1 rz a0 af0 a1 af1 az x0 xf0 x1 xf1 xz
              rw [← H10.out]
              clear H10
              have S2 := HS.out
              go_roundw
              case rel => exact ⟨m, k7, sd7, vto, vtc, vts, vqo, vqc, vq, by go_num, by omega, S2.2.1, S2.2.2.1, hid S2.2.2.2, by omega, XR10, XA10, hid (E10.out.wide (by omega) (by omega)), C10, hR10, by omega⟩
              case measure => simp [intOf] <;> omega
            · have hc1 : (cv == 0) = false := by simpa using hc
              have hc2 : decide (cv = 0) = false := by simpa using hc
              clear hc hS1
              have r0 := XR8.out.c 0 rfl
              have rf0 := XR8.out.f 0 rfl
              have r1 := XR8.out.c 1 rfl
              have rf1 := XR8.out.f 1 rfl
              have rz := XR8.out.size
              have a0 := XA8.out.c 0 rfl
              have af0 := XA8.out.f 0 rfl
              have a1 := XA8.out.c 1 rfl
              have af1 := XA8.out.f 1 rfl
              have az := XA8.out.size
              have x0 := XX8.out.c 0 rfl
              have xf0 := XX8.out.f 0 rfl
              have x1 := XX8.out.c 1 rfl
              have xf1 := XX8.out.f 1 rfl
              have xz := XX8.out.size
              obtain ⟨w9, hV⟩ : ∃ V, V = ((w8.setCell ⟨wr.heap.size, 0, none⟩ (.slice vto vts.length vtc)).setCell ⟨wr.heap.size, 1, none⟩ (.slice vqo vq.length vqc)) := ⟨_, rfl⟩
              have XR9 := hid (((XR8.out.other (a := ⟨wr.heap.size, 0, none⟩) (by dsimp only; omega) (.slice vto vts.length vtc)).other (a := ⟨wr.heap.size, 1, none⟩) (by dsimp only; omega) (.slice vqo vq.length vqc)))
              rw [← hV] at XR9
              have XA9 := hid (((XA8.out.other (a := ⟨wr.heap.size, 0, none⟩) (by dsimp only; omega) (.slice vto vts.length vtc)).other (a := ⟨wr.heap.size, 1, none⟩) (by dsimp only; omega) (.slice vqo vq.length vqc)))
              rw [← hV] at XA9
              have XX9 := hid (((XX8.out.set 0 (.slice vto vts.length vtc)).set 1 (.slice vqo vq.length vqc)))
              rw [← hV] at XX9
              have D9 := hid (((D8.out.setOff (a := ⟨wr.heap.size, 0, none⟩) (by dsimp only; omega) (.slice vto vts.length vtc)).setOff (a := ⟨wr.heap.size, 1, none⟩) (by dsimp only; omega) (.slice vqo vq.length vqc)))
              rw [← hV] at D9
              have C9 := hid (((C8.out.other (a := ⟨wr.heap.size, 0, none⟩) (by dsimp only; omega) (.slice vto vts.length vtc)).other (a := ⟨wr.heap.size, 1, none⟩) (by dsimp only; omega) (.slice vqo vq.length vqc)))
              rw [← hV] at C9
              have hR9 : Grew p w w9 := by rw [hV]; exact ((hR8.set (a := ⟨wr.heap.size, 0, none⟩) (by dsimp only; omega) (.slice vto vts.length vtc)).set (a := ⟨wr.heap.size, 1, none⟩) (by dsimp only; omega) (.slice vqo vq.length vqc))
              have hz9 : w8.heap.size ≤ w9.heap.size := by rw [hV]; simp
              have H9 := hid hV
              clear hV XR8 XA8 XX8 D8 C8
              go_upto_region 25 with fail
              clear r0 rf0 r1 rf1 rz a0 af0 a1 af1 az x0 xf0 x1 xf1 xz
              rw [← H9.out]
              clear H9
              have r0 := XR9.out.c 0 rfl
              have rf0 := XR9.out.f 0 rfl
              have r1 := XR9.out.c 1 rfl
              have rf1 := XR9.out.f 1 rfl
              have rz := XR9.out.size
              have a0 := XA9.out.c 0 rfl
              have af0 := XA9.out.f 0 rfl
              have a1 := XA9.out.c 1 rfl
              have af1 := XA9.out.f 1 rfl
              have az := XA9.out.size
              have x0 := XX9.out.c 0 rfl
              have xf0 := XX9.out.f 0 rfl
              have x1 := XX9.out.c 1 rfl
              have xf1 := XX9.out.f 1 rfl
              have xz := XX9.out.size
              go_wp2
              clear r0 rf0 r1 rf1 rz a0 af0 a1 af1 az x0 xf0 x1 xf1 xz
              go_roundw
              case rel => exact ⟨m, k7, sd7, to, tc, ts, qo, qc, q, by go_num, by omega, hts, hq, HIR, by omega, XR9, XA9, hid (D9.out.wide (by omega) (by omega)), C9, hR9, by omega⟩
              case measure => simp [intOf] <;> omega
          · have r0 := XR7.out.c 0 rfl
            have rf0 := XR7.out.f 0 rfl
            have r1 := XR7.out.c 1 rfl
            have rf1 := XR7.out.f 1 rfl
            have rz := XR7.out.size
            have a0 := XA7.out.c 0 rfl
            have af0 := XA7.out.f 0 rfl
            have a1 := XA7.out.c 1 rfl
            have af1 := XA7.out.f 1 rfl
            have az := XA7.out.size
            have x0 := XX7.out.c 0 rfl
            have xf0 := XX7.out.f 0 rfl
            have x1 := XX7.out.c 1 rfl
            have xf1 := XX7.out.f 1 rfl
            have xz := XX7.out.size
            go_wp2
            have PD0 : w7.drew.cell? ⟨(w.heap.size + 1), 0, none⟩ = some (.slice to ts.length tc) := a0
            have PD1 : w7.drew.cell? ⟨(w.heap.size + 1), 1, none⟩ = some (.slice qo q.length qc) := a1
            go_region_law (first
                | (go_simp; go_at_call 34; have _g := hz8; refine (stepWake to tc ts qo qc q z w8 (by omega) (by omega) D8.out).mono ?_; rintro e w9 ⟨⟨vto, vtc, vts, vqo, vqc, vq, cv, rfl, hS1⟩, hy⟩; have hb : Below w8.heap.size w8 w9 := hy; have XR9 := hid (XR8.out.grew (Grew.of_below (p := p) hb) (by omega)); have XA9 := hid (XA8.out.grew (Grew.of_below (p := p) hb) (by omega)); have XX9 := hid (XX8.out.grew (Grew.of_below (p := p) hb) (by omega)); have D9 := hid (D8.out.grew (Grew.of_below (p := p) hb) (by omega)); have C9 := hid (C8.out.later hb); have hR9 : Grew p w w9 := hR8.trans (Grew.of_below (p := p) hb); have hz9 : w8.heap.size ≤ w9.heap.size := hb.size; have P9a := XA9.out.c 0 rfl; have P9b := XA9.out.c 1 rfl; have rg0 := XR9.out.c 0 rfl; have rh0 := XR9.out.f 0 rfl; have rg1 := XR9.out.c 1 rfl; have rh1 := XR9.out.f 1 rfl; have ag0 := XA9.out.c 0 rfl; have ah0 := XA9.out.f 0 rfl; have ag1 := XA9.out.c 1 rfl; have ah1 := XA9.out.f 1 rfl; have xg0 := XX9.out.c 0 rfl; have xh0 := XX9.out.f 0 rfl; have xg1 := XX9.out.c 1 rfl; have xh1 := XX9.out.f 1 rfl; clear hy hb)
                | (go_simp; go_at_call 31; refine (pick_any 5 p co cap bs k7 sd7 w7.drew hl (by omega) C7.out.drew).mono ?_; rintro e w8 ⟨⟨z, rfl, h0z, h1z⟩, hD⟩; obtain ⟨k8, sd8, hk8, hC, hg0, hsz⟩ := hD.grew; have hg : Grew p w7 w8 := hg0.from; have XR8 := hid (XR7.out.grew hg (by omega)); have XA8 := hid (XA7.out.grew hg (by omega)); have XX8 := hid (XX7.out.grew hg (by omega)); have D8 := hid (D7.out.grew hg (by omega)); have C8 := hid hC; have hR8 : Grew p w w8 := hR7.trans hg; have hz8 : w7.heap.size ≤ w8.heap.size := hg.size; have P8a := XA8.out.c 0 rfl; have P8b := XA8.out.c 1 rfl; clear hD hC hg0 hg hsz))
            all_goals
              by_cases hc : cv = 0
              · obtain ⟨hS, hE⟩ := hS1 hc
                have E9 := hid hE
                have HS := hid hS
                have hc1 : (cv == 0) = true := by simpa using hc
                have hc2 : decide (cv = 0) = true := by simpa using hc
                clear hc hS hE hS1
                obtain ⟨w10, hV⟩ : ∃ V, V = ((w9.setCell ⟨wr.heap.size, 0, none⟩ (.slice vto vts.length vtc)).setCell ⟨wr.heap.size, 1, none⟩ (.slice vqo vq.length vqc)) := ⟨_, rfl⟩
                have XR10 := hid (((XR9.out.other (a := ⟨wr.heap.size, 0, none⟩) (by dsimp only; omega) (.slice vto vts.length vtc)).other (a := ⟨wr.heap.size, 1, none⟩) (by dsimp only; omega) (.slice vqo vq.length vqc)))
                rw [← hV] at XR10
                have XA10 := hid (((XA9.out.other (a := ⟨wr.heap.size, 0, none⟩) (by dsimp only; omega) (.slice vto vts.length vtc)).other (a := ⟨wr.heap.size, 1, none⟩) (by dsimp only; omega) (.slice vqo vq.length vqc)))
                rw [← hV] at XA10
                have XX10 := hid (((XX9.out.set 0 (.slice vto vts.length vtc)).set 1 (.slice vqo vq.length vqc)))
                rw [← hV] at XX10
                have D10 := hid (((D9.out.setOff (a := ⟨wr.heap.size, 0, none⟩) (by dsimp only; omega) (.slice vto vts.length vtc)).setOff (a := ⟨wr.heap.size, 1, none⟩) (by dsimp only; omega) (.slice vqo vq.length vqc)))
                rw [← hV] at D10
                have E10 := hid (((E9.out.setOff (a := ⟨wr.heap.size, 0, none⟩) (by dsimp only; omega) (.slice vto vts.length vtc)).setOff (a := ⟨wr.heap.size, 1, none⟩) (by dsimp only; omega) (.slice vqo vq.length vqc)))
                rw [← hV] at E10
                have C10 := hid (((C9.out.other (a := ⟨wr.heap.size, 0, none⟩) (by dsimp only; omega) (.slice vto vts.length vtc)).other (a := ⟨wr.heap.size, 1, none⟩) (by dsimp only; omega) (.slice vqo vq.length vqc)))
                rw [← hV] at C10
                have hR10 : Grew p w w10 := by rw [hV]; exact ((hR9.set (a := ⟨wr.heap.size, 0, none⟩) (by dsimp only; omega) (.slice vto vts.length vtc)).set (a := ⟨wr.heap.size, 1, none⟩) (by dsimp only; omega) (.slice vqo vq.length vqc))
                have hz10 : w9.heap.size ≤ w10.heap.size := by rw [hV]; simp
                have H10 := hid hV
                clear hV XR9 XA9 XX9 D9 E9 C9
                go_upto_region 25 with fail
                clear rg0 rh0 rg1 rh1 ag0 ah0 ag1 ah1 xg0 xh0 xg1 xh1
                rw [← H10.out]
                clear H10
                have r0 := XR10.out.c 0 rfl
                have rf0 := XR10.out.f 0 rfl
                have r1 := XR10.out.c 1 rfl
                have rf1 := XR10.out.f 1 rfl
                have rz := XR10.out.size
                have a0 := XA10.out.c 0 rfl
                have af0 := XA10.out.f 0 rfl
                have a1 := XA10.out.c 1 rfl
                have af1 := XA10.out.f 1 rfl
                have az := XA10.out.size
                have x0 := XX10.out.c 0 rfl
                have xf0 := XX10.out.f 0 rfl
                have x1 := XX10.out.c 1 rfl
                have xf1 := XX10.out.f 1 rfl
                have xz := XX10.out.size
                obtain ⟨w11, hV⟩ : ∃ V, V = ((w10.setCell ⟨(w.heap.size + 1), 0, none⟩ (.slice vto vts.length vtc)).setCell ⟨(w.heap.size + 1), 1, none⟩ (.slice vqo vq.length vqc)) := ⟨_, rfl⟩
                have XR11 := hid (((XR10.out.other (a := ⟨(w.heap.size + 1), 0, none⟩) (by dsimp only; omega) (.slice vto vts.length vtc)).other (a := ⟨(w.heap.size + 1), 1, none⟩) (by dsimp only; omega) (.slice vqo vq.length vqc)))
                rw [← hV] at XR11
                have XA11 := hid (((XA10.out.set 0 (.slice vto vts.length vtc)).set 1 (.slice vqo vq.length vqc)))
                rw [← hV] at XA11
                have XX11 := hid (((XX10.out.other (a := ⟨(w.heap.size + 1), 0, none⟩) (by dsimp only; omega) (.slice vto vts.length vtc)).other (a := ⟨(w.heap.size + 1), 1, none⟩) (by dsimp only; omega) (.slice vqo vq.length vqc)))
                rw [← hV] at XX11
                have D11 := hid (((D10.out.setOff (a := ⟨(w.heap.size + 1), 0, none⟩) (by dsimp only; omega) (.slice vto vts.length vtc)).setOff (a := ⟨(w.heap.size + 1), 1, none⟩) (by dsimp only; omega) (.slice vqo vq.length vqc)))
                rw [← hV] at D11
                have E11 := hid (((E10.out.setOff (a := ⟨(w.heap.size + 1), 0, none⟩) (by dsimp only; omega) (.slice vto vts.length vtc)).setOff (a := ⟨(w.heap.size + 1), 1, none⟩) (by dsimp only; omega) (.slice vqo vq.length vqc)))
                rw [← hV] at E11
                have C11 := hid (((C10.out.other (a := ⟨(w.heap.size + 1), 0, none⟩) (by dsimp only; omega) (.slice vto vts.length vtc)).other (a := ⟨(w.heap.size + 1), 1, none⟩) (by dsimp only; omega) (.slice vqo vq.length vqc)))
                rw [← hV] at C11
                have hR11 : Grew p w w11 := by rw [hV]; exact ((hR10.set (a := ⟨(w.heap.size + 1), 0, none⟩) (by dsimp only; omega) (.slice vto vts.length vtc)).set (a := ⟨(w.heap.size + 1), 1, none⟩) (by dsimp only; omega) (.slice vqo vq.length vqc))
                have hz11 : w10.heap.size ≤ w11.heap.size := by rw [hV]; simp
                have H11 := hid hV
                clear hV XR10 XA10 XX10 D10 E10 C10
                go_wp2
                clear r0 rf0 r1 rf1 rz a0 af0 a1 af1 az x0 xf0 x1 xf1 xz
                rw [← H11.out]
                clear H11
                have S2 := HS.out
                go_roundw
                case rel => exact ⟨m, k8, sd8, vto, vtc, vts, vqo, vqc, vq, by go_num, by omega, S2.2.1, S2.2.2.1, hid S2.2.2.2, by omega, XR11, XA11, hid (E11.out.wide (by omega) (by omega)), C11, hR11, by omega⟩
                case measure => simp [intOf] <;> omega
              · have hc1 : (cv == 0) = false := by simpa using hc
                have hc2 : decide (cv = 0) = false := by simpa using hc
                clear hc hS1
                obtain ⟨w10, hV⟩ : ∃ V, V = ((w9.setCell ⟨wr.heap.size, 0, none⟩ (.slice vto vts.length vtc)).setCell ⟨wr.heap.size, 1, none⟩ (.slice vqo vq.length vqc)) := ⟨_, rfl⟩
                have XR10 := hid (((XR9.out.other (a := ⟨wr.heap.size, 0, none⟩) (by dsimp only; omega) (.slice vto vts.length vtc)).other (a := ⟨wr.heap.size, 1, none⟩) (by dsimp only; omega) (.slice vqo vq.length vqc)))
                rw [← hV] at XR10
                have XA10 := hid (((XA9.out.other (a := ⟨wr.heap.size, 0, none⟩) (by dsimp only; omega) (.slice vto vts.length vtc)).other (a := ⟨wr.heap.size, 1, none⟩) (by dsimp only; omega) (.slice vqo vq.length vqc)))
                rw [← hV] at XA10
                have XX10 := hid (((XX9.out.set 0 (.slice vto vts.length vtc)).set 1 (.slice vqo vq.length vqc)))
                rw [← hV] at XX10
                have D10 := hid (((D9.out.setOff (a := ⟨wr.heap.size, 0, none⟩) (by dsimp only; omega) (.slice vto vts.length vtc)).setOff (a := ⟨wr.heap.size, 1, none⟩) (by dsimp only; omega) (.slice vqo vq.length vqc)))
                rw [← hV] at D10
                have C10 := hid (((C9.out.other (a := ⟨wr.heap.size, 0, none⟩) (by dsimp only; omega) (.slice vto vts.length vtc)).other (a := ⟨wr.heap.size, 1, none⟩) (by dsimp only; omega) (.slice vqo vq.length vqc)))
                rw [← hV] at C10
                have hR10 : Grew p w w10 := by rw [hV]; exact ((hR9.set (a := ⟨wr.heap.size, 0, none⟩) (by dsimp only; omega) (.slice vto vts.length vtc)).set (a := ⟨wr.heap.size, 1, none⟩) (by dsimp only; omega) (.slice vqo vq.length vqc))
                have hz10 : w9.heap.size ≤ w10.heap.size := by rw [hV]; simp
                have H10 := hid hV
                clear hV XR9 XA9 XX9 D9 C9
                go_upto_region 25 with fail
                clear rg0 rh0 rg1 rh1 ag0 ah0 ag1 ah1 xg0 xh0 xg1 xh1
                rw [← H10.out]
                clear H10
                have r0 := XR10.out.c 0 rfl
                have rf0 := XR10.out.f 0 rfl
                have r1 := XR10.out.c 1 rfl
                have rf1 := XR10.out.f 1 rfl
                have rz := XR10.out.size
                have a0 := XA10.out.c 0 rfl
                have af0 := XA10.out.f 0 rfl
                have a1 := XA10.out.c 1 rfl
                have af1 := XA10.out.f 1 rfl
                have az := XA10.out.size
                have x0 := XX10.out.c 0 rfl
                have xf0 := XX10.out.f 0 rfl
                have x1 := XX10.out.c 1 rfl
                have xf1 := XX10.out.f 1 rfl
                have xz := XX10.out.size
                go_wp2
                clear r0 rf0 r1 rf1 rz a0 af0 a1 af1 az x0 xf0 x1 xf1 xz
                go_roundw
                case rel => exact ⟨m, k8, sd8, to, tc, ts, qo, qc, q, by go_num, by omega, hts, hq, HIR, by omega, XR10, XA10, hid (D10.out.wide (by omega) (by omega)), C10, hR10, by omega⟩
                case measure => simp [intOf] <;> omega
          · have r0 := XR7.out.c 0 rfl
            have rf0 := XR7.out.f 0 rfl
            have r1 := XR7.out.c 1 rfl
            have rf1 := XR7.out.f 1 rfl
            have rz := XR7.out.size
            have a0 := XA7.out.c 0 rfl
            have af0 := XA7.out.f 0 rfl
            have a1 := XA7.out.c 1 rfl
            have af1 := XA7.out.f 1 rfl
            have az := XA7.out.size
            have x0 := XX7.out.c 0 rfl
            have xf0 := XX7.out.f 0 rfl
            have x1 := XX7.out.c 1 rfl
            have xf1 := XX7.out.f 1 rfl
            have xz := XX7.out.size
            go_wp2_with fail
            clear r0 rf0 r1 rf1 rz a0 af0 a1 af1 az x0 xf0 x1 xf1 xz
            refine (one_any 3 p co cap bs k7 sd7 w7 hl (by omega) C7.out).mono ?_
            rintro e w8 ⟨⟨b3, rfl⟩, hD⟩
            obtain ⟨k8, sd8, hk8, hC8, hg8, hsz8⟩ := hD.grew
            have XR8 := hid (XR7.out.grew hg8 (by omega))
            have XA8 := hid (XA7.out.grew hg8 (by omega))
            have XX8 := hid (XX7.out.grew hg8 (by omega))
            have D8 := hid (D7.out.grew hg8 (by omega))
            have C8 := hid hC8
            have hR8 : Grew p w w8 := hR7.trans hg8
            have hz8 : w7.heap.size ≤ w8.heap.size := hg8.size
            clear XR7 XA7 XX7 D7 C7 hD hg8 hC8 hsz8
            cases b3
            · have r0 := XR8.out.c 0 rfl
              have rf0 := XR8.out.f 0 rfl
              have r1 := XR8.out.c 1 rfl
              have rf1 := XR8.out.f 1 rfl
              have rz := XR8.out.size
              have a0 := XA8.out.c 0 rfl
              have af0 := XA8.out.f 0 rfl
              have a1 := XA8.out.c 1 rfl
              have af1 := XA8.out.f 1 rfl
              have az := XA8.out.size
              have x0 := XX8.out.c 0 rfl
              have xf0 := XX8.out.f 0 rfl
              have x1 := XX8.out.c 1 rfl
              have xf1 := XX8.out.f 1 rfl
              have xz := XX8.out.size
              go_upto_region 25 with fail
              clear r0 rf0 r1 rf1 rz a0 af0 a1 af1 az x0 xf0 x1 xf1 xz
              have r0 := XR8.out.c 0 rfl
              have rf0 := XR8.out.f 0 rfl
              have r1 := XR8.out.c 1 rfl
              have rf1 := XR8.out.f 1 rfl
              have rz := XR8.out.size
              have a0 := XA8.out.c 0 rfl
              have af0 := XA8.out.f 0 rfl
              have a1 := XA8.out.c 1 rfl
              have af1 := XA8.out.f 1 rfl
              have az := XA8.out.size
              have x0 := XX8.out.c 0 rfl
              have xf0 := XX8.out.f 0 rfl
              have x1 := XX8.out.c 1 rfl
              have xf1 := XX8.out.f 1 rfl
              have xz := XX8.out.size
              obtain ⟨w9, hV⟩ : ∃ V, V = ((w8.setCell ⟨(w.heap.size + 1), 0, none⟩ (.slice to ts.length tc)).setCell ⟨(w.heap.size + 1), 1, none⟩ (.slice qo q.length qc)) := ⟨_, rfl⟩
              have XR9 := hid (((XR8.out.other (a := ⟨(w.heap.size + 1), 0, none⟩) (by dsimp only; omega) (.slice to ts.length tc)).other (a := ⟨(w.heap.size + 1), 1, none⟩) (by dsimp only; omega) (.slice qo q.length qc)))
              rw [← hV] at XR9
              have XA9 := hid (((XA8.out.set 0 (.slice to ts.length tc)).set 1 (.slice qo q.length qc)))
              rw [← hV] at XA9
              have XX9 := hid (((XX8.out.other (a := ⟨(w.heap.size + 1), 0, none⟩) (by dsimp only; omega) (.slice to ts.length tc)).other (a := ⟨(w.heap.size + 1), 1, none⟩) (by dsimp only; omega) (.slice qo q.length qc)))
              rw [← hV] at XX9
              have D9 := hid (((D8.out.setOff (a := ⟨(w.heap.size + 1), 0, none⟩) (by dsimp only; omega) (.slice to ts.length tc)).setOff (a := ⟨(w.heap.size + 1), 1, none⟩) (by dsimp only; omega) (.slice qo q.length qc)))
              rw [← hV] at D9
              have C9 := hid (((C8.out.other (a := ⟨(w.heap.size + 1), 0, none⟩) (by dsimp only; omega) (.slice to ts.length tc)).other (a := ⟨(w.heap.size + 1), 1, none⟩) (by dsimp only; omega) (.slice qo q.length qc)))
              rw [← hV] at C9
              have hR9 : Grew p w w9 := by rw [hV]; exact ((hR8.set (a := ⟨(w.heap.size + 1), 0, none⟩) (by dsimp only; omega) (.slice to ts.length tc)).set (a := ⟨(w.heap.size + 1), 1, none⟩) (by dsimp only; omega) (.slice qo q.length qc))
              have hz9 : w8.heap.size ≤ w9.heap.size := by rw [hV]; simp
              have H9 := hid hV
              clear hV XR8 XA8 XX8 D8 C8
              go_wp2
              clear r0 rf0 r1 rf1 rz a0 af0 a1 af1 az x0 xf0 x1 xf1 xz
              rw [← H9.out]
              clear H9
              go_roundw
              case rel => exact ⟨m, k8, sd8, to, tc, ts, qo, qc, q, by go_num, by omega, hts, hq, HIR, by omega, XR9, XA9, hid (D9.out.wide (by omega) (by omega)), C9, hR9, by omega⟩
              case measure => simp [intOf] <;> omega
            · have r0 := XR8.out.c 0 rfl
              have rf0 := XR8.out.f 0 rfl
              have r1 := XR8.out.c 1 rfl
              have rf1 := XR8.out.f 1 rfl
              have rz := XR8.out.size
              have a0 := XA8.out.c 0 rfl
              have af0 := XA8.out.f 0 rfl
              have a1 := XA8.out.c 1 rfl
              have af1 := XA8.out.f 1 rfl
              have az := XA8.out.size
              have x0 := XX8.out.c 0 rfl
              have xf0 := XX8.out.f 0 rfl
              have x1 := XX8.out.c 1 rfl
              have xf1 := XX8.out.f 1 rfl
              have xz := XX8.out.size
              go_wp2_with fail
              clear r0 rf0 r1 rf1 rz a0 af0 a1 af1 az x0 xf0 x1 xf1 xz
              refine (stepEnd to tc ts qo qc q w8 (by omega) (by omega) D8.out).mono ?_
              rintro e w9 ⟨⟨vto, vtc, vts, vqo, vqc, vq, cv, rfl, hS1⟩, hb9⟩
              have XR9 := hid (XR8.out.later hb9)
              have XA9 := hid (XA8.out.later hb9)
              have XX9 := hid (XX8.out.later hb9)
              have D9 := hid (D8.out.later hb9)
              have C9 := hid (C8.out.later hb9)
              have hR9 : Grew p w w9 := hR8.trans (Grew.of_below hb9)
              have hz9 : w8.heap.size ≤ w9.heap.size := hb9.size
              clear XR8 XA8 XX8 D8 C8 hb9
              by_cases hc : cv = 0
              · obtain ⟨hS, hE⟩ := hS1 hc
                have E9 := hid hE
                have HS := hid hS
                have hc1 : (cv == 0) = true := by simpa using hc
                have hc2 : decide (cv = 0) = true := by simpa using hc
                clear hc hS hE hS1
                have r0 := XR9.out.c 0 rfl
                have rf0 := XR9.out.f 0 rfl
                have r1 := XR9.out.c 1 rfl
                have rf1 := XR9.out.f 1 rfl
                have rz := XR9.out.size
                have a0 := XA9.out.c 0 rfl
                have af0 := XA9.out.f 0 rfl
                have a1 := XA9.out.c 1 rfl
                have af1 := XA9.out.f 1 rfl
                have az := XA9.out.size
                have x0 := XX9.out.c 0 rfl
                have xf0 := XX9.out.f 0 rfl
                have x1 := XX9.out.c 1 rfl
                have xf1 := XX9.out.f 1 rfl
                have xz := XX9.out.size
                obtain ⟨w10, hV⟩ : ∃ V, V = ((w9.setCell ⟨wr.heap.size, 0, none⟩ (.slice vto vts.length vtc)).setCell ⟨wr.heap.size, 1, none⟩ (.slice vqo vq.length vqc)) := ⟨_, rfl⟩
                have XR10 := hid (((XR9.out.other (a := ⟨wr.heap.size, 0, none⟩) (by dsimp only; omega) (.slice vto vts.length vtc)).other (a := ⟨wr.heap.size, 1, none⟩) (by dsimp only; omega) (.slice vqo vq.length vqc)))
                rw [← hV] at XR10
                have XA10 := hid (((XA9.out.other (a := ⟨wr.heap.size, 0, none⟩) (by dsimp only; omega) (.slice vto vts.length vtc)).other (a := ⟨wr.heap.size, 1, none⟩) (by dsimp only; omega) (.slice vqo vq.length vqc)))
                rw [← hV] at XA10
                have XX10 := hid (((XX9.out.set 0 (.slice vto vts.length vtc)).set 1 (.slice vqo vq.length vqc)))
                rw [← hV] at XX10
                have D10 := hid (((D9.out.setOff (a := ⟨wr.heap.size, 0, none⟩) (by dsimp only; omega) (.slice vto vts.length vtc)).setOff (a := ⟨wr.heap.size, 1, none⟩) (by dsimp only; omega) (.slice vqo vq.length vqc)))
                rw [← hV] at D10
                have E10 := hid (((E9.out.setOff (a := ⟨wr.heap.size, 0, none⟩) (by dsimp only; omega) (.slice vto vts.length vtc)).setOff (a := ⟨wr.heap.size, 1, none⟩) (by dsimp only; omega) (.slice vqo vq.length vqc)))
                rw [← hV] at E10
                have C10 := hid (((C9.out.other (a := ⟨wr.heap.size, 0, none⟩) (by dsimp only; omega) (.slice vto vts.length vtc)).other (a := ⟨wr.heap.size, 1, none⟩) (by dsimp only; omega) (.slice vqo vq.length vqc)))
                rw [← hV] at C10
                have hR10 : Grew p w w10 := by rw [hV]; exact ((hR9.set (a := ⟨wr.heap.size, 0, none⟩) (by dsimp only; omega) (.slice vto vts.length vtc)).set (a := ⟨wr.heap.size, 1, none⟩) (by dsimp only; omega) (.slice vqo vq.length vqc))
                have hz10 : w9.heap.size ≤ w10.heap.size := by rw [hV]; simp
                have H10 := hid hV
                clear hV XR9 XA9 XX9 D9 E9 C9
                go_upto_region 25 with fail
                clear r0 rf0 r1 rf1 rz a0 af0 a1 af1 az x0 xf0 x1 xf1 xz
                rw [← H10.out]
                clear H10
                have r0 := XR10.out.c 0 rfl
                have rf0 := XR10.out.f 0 rfl
                have r1 := XR10.out.c 1 rfl
                have rf1 := XR10.out.f 1 rfl
                have rz := XR10.out.size
                have a0 := XA10.out.c 0 rfl
                have af0 := XA10.out.f 0 rfl
                have a1 := XA10.out.c 1 rfl
                have af1 := XA10.out.f 1 rfl
                have az := XA10.out.size
                have x0 := XX10.out.c 0 rfl
                have xf0 := XX10.out.f 0 rfl
                have x1 := XX10.out.c 1 rfl
                have xf1 := XX10.out.f 1 rfl
                have xz := XX10.out.size
                obtain ⟨w11, hV⟩ : ∃ V, V = ((w10.setCell ⟨(w.heap.size + 1), 0, none⟩ (.slice vto vts.length vtc)).setCell ⟨(w.heap.size + 1), 1, none⟩ (.slice vqo vq.length vqc)) := ⟨_, rfl⟩
                have XR11 := hid (((XR10.out.other (a := ⟨(w.heap.size + 1), 0, none⟩) (by dsimp only; omega) (.slice vto vts.length vtc)).other (a := ⟨(w.heap.size + 1), 1, none⟩) (by dsimp only; omega) (.slice vqo vq.length vqc)))
                rw [← hV] at XR11
                have XA11 := hid (((XA10.out.set 0 (.slice vto vts.length vtc)).set 1 (.slice vqo vq.length vqc)))
                rw [← hV] at XA11
                have XX11 := hid (((XX10.out.other (a := ⟨(w.heap.size + 1), 0, none⟩) (by dsimp only; omega) (.slice vto vts.length vtc)).other (a := ⟨(w.heap.size + 1), 1, none⟩) (by dsimp only; omega) (.slice vqo vq.length vqc)))
                rw [← hV] at XX11
                have D11 := hid (((D10.out.setOff (a := ⟨(w.heap.size + 1), 0, none⟩) (by dsimp only; omega) (.slice vto vts.length vtc)).setOff (a := ⟨(w.heap.size + 1), 1, none⟩) (by dsimp only; omega) (.slice vqo vq.length vqc)))
                rw [← hV] at D11
                have E11 := hid (((E10.out.setOff (a := ⟨(w.heap.size + 1), 0, none⟩) (by dsimp only; omega) (.slice vto vts.length vtc)).setOff (a := ⟨(w.heap.size + 1), 1, none⟩) (by dsimp only; omega) (.slice vqo vq.length vqc)))
                rw [← hV] at E11
                have C11 := hid (((C10.out.other (a := ⟨(w.heap.size + 1), 0, none⟩) (by dsimp only; omega) (.slice vto vts.length vtc)).other (a := ⟨(w.heap.size + 1), 1, none⟩) (by dsimp only; omega) (.slice vqo vq.length vqc)))
                rw [← hV] at C11
                have hR11 : Grew p w w11 := by rw [hV]; exact ((hR10.set (a := ⟨(w.heap.size + 1), 0, none⟩) (by dsimp only; omega) (.slice vto vts.length vtc)).set (a := ⟨(w.heap.size + 1), 1, none⟩) (by dsimp only; omega) (.slice vqo vq.length vqc))
                have hz11 : w10.heap.size ≤ w11.heap.size := by rw [hV]; simp
                have H11 := hid hV
                clear hV XR10 XA10 XX10 D10 E10 C10
                go_wp2
                clear r0 rf0 r1 rf1 rz a0 af0 a1 af1 az x0 xf0 x1 xf1 xz
                rw [← H11.out]
                clear H11
                have S2 := HS.out
                go_roundw
                case rel => exact ⟨m, k8, sd8, vto, vtc, vts, vqo, vqc, vq, by go_num, by omega, S2.2.1, S2.2.2.1, hid S2.2.2.2, by omega, XR11, XA11, hid (E11.out.wide (by omega) (by omega)), C11, hR11, by omega⟩
                case measure => simp [intOf] <;> omega
              · have hc1 : (cv == 0) = false := by simpa using hc
                have hc2 : decide (cv = 0) = false := by simpa using hc
                clear hc hS1
                have r0 := XR9.out.c 0 rfl
                have rf0 := XR9.out.f 0 rfl
                have r1 := XR9.out.c 1 rfl
                have rf1 := XR9.out.f 1 rfl
                have rz := XR9.out.size
                have a0 := XA9.out.c 0 rfl
                have af0 := XA9.out.f 0 rfl
                have a1 := XA9.out.c 1 rfl
                have af1 := XA9.out.f 1 rfl
                have az := XA9.out.size
                have x0 := XX9.out.c 0 rfl
                have xf0 := XX9.out.f 0 rfl
                have x1 := XX9.out.c 1 rfl
                have xf1 := XX9.out.f 1 rfl
                have xz := XX9.out.size
                obtain ⟨w10, hV⟩ : ∃ V, V = ((w9.setCell ⟨wr.heap.size, 0, none⟩ (.slice vto vts.length vtc)).setCell ⟨wr.heap.size, 1, none⟩ (.slice vqo vq.length vqc)) := ⟨_, rfl⟩
                have XR10 := hid (((XR9.out.other (a := ⟨wr.heap.size, 0, none⟩) (by dsimp only; omega) (.slice vto vts.length vtc)).other (a := ⟨wr.heap.size, 1, none⟩) (by dsimp only; omega) (.slice vqo vq.length vqc)))
                rw [← hV] at XR10
                have XA10 := hid (((XA9.out.other (a := ⟨wr.heap.size, 0, none⟩) (by dsimp only; omega) (.slice vto vts.length vtc)).other (a := ⟨wr.heap.size, 1, none⟩) (by dsimp only; omega) (.slice vqo vq.length vqc)))
                rw [← hV] at XA10
                have XX10 := hid (((XX9.out.set 0 (.slice vto vts.length vtc)).set 1 (.slice vqo vq.length vqc)))
                rw [← hV] at XX10
                have D10 := hid (((D9.out.setOff (a := ⟨wr.heap.size, 0, none⟩) (by dsimp only; omega) (.slice vto vts.length vtc)).setOff (a := ⟨wr.heap.size, 1, none⟩) (by dsimp only; omega) (.slice vqo vq.length vqc)))
                rw [← hV] at D10
                have C10 := hid (((C9.out.other (a := ⟨wr.heap.size, 0, none⟩) (by dsimp only; omega) (.slice vto vts.length vtc)).other (a := ⟨wr.heap.size, 1, none⟩) (by dsimp only; omega) (.slice vqo vq.length vqc)))
                rw [← hV] at C10
                have hR10 : Grew p w w10 := by rw [hV]; exact ((hR9.set (a := ⟨wr.heap.size, 0, none⟩) (by dsimp only; omega) (.slice vto vts.length vtc)).set (a := ⟨wr.heap.size, 1, none⟩) (by dsimp only; omega) (.slice vqo vq.length vqc))
                have hz10 : w9.heap.size ≤ w10.heap.size := by rw [hV]; simp
                have H10 := hid hV
                clear hV XR9 XA9 XX9 D9 C9
                go_upto_region 25 with fail
                clear r0 rf0 r1 rf1 rz a0 af0 a1 af1 az x0 xf0 x1 xf1 xz
                rw [← H10.out]
                clear H10
                have r0 := XR10.out.c 0 rfl
                have rf0 := XR10.out.f 0 rfl
                have r1 := XR10.out.c 1 rfl
                have rf1 := XR10.out.f 1 rfl
                have rz := XR10.out.size
                have a0 := XA10.out.c 0 rfl
                have af0 := XA10.out.f 0 rfl
                have a1 := XA10.out.c 1 rfl
                have af1 := XA10.out.f 1 rfl
                have az := XA10.out.size
                have x0 := XX10.out.c 0 rfl
                have xf0 := XX10.out.f 0 rfl
                have x1 := XX10.out.c 1 rfl
                have xf1 := XX10.out.f 1 rfl
                have xz := XX10.out.size
                go_wp2
                clear r0 rf0 r1 rf1 rz a0 af0 a1 af1 az x0 xf0 x1 xf1 xz
                go_roundw
                case rel => exact ⟨m, k8, sd8, to, tc, ts, qo, qc, q, by go_num, by omega, hts, hq, HIR, by omega, XR10, XA10, hid (D10.out.wide (by omega) (by omega)), C10, hR10, by omega⟩
                case measure => simp [intOf] <;> omega
        | zero =>
          have r0 := XR5.out.c 0 rfl
          have rf0 := XR5.out.f 0 rfl
          have r1 := XR5.out.c 1 rfl
          have rf1 := XR5.out.f 1 rfl
          have rz := XR5.out.size
          have a0 := XA5.out.c 0 rfl
          have af0 := XA5.out.f 0 rfl
          have a1 := XA5.out.c 1 rfl
          have af1 := XA5.out.f 1 rfl
          have az := XA5.out.size
          go_wp2_with fail
          clear r0 rf0 r1 rf1 rz a0 af0 a1 af1 az
          refine (pick_any 40 p co cap bs k0 sd0 wr hl (by omega) C5.out).mono ?_
          rintro e w6 ⟨⟨y, rfl, h0y, h1y⟩, hD⟩
          obtain ⟨k6, sd6, hk6, hC6, hg6, hsz6⟩ := hD.grew
          have XR6 := hid (XR5.out.grew hg6 (by omega))
          have XA6 := hid (XA5.out.grew hg6 (by omega))
          have D6 := hid (D5.out.grew hg6 (by omega))
          have C6 := hid hC6
          have hR6 : Grew p w w6 := hR5.trans hg6
          have hz6 : wr.heap.size ≤ w6.heap.size := hg6.size
          clear XR5 XA5 D5 C5 hD hg6 hC6 hsz6
          have hy3 : y = 0 ∨ y = 1 ∨ y = 2 ∨ (y ≠ 0 ∧ y ≠ 1 ∧ y ≠ 2) := by omega
          clear h0y h1y
          rcases hy3 with rfl | rfl | rfl | ⟨y0, y1, y2⟩
          · have r0 := XR6.out.c 0 rfl
            have rf0 := XR6.out.f 0 rfl
            have r1 := XR6.out.c 1 rfl
            have rf1 := XR6.out.f 1 rfl
            have rz := XR6.out.size
            have a0 := XA6.out.c 0 rfl
            have af0 := XA6.out.f 0 rfl
            have a1 := XA6.out.c 1 rfl
            have af1 := XA6.out.f 1 rfl
            have az := XA6.out.size
            go_wp2
            have PD : w6.drew.cell? ⟨(w.heap.size + 1), 1, none⟩ = some (.slice qo q.length qc) := a1
            go_region_law (first
                | (refine appQ (w7.alloc (.cells #[.int .i64 (IntKind.i64.wrap (z - 1))] 3)) qo qc q Dl.out (by rfl) (.tmp 78) (.tmp 82) (by rfl) (by rfl) (by simp <;> omega) w7.heap.size (IntKind.i64.wrap (z - 1)) (by rfl) _ HN.out (by omega) ?_; intro qo3 qc3 w8 hB hD3; obtain ⟨zs, hzs⟩ : ∃ zs, zs = q ++ [(IntKind.i64.wrap (z - 1))] := ⟨_, rfl⟩; have hzl : zs.length ≤ 32 := (by rw [hzs]; simp <;> omega); rw [← hzs] at hD3 ⊢; clear hzs; have hz8 : w7.heap.size + 1 ≤ w8.heap.size := (by have := hB.size; simpa using this); have XR8 := hid (XRl.out.below hB (by omega)); have XA8 := hid (XAl.out.below hB (by omega)); have D8 := hid hD3; have C8 := hid (Cl.out.below hB (by omega)); have hR8 := hRl.of_below2 hB (by omega); have P8 : w8.cell? ⟨(w.heap.size + 1), 1, none⟩ = some (.slice qo q.length qc) := XA8.out.c 1 rfl; have rg0 := XR8.out.c 0 rfl; have rh0 := XR8.out.f 0 rfl; have rg1 := XR8.out.c 1 rfl; have rh1 := XR8.out.f 1 rfl; have ag0 := XA8.out.c 0 rfl; have ah0 := XA8.out.f 0 rfl; have ag1 := XA8.out.c 1 rfl; have ah1 := XA8.out.f 1 rfl; clear hB hD3)
                | (go_simp; go_at_call 31; refine (pick_any 4 p co cap bs k6 sd6 w6.drew hl (by omega) C6.out.drew).mono ?_; rintro e w7 ⟨⟨z, rfl, h0z, h1z⟩, hD⟩; obtain ⟨k7, sd7, hk7, hC, hg0, hsz⟩ := hD.grew; have hg : Grew p w6 w7 := hg0.from; have XR7 := hid ((XR6.out).grew hg (by omega)); have XA7 := hid ((XA6.out).grew hg (by omega)); have D7 := hid ((D6.out).grew hg (by omega)); have C7 := hid hC; have hR7 : Grew p w w7 := hR6.trans hg; have hz7 : w6.heap.size ≤ w7.heap.size := hg.size; have P7 : w7.cell? ⟨(w.heap.size + 1), 1, none⟩ = some (.slice qo q.length qc) := XA7.out.c 1 rfl; have XRl := hid (XR7.out.alloc (.cells #[.int .i64 (IntKind.i64.wrap (z - 1))] 3)); have XAl := hid (XA7.out.alloc (.cells #[.int .i64 (IntKind.i64.wrap (z - 1))] 3)); have Dl := hid (D7.out.later (below1 w7 (.cells #[.int .i64 (IntKind.i64.wrap (z - 1))] 3))); have Cl := hid (C7.out.later (below1 w7 (.cells #[.int .i64 (IntKind.i64.wrap (z - 1))] 3))); have hRl : Grew p w (w7.alloc (.cells #[.int .i64 (IntKind.i64.wrap (z - 1))] 3)) := hR7.trans (Grew.alloc p _ _); have HN : Hid (kI.In (w7.heap.size + 1) (w7.alloc (.cells #[.int .i64 (IntKind.i64.wrap (z - 1))] 3)) (some ⟨w7.heap.size, 0, none⟩) [(IntKind.i64.wrap (z - 1))]) := int_one (by omega) (by simp); have PL : (w7.alloc (.cells #[.int .i64 (IntKind.i64.wrap (z - 1))] 3)).cell? ⟨(w.heap.size + 1), 1, none⟩ = some (.slice qo q.length qc) := XAl.out.c 1 rfl; clear hD hC hg0 hg hsz))
            all_goals
              obtain ⟨w9, hV⟩ : ∃ V, V = (w8.setCell ⟨(w.heap.size + 1), 1, none⟩ (.slice qo3 zs.length qc3)) := ⟨_, rfl⟩
              have XR9 := hid ((XR8.out.other (a := ⟨(w.heap.size + 1), 1, none⟩) (by dsimp only; omega) (.slice qo3 zs.length qc3)))
              rw [← hV] at XR9
              have XA9 := hid ((XA8.out.set 1 (.slice qo3 zs.length qc3)))
              rw [← hV] at XA9
              have D9 := hid ((D8.out.setOff (a := ⟨(w.heap.size + 1), 1, none⟩) (by dsimp only; omega) (.slice qo3 zs.length qc3)))
              rw [← hV] at D9
              have C9 := hid ((C8.out.other (a := ⟨(w.heap.size + 1), 1, none⟩) (by dsimp only; omega) (.slice qo3 zs.length qc3)))
              rw [← hV] at C9
              have hR9 : Grew p w w9 := by rw [hV]; exact (hR8.set (a := ⟨(w.heap.size + 1), 1, none⟩) (by dsimp only; omega) (.slice qo3 zs.length qc3))
              have hz9 : w8.heap.size ≤ w9.heap.size := by rw [hV]; simp
              have H9 := hid hV
              clear hV XR8 XA8 D8 C8
              go_upto_region 35 with fail
              clear rg0 rh0 rg1 rh1 ag0 ah0 ag1 ah1
              rw [← H9.out]
              clear H9
              have r0 := XR9.out.c 0 rfl
              have rf0 := XR9.out.f 0 rfl
              have r1 := XR9.out.c 1 rfl
              have rf1 := XR9.out.f 1 rfl
              have rz := XR9.out.size
              have a0 := XA9.out.c 0 rfl
              have af0 := XA9.out.f 0 rfl
              have a1 := XA9.out.c 1 rfl
              have af1 := XA9.out.f 1 rfl
              have az := XA9.out.size
              obtain ⟨w10, hV⟩ : ∃ V, V = ((w9.setCell ⟨w.heap.size, 0, none⟩ (.slice to ts.length tc)).setCell ⟨w.heap.size, 1, none⟩ (.slice qo3 zs.length qc3)) := ⟨_, rfl⟩
              have XR10 := hid (((XR9.out.set 0 (.slice to ts.length tc)).set 1 (.slice qo3 zs.length qc3)))
              rw [← hV] at XR10
              have XA10 := hid (((XA9.out.other (a := ⟨w.heap.size, 0, none⟩) (by dsimp only; omega) (.slice to ts.length tc)).other (a := ⟨w.heap.size, 1, none⟩) (by dsimp only; omega) (.slice qo3 zs.length qc3)))
              rw [← hV] at XA10
              have D10 := hid (((D9.out.setOff (a := ⟨w.heap.size, 0, none⟩) (by dsimp only; omega) (.slice to ts.length tc)).setOff (a := ⟨w.heap.size, 1, none⟩) (by dsimp only; omega) (.slice qo3 zs.length qc3)))
              rw [← hV] at D10
              have C10 := hid (((C9.out.other (a := ⟨w.heap.size, 0, none⟩) (by dsimp only; omega) (.slice to ts.length tc)).other (a := ⟨w.heap.size, 1, none⟩) (by dsimp only; omega) (.slice qo3 zs.length qc3)))
              rw [← hV] at C10
              have hR10 : Grew p w w10 := by rw [hV]; exact ((hR9.set (a := ⟨w.heap.size, 0, none⟩) (by dsimp only; omega) (.slice to ts.length tc)).set (a := ⟨w.heap.size, 1, none⟩) (by dsimp only; omega) (.slice qo3 zs.length qc3))
              have hz10 : w9.heap.size ≤ w10.heap.size := by rw [hV]; simp
              have H10 := hid hV
              clear hV XR9 XA9 D9 C9
              go_wp2
              clear r0 rf0 r1 rf1 rz a0 af0 a1 af1 az
              rw [← H10.out]
              clear H10
              have r0 := XR10.out.c 0 rfl
              have rf0 := XR10.out.f 0 rfl
              have r1 := XR10.out.c 1 rfl
              have rf1 := XR10.out.f 1 rfl
              have rz := XR10.out.size
              have a0 := XA10.out.c 0 rfl
              have af0 := XA10.out.f 0 rfl
              have a1 := XA10.out.c 1 rfl
              have af1 := XA10.out.f 1 rfl
              have az := XA10.out.size
              refine bodyPost_ret (v := .agg #[.slice to ts.length tc, .slice qo3 zs.length qc3]) (by simp [results, Try.results11, go_sem, r0, r1]) rfl ?_
              exact ⟨⟨to, tc, ts, qo3, qc3, zs, rfl, ⟨by omega, by omega⟩, D10.out.wide (by omega) (by omega)⟩, k7, sd7, by omega, C10.out, hR10⟩
          · have r0 := XR6.out.c 0 rfl
            have rf0 := XR6.out.f 0 rfl
            have r1 := XR6.out.c 1 rfl
            have rf1 := XR6.out.f 1 rfl
            have rz := XR6.out.size
            have a0 := XA6.out.c 0 rfl
            have af0 := XA6.out.f 0 rfl
            have a1 := XA6.out.c 1 rfl
            have af1 := XA6.out.f 1 rfl
            have az := XA6.out.size
            go_wp2
            have PD : w6.drew.cell? ⟨(w.heap.size + 1), 0, none⟩ = some (.slice to ts.length tc) := a0
            have PB : (w6.alloc (.cells #[.int .i64 0, .int .i64 1, .int .i64 (-1), .int .i64 1000001] 3)).drew.cell? ⟨(w.heap.size + 1), 0, none⟩ = some (.slice to ts.length tc) := (XA6.out.alloc (.cells #[.int .i64 0, .int .i64 1, .int .i64 (-1), .int .i64 1000001] 3)).c 0 rfl
            go_region_law (first
                | (refine Kind.appS kT_ok (w8.alloc (.cells #[.int .i64 z, .int .i64 z2] 34)) (by rfl) (.tmp 88) (.tmp 95) (by rfl) ((w.heap.size + 1) + 1) (.slice to ts.length tc) ts (by rfl) Dl.out.1.1 (by simp <;> omega) (some ⟨w8.heap.size, 0, none⟩) [(z, z2)] 1 1 (by rfl) rfl (by simp) _ HN.out (by simp <;> omega) ?_; intro v' w9 hO hB hG hn; obtain ⟨zs, hzs⟩ : ∃ zs, zs = ts ++ [(z, z2)] := ⟨_, rfl⟩; have hzl : zs.length ≤ 31 := (by rw [hzs]; simp <;> omega); rw [← hzs] at hO; clear hzs; obtain ⟨to3, tc3, rfl, hO3⟩ := hO.as; have hD3 : BW ((w.heap.size + 1) + 1) w9.heap.size w9 to3 tc3 zs qo qc q := ⟨Kind.RW.of hO3, Dl.out.2.elim .inl fun h => .inr (Kind.RW.of (rw_grown (by decide) h Dl.out.1.1 hG).1)⟩; clear hO hO3 hG hn; have hz9 : w8.heap.size + 1 ≤ w9.heap.size := (by have := hB.size; simpa using this); have XR9 := hid (XRl.out.below hB (by omega)); have XA9 := hid (XAl.out.below hB (by omega)); have D9 := hid hD3; have C9 := hid (Cl.out.below hB (by omega)); have hR9 := hRl.of_below2 hB (by omega); have P9 : w9.cell? ⟨(w.heap.size + 1), 0, none⟩ = some (.slice to ts.length tc) := XA9.out.c 0 rfl; have rg0 := XR9.out.c 0 rfl; have rh0 := XR9.out.f 0 rfl; have rg1 := XR9.out.c 1 rfl; have rh1 := XR9.out.f 1 rfl; have ag0 := XA9.out.c 0 rfl; have ah0 := XA9.out.f 0 rfl; have ag1 := XA9.out.c 1 rfl; have ah1 := XA9.out.f 1 rfl; clear hB hD3)
                | (go_simp; go_at_call 36; have _g := XUB; refine (among_in [0, 1, -1, 1000001] w6.heap.size p co cap bs k7 sd7 w7 hl (by omega) C7.out (by simp) (by simp) XUB.out (by omega)).mono ?_; rintro e w8 ⟨⟨z2, _, rfl⟩, hD⟩; obtain ⟨k8, sd8, hk8, hC, hg0, hsz⟩ := hD.grew; have hg : Grew p w7 w8 := hg0; have XR8 := hid (XR7.out.grew hg (by omega)); have XA8 := hid (XA7.out.grew hg (by omega)); have D8 := hid (D7.out.grew hg (by omega)); have C8 := hid hC; have hR8 : Grew p w w8 := hR7.trans hg; have hz8 : w7.heap.size ≤ w8.heap.size := hg.size; have P8 : w8.cell? ⟨(w.heap.size + 1), 0, none⟩ = some (.slice to ts.length tc) := XA8.out.c 0 rfl; have XRl := hid (XR8.out.alloc (.cells #[.int .i64 z, .int .i64 z2] 34)); have XAl := hid (XA8.out.alloc (.cells #[.int .i64 z, .int .i64 z2] 34)); have Dl := hid (D8.out.later (below1 w8 (.cells #[.int .i64 z, .int .i64 z2] 34))); have Cl := hid (C8.out.later (below1 w8 (.cells #[.int .i64 z, .int .i64 z2] 34))); have hRl : Grew p w (w8.alloc (.cells #[.int .i64 z, .int .i64 z2] 34)) := hR8.trans (Grew.alloc p _ _); have HN : Hid (kT.In (w8.heap.size + 1) (w8.alloc (.cells #[.int .i64 z, .int .i64 z2] 34)) (some ⟨w8.heap.size, 0, none⟩) [(z, z2)]) := kT_one (by omega) (by simp) (by simp); have PL : (w8.alloc (.cells #[.int .i64 z, .int .i64 z2] 34)).cell? ⟨(w.heap.size + 1), 0, none⟩ = some (.slice to ts.length tc) := XAl.out.c 0 rfl; clear hD hC hg0 hg hsz)
                | (go_simp; go_at_call 36; have _g := hz7; refine (among_in [0, 1, -1, 1000001] w7.heap.size p co cap bs k7 sd7 (w7.alloc (.cells #[.int .i64 0, .int .i64 1, .int .i64 (-1), .int .i64 1000001] 3)) hl (by omega) (C7.out.later (below1 w7 (.cells #[.int .i64 0, .int .i64 1, .int .i64 (-1), .int .i64 1000001] 3))) (by simp) (by simp) XU.out (by omega)).mono ?_; rintro e w8 ⟨⟨z2, _, rfl⟩, hD⟩; obtain ⟨k8, sd8, hk8, hC, hg0, hsz⟩ := hD.grew; have hg : Grew p (w7.alloc (.cells #[.int .i64 0, .int .i64 1, .int .i64 (-1), .int .i64 1000001] 3)) w8 := hg0; have XR8 := hid ((XR7.out.alloc (.cells #[.int .i64 0, .int .i64 1, .int .i64 (-1), .int .i64 1000001] 3)).grew hg (by omega)); have XA8 := hid ((XA7.out.alloc (.cells #[.int .i64 0, .int .i64 1, .int .i64 (-1), .int .i64 1000001] 3)).grew hg (by omega)); have D8 := hid ((D7.out.later (below1 w7 (.cells #[.int .i64 0, .int .i64 1, .int .i64 (-1), .int .i64 1000001] 3))).grew hg (by omega)); have C8 := hid hC; have hR8 : Grew p w w8 := (hR7.trans (Grew.alloc p w7 (.cells #[.int .i64 0, .int .i64 1, .int .i64 (-1), .int .i64 1000001] 3))).trans hg; have hz8 : w7.heap.size + 1 ≤ w8.heap.size := (by have := hg.size; simpa using this); have P8 : w8.cell? ⟨(w.heap.size + 1), 0, none⟩ = some (.slice to ts.length tc) := XA8.out.c 0 rfl; have XRl := hid (XR8.out.alloc (.cells #[.int .i64 z, .int .i64 z2] 34)); have XAl := hid (XA8.out.alloc (.cells #[.int .i64 z, .int .i64 z2] 34)); have Dl := hid (D8.out.later (below1 w8 (.cells #[.int .i64 z, .int .i64 z2] 34))); have Cl := hid (C8.out.later (below1 w8 (.cells #[.int .i64 z, .int .i64 z2] 34))); have hRl : Grew p w (w8.alloc (.cells #[.int .i64 z, .int .i64 z2] 34)) := hR8.trans (Grew.alloc p _ _); have HN : Hid (kT.In (w8.heap.size + 1) (w8.alloc (.cells #[.int .i64 z, .int .i64 z2] 34)) (some ⟨w8.heap.size, 0, none⟩) [(z, z2)]) := kT_one (by omega) (by simp) (by simp); have PL : (w8.alloc (.cells #[.int .i64 z, .int .i64 z2] 34)).cell? ⟨(w.heap.size + 1), 0, none⟩ = some (.slice to ts.length tc) := XAl.out.c 0 rfl; clear hD hC hg0 hg hsz)
                | (go_simp; go_at_call 31; refine (pick_any 6 p co cap bs k6 sd6 (w6.alloc (.cells #[.int .i64 0, .int .i64 1, .int .i64 (-1), .int .i64 1000001] 3)).drew hl (by omega) (C6.out.later (below1 w6 (.cells #[.int .i64 0, .int .i64 1, .int .i64 (-1), .int .i64 1000001] 3))).drew).mono ?_; rintro e w7 ⟨⟨z, rfl, h0z, h1z⟩, hD⟩; obtain ⟨k7, sd7, hk7, hC, hg0, hsz⟩ := hD.grew; have hg : Grew p (w6.alloc (.cells #[.int .i64 0, .int .i64 1, .int .i64 (-1), .int .i64 1000001] 3)) w7 := hg0.from; have XR7 := hid ((XR6.out.alloc (.cells #[.int .i64 0, .int .i64 1, .int .i64 (-1), .int .i64 1000001] 3)).grew hg (by omega)); have XA7 := hid ((XA6.out.alloc (.cells #[.int .i64 0, .int .i64 1, .int .i64 (-1), .int .i64 1000001] 3)).grew hg (by omega)); have D7 := hid ((D6.out.later (below1 w6 (.cells #[.int .i64 0, .int .i64 1, .int .i64 (-1), .int .i64 1000001] 3))).grew hg (by omega)); have C7 := hid hC; have hR7 : Grew p w w7 := (hR6.trans (Grew.alloc p w6 (.cells #[.int .i64 0, .int .i64 1, .int .i64 (-1), .int .i64 1000001] 3))).trans hg; have hz7 : w6.heap.size + 1 ≤ w7.heap.size := (by have := hg.size; simpa using this); have P7 : w7.cell? ⟨(w.heap.size + 1), 0, none⟩ = some (.slice to ts.length tc) := XA7.out.c 0 rfl; have XUB : Hid (Bx w7 w6.heap.size [.int .i64 0, .int .i64 1, .int .i64 (-1), .int .i64 1000001]) := hid ((Bx.new (w := w6) [.int .i64 0, .int .i64 1, .int .i64 (-1), .int .i64 1000001] _ rfl).grew hg (by omega)); clear hD hC hg0 hg hsz)
                | (go_simp; go_at_call 31; refine (pick_any 6 p co cap bs k6 sd6 w6.drew hl (by omega) C6.out.drew).mono ?_; rintro e w7 ⟨⟨z, rfl, h0z, h1z⟩, hD⟩; obtain ⟨k7, sd7, hk7, hC, hg0, hsz⟩ := hD.grew; have hg : Grew p w6 w7 := hg0.from; have XR7 := hid ((XR6.out).grew hg (by omega)); have XA7 := hid ((XA6.out).grew hg (by omega)); have D7 := hid ((D6.out).grew hg (by omega)); have C7 := hid hC; have hR7 : Grew p w w7 := hR6.trans hg; have hz7 : w6.heap.size ≤ w7.heap.size := hg.size; have P7 : w7.cell? ⟨(w.heap.size + 1), 0, none⟩ = some (.slice to ts.length tc) := XA7.out.c 0 rfl; have XU : Hid (Bx (w7.alloc (.cells #[.int .i64 0, .int .i64 1, .int .i64 (-1), .int .i64 1000001] 3)) w7.heap.size [.int .i64 0, .int .i64 1, .int .i64 (-1), .int .i64 1000001]) := hid (Bx.new (w := w7) [.int .i64 0, .int .i64 1, .int .i64 (-1), .int .i64 1000001] _ rfl); have PU : (w7.alloc (.cells #[.int .i64 0, .int .i64 1, .int .i64 (-1), .int .i64 1000001] 3)).cell? ⟨(w.heap.size + 1), 0, none⟩ = some (.slice to ts.length tc) := (XA7.out.alloc (.cells #[.int .i64 0, .int .i64 1, .int .i64 (-1), .int .i64 1000001] 3)).c 0 rfl; clear hD hC hg0 hg hsz))
            all_goals
              obtain ⟨w10, hV⟩ : ∃ V, V = (w9.setCell ⟨(w.heap.size + 1), 0, none⟩ (.slice to3 zs.length tc3)) := ⟨_, rfl⟩
              have XR10 := hid ((XR9.out.other (a := ⟨(w.heap.size + 1), 0, none⟩) (by dsimp only; omega) (.slice to3 zs.length tc3)))
              rw [← hV] at XR10
              have XA10 := hid ((XA9.out.set 0 (.slice to3 zs.length tc3)))
              rw [← hV] at XA10
              have D10 := hid ((D9.out.setOff (a := ⟨(w.heap.size + 1), 0, none⟩) (by dsimp only; omega) (.slice to3 zs.length tc3)))
              rw [← hV] at D10
              have C10 := hid ((C9.out.other (a := ⟨(w.heap.size + 1), 0, none⟩) (by dsimp only; omega) (.slice to3 zs.length tc3)))
              rw [← hV] at C10
              have hR10 : Grew p w w10 := by rw [hV]; exact (hR9.set (a := ⟨(w.heap.size + 1), 0, none⟩) (by dsimp only; omega) (.slice to3 zs.length tc3))
              have hz10 : w9.heap.size ≤ w10.heap.size := by rw [hV]; simp
              have H10 := hid hV
              clear hV XR9 XA9 D9 C9
              go_upto_region 35 with fail
              clear rg0 rh0 rg1 rh1 ag0 ah0 ag1 ah1
              rw [← H10.out]
              clear H10
              have r0 := XR10.out.c 0 rfl
              have rf0 := XR10.out.f 0 rfl
              have r1 := XR10.out.c 1 rfl
              have rf1 := XR10.out.f 1 rfl
              have rz := XR10.out.size
              have a0 := XA10.out.c 0 rfl
              have af0 := XA10.out.f 0 rfl
              have a1 := XA10.out.c 1 rfl
              have af1 := XA10.out.f 1 rfl
              have az := XA10.out.size
              obtain ⟨w11, hV⟩ : ∃ V, V = ((w10.setCell ⟨w.heap.size, 0, none⟩ (.slice to3 zs.length tc3)).setCell ⟨w.heap.size, 1, none⟩ (.slice qo q.length qc)) := ⟨_, rfl⟩
              have XR11 := hid (((XR10.out.set 0 (.slice to3 zs.length tc3)).set 1 (.slice qo q.length qc)))
              rw [← hV] at XR11
              have XA11 := hid (((XA10.out.other (a := ⟨w.heap.size, 0, none⟩) (by dsimp only; omega) (.slice to3 zs.length tc3)).other (a := ⟨w.heap.size, 1, none⟩) (by dsimp only; omega) (.slice qo q.length qc)))
              rw [← hV] at XA11
              have D11 := hid (((D10.out.setOff (a := ⟨w.heap.size, 0, none⟩) (by dsimp only; omega) (.slice to3 zs.length tc3)).setOff (a := ⟨w.heap.size, 1, none⟩) (by dsimp only; omega) (.slice qo q.length qc)))
              rw [← hV] at D11
              have C11 := hid (((C10.out.other (a := ⟨w.heap.size, 0, none⟩) (by dsimp only; omega) (.slice to3 zs.length tc3)).other (a := ⟨w.heap.size, 1, none⟩) (by dsimp only; omega) (.slice qo q.length qc)))
              rw [← hV] at C11
              have hR11 : Grew p w w11 := by rw [hV]; exact ((hR10.set (a := ⟨w.heap.size, 0, none⟩) (by dsimp only; omega) (.slice to3 zs.length tc3)).set (a := ⟨w.heap.size, 1, none⟩) (by dsimp only; omega) (.slice qo q.length qc))
              have hz11 : w10.heap.size ≤ w11.heap.size := by rw [hV]; simp
              have H11 := hid hV
              clear hV XR10 XA10 D10 C10
              go_wp2
              clear r0 rf0 r1 rf1 rz a0 af0 a1 af1 az
              rw [← H11.out]
              clear H11
              have r0 := XR11.out.c 0 rfl
              have rf0 := XR11.out.f 0 rfl
              have r1 := XR11.out.c 1 rfl
              have rf1 := XR11.out.f 1 rfl
              have rz := XR11.out.size
              have a0 := XA11.out.c 0 rfl
              have af0 := XA11.out.f 0 rfl
              have a1 := XA11.out.c 1 rfl
              have af1 := XA11.out.f 1 rfl
              have az := XA11.out.size
              refine bodyPost_ret (v := .agg #[.slice to3 zs.length tc3, .slice qo q.length qc]) (by simp [results, Try.results11, go_sem, r0, r1]) rfl ?_
              exact ⟨⟨to3, tc3, zs, qo, qc, q, rfl, ⟨by omega, by omega⟩, D11.out.wide (by omega) (by omega)⟩, k8, sd8, by omega, C11.out, hR11⟩
          · by_cases hq0 : q.length = 0
            · have hq1 : decide ((0 : Int) < (q.length : Int)) = false := by rw [decide_eq_false_iff_not]; omega
              obtain rfl : q = [] := List.length_eq_zero_iff.1 hq0
              clear hq0 hq1
              have XB : Hid (Bx w6 (w.heap.size + 1) [.slice to ts.length tc, .slice qo 0 qc]) := XA6
              clear XA6
              have XA6 := XB
              clear XB
              have r0 := XR6.out.c 0 rfl
              have rf0 := XR6.out.f 0 rfl
              have r1 := XR6.out.c 1 rfl
              have rf1 := XR6.out.f 1 rfl
              have rz := XR6.out.size
              have a0 := XA6.out.c 0 rfl
              have af0 := XA6.out.f 0 rfl
              have a1 := XA6.out.c 1 rfl
              have af1 := XA6.out.f 1 rfl
              have az := XA6.out.size
              go_upto_region 35 with fail
              clear r0 rf0 r1 rf1 rz a0 af0 a1 af1 az
              have r0 := XR6.out.c 0 rfl
              have rf0 := XR6.out.f 0 rfl
              have r1 := XR6.out.c 1 rfl
              have rf1 := XR6.out.f 1 rfl
              have rz := XR6.out.size
              have a0 := XA6.out.c 0 rfl
              have af0 := XA6.out.f 0 rfl
              have a1 := XA6.out.c 1 rfl
              have af1 := XA6.out.f 1 rfl
              have az := XA6.out.size
              obtain ⟨w7, hV⟩ : ∃ V, V = ((w6.setCell ⟨w.heap.size, 0, none⟩ (.slice to ts.length tc)).setCell ⟨w.heap.size, 1, none⟩ (.slice qo 0 qc)) := ⟨_, rfl⟩
              have XR7 := hid (((XR6.out.set 0 (.slice to ts.length tc)).set 1 (.slice qo 0 qc)))
              rw [← hV] at XR7
              have XA7 := hid (((XA6.out.other (a := ⟨w.heap.size, 0, none⟩) (by dsimp only; omega) (.slice to ts.length tc)).other (a := ⟨w.heap.size, 1, none⟩) (by dsimp only; omega) (.slice qo 0 qc)))
              rw [← hV] at XA7
              have D7 := hid (((D6.out.setOff (a := ⟨w.heap.size, 0, none⟩) (by dsimp only; omega) (.slice to ts.length tc)).setOff (a := ⟨w.heap.size, 1, none⟩) (by dsimp only; omega) (.slice qo 0 qc)))
              rw [← hV] at D7
              have C7 := hid (((C6.out.other (a := ⟨w.heap.size, 0, none⟩) (by dsimp only; omega) (.slice to ts.length tc)).other (a := ⟨w.heap.size, 1, none⟩) (by dsimp only; omega) (.slice qo 0 qc)))
              rw [← hV] at C7
              have hR7 : Grew p w w7 := by rw [hV]; exact ((hR6.set (a := ⟨w.heap.size, 0, none⟩) (by dsimp only; omega) (.slice to ts.length tc)).set (a := ⟨w.heap.size, 1, none⟩) (by dsimp only; omega) (.slice qo 0 qc))
              have hz7 : w6.heap.size ≤ w7.heap.size := by rw [hV]; simp
              have H7 := hid hV
              clear hV XR6 XA6 D6 C6
              go_wp2
              clear r0 rf0 r1 rf1 rz a0 af0 a1 af1 az
              rw [← H7.out]
              clear H7
              have r0 := XR7.out.c 0 rfl
              have rf0 := XR7.out.f 0 rfl
              have r1 := XR7.out.c 1 rfl
              have rf1 := XR7.out.f 1 rfl
              have rz := XR7.out.size
              have a0 := XA7.out.c 0 rfl
              have af0 := XA7.out.f 0 rfl
              have a1 := XA7.out.c 1 rfl
              have af1 := XA7.out.f 1 rfl
              have az := XA7.out.size
              refine bodyPost_ret (v := .agg #[.slice to ts.length tc, .slice qo 0 qc]) (by simp [results, Try.results11, go_sem, r0, r1]) rfl ?_
              exact ⟨⟨to, tc, ts, qo, qc, [], rfl, ⟨by omega, by omega⟩, D7.out.wide (by omega) (by omega)⟩, k6, sd6, by omega, C7.out, hR7⟩
            · have hq1 : decide ((0 : Int) < (q.length : Int)) = true := by rw [decide_eq_true_eq]; omega
              have DD := D6.out
              obtain ⟨qb, qf, rfl, hqb, hqs⟩ := ints_at DD.ints (show 0 < q.length by omega)
              obtain ⟨x, hx⟩ : ∃ x, x = el q 0 := ⟨_, rfl⟩
              have hq2 := hqs 0 (by omega)
              rw [← hx, Nat.add_zero] at hq2
              have hxi : 0 ≤ x ∧ x < (ts.length : Int) := HIR.out x (by rw [hx]; exact el_mem (by omega))
              obtain ⟨xn, rfl⟩ : ∃ n : Nat, x = n := ⟨x.toNat, by omega⟩
              clear hx hqs
              obtain ⟨g, tg1, tg2, tg3, tg4, tg5, tg6, tg7⟩ := tasks_pass DD (show 0 < ts.length by omega)
              subst tg1
              have tc1 := tg5 xn (by omega)
              have tf1 := tg6 (xn * 2 + 1)
              have hI1 : (xn : Int) < (ts.length : Int) := by omega
              have hI2 : (0 : Int) ≤ (xn : Int) := by omega
              have hI3 : (0 : Int) < (q.length : Int) := by omega
              have TP := hid (tg7 xn 1000000 (by omega))
              clear tg5 tg6 tg7 DD
              have r0 := XR6.out.c 0 rfl
              have rf0 := XR6.out.f 0 rfl
              have r1 := XR6.out.c 1 rfl
              have rf1 := XR6.out.f 1 rfl
              have rz := XR6.out.size
              have a0 := XA6.out.c 0 rfl
              have af0 := XA6.out.f 0 rfl
              have a1 := XA6.out.c 1 rfl
              have af1 := XA6.out.f 1 rfl
              have az := XA6.out.size
              have PD0 : w6.drew.cell? ⟨(w.heap.size + 1), 0, none⟩ = some (.slice (some ⟨g, 0, none⟩) ts.length tc) := a0
              have PD1 : w6.drew.cell? ⟨(w.heap.size + 1), 1, none⟩ = some (.slice (some ⟨qb, qf, none⟩) q.length qc) := a1
              go_wp2
              go_region
              clear r0 rf0 r1 rf1 rz a0 af0 a1 af1 az
              clear PD0 PD1 tc1 tf1 hq2
              obtain ⟨w7, hV⟩ : ∃ V, V = (w6.setCell ⟨g, xn * 2 + 1, none⟩ (.int .i64 1000000)).drew := ⟨_, rfl⟩
              have XR7 : Hid (Bx w7 w.heap.size [.slice none 0 0, .slice none 0 0]) := by rw [hV]; exact hid (Bx.drew (XR6.out.other (a := ⟨g, xn * 2 + 1, none⟩) (by dsimp only; omega) (.int .i64 1000000)))
              have XA7 : Hid (Bx w7 (w.heap.size + 1) [.slice (some ⟨g, 0, none⟩) ts.length tc, .slice (some ⟨qb, qf, none⟩) q.length qc]) := by rw [hV]; exact hid (Bx.drew (XA6.out.other (a := ⟨g, xn * 2 + 1, none⟩) (by dsimp only; omega) (.int .i64 1000000)))
              have C7 : Hid (Cur w7 p co cap bs k6 sd6) := by rw [hV]; exact hid (Cur.drew (C6.out.other (a := ⟨g, xn * 2 + 1, none⟩) (by dsimp only; omega) (.int .i64 1000000)))
              have hR7 : Grew p w w7 := by rw [hV]; have h := Grew.set (a := ⟨g, xn * 2 + 1, none⟩) hR6 (by dsimp only; omega) (.int .i64 1000000); exact ⟨h.os, h.tape, h.output, h.size, h.block⟩
              have hz7 : w6.heap.size ≤ w7.heap.size := by rw [hV]; simp
              have hl31 : (ts.set xn ((ts[xn]?.getD (0, 0)).1, 1000000)).length ≤ 31 := by simp <;> omega
              obtain ⟨zs, hzs⟩ : ∃ zs, zs = ts.set xn ((ts[xn]?.getD (0, 0)).1, 1000000) := ⟨_, rfl⟩
              have hzl : ts.length = zs.length := by rw [hzs]; simp
              rw [← hzs] at TP hl31
              have D7 : Hid (BW ((w.heap.size + 1) + 1) wr.heap.size w7 (some ⟨g, 0, none⟩) tc zs (some ⟨qb, qf, none⟩) qc q) := by rw [hV]; exact hid (TP.out.keep fun _ _ _ _ => rfl)
              rw [hzl] at XA7
              rw [← hV]
              clear hzs hV TP
              have r0 := XR7.out.c 0 rfl
              have rf0 := XR7.out.f 0 rfl
              have r1 := XR7.out.c 1 rfl
              have rf1 := XR7.out.f 1 rfl
              have rz := XR7.out.size
              have a0 := XA7.out.c 0 rfl
              have af0 := XA7.out.f 0 rfl
              have a1 := XA7.out.c 1 rfl
              have af1 := XA7.out.f 1 rfl
              have az := XA7.out.size
              go_upto_region 35 with fail
              clear r0 rf0 r1 rf1 rz a0 af0 a1 af1 az
              have r0 := XR7.out.c 0 rfl
              have rf0 := XR7.out.f 0 rfl
              have r1 := XR7.out.c 1 rfl
              have rf1 := XR7.out.f 1 rfl
              have rz := XR7.out.size
              have a0 := XA7.out.c 0 rfl
              have af0 := XA7.out.f 0 rfl
              have a1 := XA7.out.c 1 rfl
              have af1 := XA7.out.f 1 rfl
              have az := XA7.out.size
              obtain ⟨w8, hV⟩ : ∃ V, V = ((w7.setCell ⟨w.heap.size, 0, none⟩ (.slice (some ⟨g, 0, none⟩) zs.length tc)).setCell ⟨w.heap.size, 1, none⟩ (.slice (some ⟨qb, qf, none⟩) q.length qc)) := ⟨_, rfl⟩
              have XR8 := hid (((XR7.out.set 0 (.slice (some ⟨g, 0, none⟩) zs.length tc)).set 1 (.slice (some ⟨qb, qf, none⟩) q.length qc)))
              rw [← hV] at XR8
              have XA8 := hid (((XA7.out.other (a := ⟨w.heap.size, 0, none⟩) (by dsimp only; omega) (.slice (some ⟨g, 0, none⟩) zs.length tc)).other (a := ⟨w.heap.size, 1, none⟩) (by dsimp only; omega) (.slice (some ⟨qb, qf, none⟩) q.length qc)))
              rw [← hV] at XA8
              have D8 := hid (((D7.out.setOff (a := ⟨w.heap.size, 0, none⟩) (by dsimp only; omega) (.slice (some ⟨g, 0, none⟩) zs.length tc)).setOff (a := ⟨w.heap.size, 1, none⟩) (by dsimp only; omega) (.slice (some ⟨qb, qf, none⟩) q.length qc)))
              rw [← hV] at D8
              have C8 := hid (((C7.out.other (a := ⟨w.heap.size, 0, none⟩) (by dsimp only; omega) (.slice (some ⟨g, 0, none⟩) zs.length tc)).other (a := ⟨w.heap.size, 1, none⟩) (by dsimp only; omega) (.slice (some ⟨qb, qf, none⟩) q.length qc)))
              rw [← hV] at C8
              have hR8 : Grew p w w8 := by rw [hV]; exact ((hR7.set (a := ⟨w.heap.size, 0, none⟩) (by dsimp only; omega) (.slice (some ⟨g, 0, none⟩) zs.length tc)).set (a := ⟨w.heap.size, 1, none⟩) (by dsimp only; omega) (.slice (some ⟨qb, qf, none⟩) q.length qc))
              have hz8 : w7.heap.size ≤ w8.heap.size := by rw [hV]; simp
              have H8 := hid hV
              clear hV XR7 XA7 D7 C7
              go_wp2
              clear r0 rf0 r1 rf1 rz a0 af0 a1 af1 az
              rw [← H8.out]
              clear H8
              have r0 := XR8.out.c 0 rfl
              have rf0 := XR8.out.f 0 rfl
              have r1 := XR8.out.c 1 rfl
              have rf1 := XR8.out.f 1 rfl
              have rz := XR8.out.size
              have a0 := XA8.out.c 0 rfl
              have af0 := XA8.out.f 0 rfl
              have a1 := XA8.out.c 1 rfl
              have af1 := XA8.out.f 1 rfl
              have az := XA8.out.size
              refine bodyPost_ret (v := .agg #[.slice (some ⟨g, 0, none⟩) zs.length tc, .slice (some ⟨qb, qf, none⟩) q.length qc]) (by simp [results, Try.results11, go_sem, r0, r1]) rfl ?_
              exact ⟨⟨some ⟨g, 0, none⟩, tc, zs, some ⟨qb, qf, none⟩, qc, q, rfl, ⟨by omega, by omega⟩, D8.out.wide (by omega) (by omega)⟩, k6, sd6, by omega, C8.out, hR8⟩
          · have e0 : (y == 0) = false := by simpa using y0
            have f0 : decide (y = 0) = false := by simpa using y0
            have e1 : (y == 1) = false := by simpa using y1
            have f1 : decide (y = 1) = false := by simpa using y1
            have e2 : (y == 2) = false := by simpa using y2
            have f2 : decide (y = 2) = false := by simpa using y2
            have r0 := XR6.out.c 0 rfl
            have rf0 := XR6.out.f 0 rfl
            have r1 := XR6.out.c 1 rfl
            have rf1 := XR6.out.f 1 rfl
            have rz := XR6.out.size
            have a0 := XA6.out.c 0 rfl
            have af0 := XA6.out.f 0 rfl
            have a1 := XA6.out.c 1 rfl
            have af1 := XA6.out.f 1 rfl
            have az := XA6.out.size
            go_upto_region 35 with fail
            clear r0 rf0 r1 rf1 rz a0 af0 a1 af1 az
            have r0 := XR6.out.c 0 rfl
            have rf0 := XR6.out.f 0 rfl
            have r1 := XR6.out.c 1 rfl
            have rf1 := XR6.out.f 1 rfl
            have rz := XR6.out.size
            have a0 := XA6.out.c 0 rfl
            have af0 := XA6.out.f 0 rfl
            have a1 := XA6.out.c 1 rfl
            have af1 := XA6.out.f 1 rfl
            have az := XA6.out.size
            obtain ⟨w7, hV⟩ : ∃ V, V = ((w6.setCell ⟨w.heap.size, 0, none⟩ (.slice to ts.length tc)).setCell ⟨w.heap.size, 1, none⟩ (.slice qo q.length qc)) := ⟨_, rfl⟩
            have XR7 := hid (((XR6.out.set 0 (.slice to ts.length tc)).set 1 (.slice qo q.length qc)))
            rw [← hV] at XR7
            have XA7 := hid (((XA6.out.other (a := ⟨w.heap.size, 0, none⟩) (by dsimp only; omega) (.slice to ts.length tc)).other (a := ⟨w.heap.size, 1, none⟩) (by dsimp only; omega) (.slice qo q.length qc)))
            rw [← hV] at XA7
            have D7 := hid (((D6.out.setOff (a := ⟨w.heap.size, 0, none⟩) (by dsimp only; omega) (.slice to ts.length tc)).setOff (a := ⟨w.heap.size, 1, none⟩) (by dsimp only; omega) (.slice qo q.length qc)))
            rw [← hV] at D7
            have C7 := hid (((C6.out.other (a := ⟨w.heap.size, 0, none⟩) (by dsimp only; omega) (.slice to ts.length tc)).other (a := ⟨w.heap.size, 1, none⟩) (by dsimp only; omega) (.slice qo q.length qc)))
            rw [← hV] at C7
            have hR7 : Grew p w w7 := by rw [hV]; exact ((hR6.set (a := ⟨w.heap.size, 0, none⟩) (by dsimp only; omega) (.slice to ts.length tc)).set (a := ⟨w.heap.size, 1, none⟩) (by dsimp only; omega) (.slice qo q.length qc))
            have hz7 : w6.heap.size ≤ w7.heap.size := by rw [hV]; simp
            have H7 := hid hV
            clear hV XR6 XA6 D6 C6
            go_wp2
            clear r0 rf0 r1 rf1 rz a0 af0 a1 af1 az
            rw [← H7.out]
            clear H7
            have r0 := XR7.out.c 0 rfl
            have rf0 := XR7.out.f 0 rfl
            have r1 := XR7.out.c 1 rfl
            have rf1 := XR7.out.f 1 rfl
            have rz := XR7.out.size
            have a0 := XA7.out.c 0 rfl
            have af0 := XA7.out.f 0 rfl
            have a1 := XA7.out.c 1 rfl
            have af1 := XA7.out.f 1 rfl
            have az := XA7.out.size
            refine bodyPost_ret (v := .agg #[.slice to ts.length tc, .slice qo q.length qc]) (by simp [results, Try.results11, go_sem, r0, r1]) rfl ?_
            exact ⟨⟨to, tc, ts, qo, qc, q, rfl, ⟨by omega, by omega⟩, D7.out.wide (by omega) (by omega)⟩, k6, sd6, by omega, C7.out, hR7⟩
  · as_aux_lemma =>
      have D4 : Hid (BW ((w.heap.size + 1) + 1) w4.heap.size w4 none 0 [] none 0 []) := hid bw_nil
      have r0 := XR4.out.c 0 rfl
      have rf0 := XR4.out.f 0 rfl
      have r1 := XR4.out.c 1 rfl
      have rf1 := XR4.out.f 1 rfl
      have rz := XR4.out.size
      have a0 := XA4.out.c 0 rfl
      have af0 := XA4.out.f 0 rfl
      have a1 := XA4.out.c 1 rfl
      have af1 := XA4.out.f 1 rfl
      have az := XA4.out.size
      go_wp2
      clear r0 rf0 r1 rf1 rz a0 af0 a1 af1 az
      go_loopw [4] (fun i wr => ∃ (m k2 : Nat) (sd2 : Int) (to : Option Addr) (tc : Nat) (ts : List (Int × Int)) (qo : Option Addr) (qc : Nat) (q : List Int), i = .int .i64 (m : Int) ∧ m ≤ 60 ∧ ts.length ≤ 30 ∧ q.length ≤ 31 ∧ Hid (Old.InR ts q) ∧ k2 + 6 * m ≤ k + 420 ∧ Hid (Bx wr w.heap.size [.slice none 0 0, .slice none 0 0]) ∧ Hid (Bx wr (w.heap.size + 1) [.slice to ts.length tc, .slice qo q.length qc]) ∧ Hid (BW ((w.heap.size + 1) + 1) wr.heap.size wr to tc ts qo qc q) ∧ Hid (Cur wr p co cap bs k2 sd2) ∧ Grew p w wr ∧ (w.heap.size + 1) + 1 ≤ wr.heap.size) (fun i _ => (intOf i).toNat)
      case atStart => exact ⟨60, k4, sd4, none, 0, [], none, 0, [], rfl, by omega, by simp, by simp, fun _ h => by simp at h, by omega, XR4, XA4, D4, C4, hR4, by have := XA4.out.size; omega⟩
      case round =>
        clear XR4 XA4 D4 C4 hR4
        obtain ⟨m, k0, sd0, to, tc, ts, qo, qc, q, rfl, hm, hts, hq, HIR, hk0, XR5, XA5, D5, C5, hR5, hs0⟩ := hrel
        cases m with
        | succ m =>
          have hm1 : decide (0 < ((m + 1 : Nat) : Int)) = true := by simp <;> omega
          have hm2 : (0 : Int) < ((m + 1 : Nat) : Int) := by omega
          have r0 := XR5.out.c 0 rfl
          have rf0 := XR5.out.f 0 rfl
          have r1 := XR5.out.c 1 rfl
          have rf1 := XR5.out.f 1 rfl
          have rz := XR5.out.size
          have a0 := XA5.out.c 0 rfl
          have af0 := XA5.out.f 0 rfl
          have a1 := XA5.out.c 1 rfl
          have af1 := XA5.out.f 1 rfl
          have az := XA5.out.size
          obtain ⟨w6, hV⟩ : ∃ V, V = wr.alloc (.cells #[.slice to ts.length tc, .slice qo q.length qc] 26) := ⟨_, rfl⟩
          have XR6 := hid (XR5.out.alloc (.cells #[.slice to ts.length tc, .slice qo q.length qc] 26))
          rw [← hV] at XR6
          have XA6 := hid (XA5.out.alloc (.cells #[.slice to ts.length tc, .slice qo q.length qc] 26))
          rw [← hV] at XA6
          have D6 := hid (D5.out.later (below1 wr (.cells #[.slice to ts.length tc, .slice qo q.length qc] 26)))
          rw [← hV] at D6
          have C6 := hid (C5.out.later (below1 wr (.cells #[.slice to ts.length tc, .slice qo q.length qc] 26)))
          rw [← hV] at C6
          have hR6 : Grew p w w6 := by rw [hV]; exact hR5.trans (Grew.alloc p _ _)
          have hz6 : wr.heap.size ≤ w6.heap.size := by rw [hV]; simp
          have H6 := hid hV
          clear hV XR5 XA5 D5 C5
          have XX6 : Hid (Bx w6 wr.heap.size [.slice to ts.length tc, .slice qo q.length qc]) := by rw [H6.out]; exact Bx.new [.slice to ts.length tc, .slice qo q.length qc] _ rfl
          have hy6 : wr.heap.size < w6.heap.size := XX6.out.size
          go_wp2_with fail
          clear r0 rf0 r1 rf1 rz a0 af0 a1 af1 az
          rw [← H6.out]
          clear H6
          refine (pick_any 9 p co cap bs k0 sd0 w6 hl (by omega) C6.out).mono ?_
          rintro e w7 ⟨⟨y, rfl, h0y, h1y⟩, hD⟩
          obtain ⟨k7, sd7, hk7, hC7, hg7, hsz7⟩ := hD.grew
          have XR7 := hid (XR6.out.grew hg7 (by omega))
          have XA7 := hid (XA6.out.grew hg7 (by omega))
          have XX7 := hid (XX6.out.grew hg7 (by omega))
          have D7 := hid (D6.out.grew hg7 (by omega))
          have C7 := hid hC7
          have hR7 : Grew p w w7 := hR6.trans hg7
          have hz7 : w6.heap.size ≤ w7.heap.size := hg7.size
          clear XR6 XA6 XX6 D6 C6 hD hg7 hC7 hsz7
          have hy9 : y = 0 ∨ y = 1 ∨ y = 2 ∨ y = 3 ∨ y = 4 ∨ y = 5 ∨ y = 6 ∨ y = 7 ∨ y = 8 := by omega
          clear h0y h1y
          rcases hy9 with rfl | rfl | rfl | rfl | rfl | rfl | rfl | rfl | rfl
          · have r0 := XR7.out.c 0 rfl
            have rf0 := XR7.out.f 0 rfl
            have r1 := XR7.out.c 1 rfl
            have rf1 := XR7.out.f 1 rfl
            have rz := XR7.out.size
            have a0 := XA7.out.c 0 rfl
            have af0 := XA7.out.f 0 rfl
            have a1 := XA7.out.c 1 rfl
            have af1 := XA7.out.f 1 rfl
            have az := XA7.out.size
            have x0 := XX7.out.c 0 rfl
            have xf0 := XX7.out.f 0 rfl
            have x1 := XX7.out.c 1 rfl
            have xf1 := XX7.out.f 1 rfl
            have xz := XX7.out.size
            go_wp2_with fail
            clear r0 rf0 r1 rf1 rz a0 af0 a1 af1 az x0 xf0 x1 xf1 xz
            refine (stepSpawn to tc ts qo qc q w7 (by omega) (by omega) D7.out).mono ?_
            rintro e w8 ⟨⟨vto, vtc, vts, vqo, vqc, vq, iv, cv, rfl, hS1⟩, hb8⟩
            have XR8 := hid (XR7.out.later hb8)
            have XA8 := hid (XA7.out.later hb8)
            have XX8 := hid (XX7.out.later hb8)
            have D8 := hid (D7.out.later hb8)
            have C8 := hid (C7.out.later hb8)
            have hR8 : Grew p w w8 := hR7.trans (Grew.of_below hb8)
            have hz8 : w7.heap.size ≤ w8.heap.size := hb8.size
            clear XR7 XA7 XX7 D7 C7 hb8
            by_cases hc : cv = 0
            · obtain ⟨hS, hE⟩ := hS1 hc
              have E8 := hid hE
              have HS := hid hS
              have hc1 : (cv == 0) = true := by simpa using hc
              have hc2 : decide (cv = 0) = true := by simpa using hc
              clear hc hS hE hS1
              have r0 := XR8.out.c 0 rfl
              have rf0 := XR8.out.f 0 rfl
              have r1 := XR8.out.c 1 rfl
              have rf1 := XR8.out.f 1 rfl
              have rz := XR8.out.size
              have a0 := XA8.out.c 0 rfl
              have af0 := XA8.out.f 0 rfl
              have a1 := XA8.out.c 1 rfl
              have af1 := XA8.out.f 1 rfl
              have az := XA8.out.size
              have x0 := XX8.out.c 0 rfl
              have xf0 := XX8.out.f 0 rfl
              have x1 := XX8.out.c 1 rfl
              have xf1 := XX8.out.f 1 rfl
              have xz := XX8.out.size
              obtain ⟨w9, hV⟩ : ∃ V, V = ((w8.setCell ⟨wr.heap.size, 0, none⟩ (.slice vto vts.length vtc)).setCell ⟨wr.heap.size, 1, none⟩ (.slice vqo vq.length vqc)) := ⟨_, rfl⟩
              have XR9 := hid (((XR8.out.other (a := ⟨wr.heap.size, 0, none⟩) (by dsimp only; omega) (.slice vto vts.length vtc)).other (a := ⟨wr.heap.size, 1, none⟩) (by dsimp only; omega) (.slice vqo vq.length vqc)))
              rw [← hV] at XR9
              have XA9 := hid (((XA8.out.other (a := ⟨wr.heap.size, 0, none⟩) (by dsimp only; omega) (.slice vto vts.length vtc)).other (a := ⟨wr.heap.size, 1, none⟩) (by dsimp only; omega) (.slice vqo vq.length vqc)))
              rw [← hV] at XA9
              have XX9 := hid (((XX8.out.set 0 (.slice vto vts.length vtc)).set 1 (.slice vqo vq.length vqc)))
              rw [← hV] at XX9
              have D9 := hid (((D8.out.setOff (a := ⟨wr.heap.size, 0, none⟩) (by dsimp only; omega) (.slice vto vts.length vtc)).setOff (a := ⟨wr.heap.size, 1, none⟩) (by dsimp only; omega) (.slice vqo vq.length vqc)))
              rw [← hV] at D9
              have E9 := hid (((E8.out.setOff (a := ⟨wr.heap.size, 0, none⟩) (by dsimp only; omega) (.slice vto vts.length vtc)).setOff (a := ⟨wr.heap.size, 1, none⟩) (by dsimp only; omega) (.slice vqo vq.length vqc)))
              rw [← hV] at E9
              have C9 := hid (((C8.out.other (a := ⟨wr.heap.size, 0, none⟩) (by dsimp only; omega) (.slice vto vts.length vtc)).other (a := ⟨wr.heap.size, 1, none⟩) (by dsimp only; omega) (.slice vqo vq.length vqc)))
              rw [← hV] at C9
              have hR9 : Grew p w w9 := by rw [hV]; exact ((hR8.set (a := ⟨wr.heap.size, 0, none⟩) (by dsimp only; omega) (.slice vto vts.length vtc)).set (a := ⟨wr.heap.size, 1, none⟩) (by dsimp only; omega) (.slice vqo vq.length vqc))
              have hz9 : w8.heap.size ≤ w9.heap.size := by rw [hV]; simp
              have H9 := hid hV
              clear hV XR8 XA8 XX8 D8 E8 C8
              go_upto_region 25 with fail
              clear r0 rf0 r1 rf1 rz a0 af0 a1 af1 az x0 xf0 x1 xf1 xz
              rw [← H9.out]
              clear H9
              have r0 := XR9.out.c 0 rfl
              have rf0 := XR9.out.f 0 rfl
              have r1 := XR9.out.c 1 rfl
              have rf1 := XR9.out.f 1 rfl
              have rz := XR9.out.size
              have a0 := XA9.out.c 0 rfl
              have af0 := XA9.out.f 0 rfl
              have a1 := XA9.out.c 1 rfl
              have af1 := XA9.out.f 1 rfl
              have az := XA9.out.size
              have x0 := XX9.out.c 0 rfl
              have xf0 := XX9.out.f 0 rfl
              have x1 := XX9.out.c 1 rfl
              have xf1 := XX9.out.f 1 rfl
              have xz := XX9.out.size
              obtain ⟨w10, hV⟩ : ∃ V, V = ((w9.setCell ⟨(w.heap.size + 1), 0, none⟩ (.slice vto vts.length vtc)).setCell ⟨(w.heap.size + 1), 1, none⟩ (.slice vqo vq.length vqc)) := ⟨_, rfl⟩
              have XR10 := hid (((XR9.out.other (a := ⟨(w.heap.size + 1), 0, none⟩) (by dsimp only; omega) (.slice vto vts.length vtc)).other (a := ⟨(w.heap.size + 1), 1, none⟩) (by dsimp only; omega) (.slice vqo vq.length vqc)))
              rw [← hV] at XR10
              have XA10 := hid (((XA9.out.set 0 (.slice vto vts.length vtc)).set 1 (.slice vqo vq.length vqc)))
              rw [← hV] at XA10
              have XX10 := hid (((XX9.out.other (a := ⟨(w.heap.size + 1), 0, none⟩) (by dsimp only; omega) (.slice vto vts.length vtc)).other (a := ⟨(w.heap.size + 1), 1, none⟩) (by dsimp only; omega) (.slice vqo vq.length vqc)))
              rw [← hV] at XX10
              have D10 := hid (((D9.out.setOff (a := ⟨(w.heap.size + 1), 0, none⟩) (by dsimp only; omega) (.slice vto vts.length vtc)).setOff (a := ⟨(w.heap.size + 1), 1, none⟩) (by dsimp only; omega) (.slice vqo vq.length vqc)))
              rw [← hV] at D10
              have E10 := hid (((E9.out.setOff (a := ⟨(w.heap.size + 1), 0, none⟩) (by dsimp only; omega) (.slice vto vts.length vtc)).setOff (a := ⟨(w.heap.size + 1), 1, none⟩) (by dsimp only; omega) (.slice vqo vq.length vqc)))
              rw [← hV] at E10
              have C10 := hid (((C9.out.other (a := ⟨(w.heap.size + 1), 0, none⟩) (by dsimp only; omega) (.slice vto vts.length vtc)).other (a := ⟨(w.heap.size + 1), 1, none⟩) (by dsimp only; omega) (.slice vqo vq.length vqc)))
              rw [← hV] at C10
              have hR10 : Grew p w w10 := by rw [hV]; exact ((hR9.set (a := ⟨(w.heap.size + 1), 0, none⟩) (by dsimp only; omega) (.slice vto vts.length vtc)).set (a := ⟨(w.heap.size + 1), 1, none⟩) (by dsimp only; omega) (.slice vqo vq.length vqc))
              have hz10 : w9.heap.size ≤ w10.heap.size := by rw [hV]; simp
              have H10 := hid hV
              clear hV XR9 XA9 XX9 D9 E9 C9
              go_wp2
              clear r0 rf0 r1 rf1 rz a0 af0 a1 af1 az x0 xf0 x1 xf1 xz
              rw [← H10.out]
              clear H10
              have S2 := HS.out
              go_roundw
              case rel => exact ⟨m, k7, sd7, vto, vtc, vts, vqo, vqc, vq, by go_num, by omega, S2.2.1, S2.2.2.1, hid S2.2.2.2, by omega, XR10, XA10, hid (E10.out.wide (by omega) (by omega)), C10, hR10, by omega⟩
              case measure => simp [intOf] <;> omega
            · have hc1 : (cv == 0) = false := by simpa using hc
              have hc2 : decide (cv = 0) = false := by simpa using hc
              clear hc hS1
              have r0 := XR8.out.c 0 rfl
              have rf0 := XR8.out.f 0 rfl
              have r1 := XR8.out.c 1 rfl
              have rf1 := XR8.out.f 1 rfl
              have rz := XR8.out.size
              have a0 := XA8.out.c 0 rfl
              have af0 := XA8.out.f 0 rfl
              have a1 := XA8.out.c 1 rfl
              have af1 := XA8.out.f 1 rfl
              have az := XA8.out.size
              have x0 := XX8.out.c 0 rfl
              have xf0 := XX8.out.f 0 rfl
              have x1 := XX8.out.c 1 rfl
              have xf1 := XX8.out.f 1 rfl
              have xz := XX8.out.size
              obtain ⟨w9, hV⟩ : ∃ V, V = ((w8.setCell ⟨wr.heap.size, 0, none⟩ (.slice vto vts.length vtc)).setCell ⟨wr.heap.size, 1, none⟩ (.slice vqo vq.length vqc)) := ⟨_, rfl⟩
              have XR9 := hid (((XR8.out.other (a := ⟨wr.heap.size, 0, none⟩) (by dsimp only; omega) (.slice vto vts.length vtc)).other (a := ⟨wr.heap.size, 1, none⟩) (by dsimp only; omega) (.slice vqo vq.length vqc)))
              rw [← hV] at XR9
              have XA9 := hid (((XA8.out.other (a := ⟨wr.heap.size, 0, none⟩) (by dsimp only; omega) (.slice vto vts.length vtc)).other (a := ⟨wr.heap.size, 1, none⟩) (by dsimp only; omega) (.slice vqo vq.length vqc)))
              rw [← hV] at XA9
              have XX9 := hid (((XX8.out.set 0 (.slice vto vts.length vtc)).set 1 (.slice vqo vq.length vqc)))
              rw [← hV] at XX9
              have D9 := hid (((D8.out.setOff (a := ⟨wr.heap.size, 0, none⟩) (by dsimp only; omega) (.slice vto vts.length vtc)).setOff (a := ⟨wr.heap.size, 1, none⟩) (by dsimp only; omega) (.slice vqo vq.length vqc)))
              rw [← hV] at D9
              have C9 := hid (((C8.out.other (a := ⟨wr.heap.size, 0, none⟩) (by dsimp only; omega) (.slice vto vts.length vtc)).other (a := ⟨wr.heap.size, 1, none⟩) (by dsimp only; omega) (.slice vqo vq.length vqc)))
              rw [← hV] at C9
              have hR9 : Grew p w w9 := by rw [hV]; exact ((hR8.set (a := ⟨wr.heap.size, 0, none⟩) (by dsimp only; omega) (.slice vto vts.length vtc)).set (a := ⟨wr.heap.size, 1, none⟩) (by dsimp only; omega) (.slice vqo vq.length vqc))
              have hz9 : w8.heap.size ≤ w9.heap.size := by rw [hV]; simp
              have H9 := hid hV
              clear hV XR8 XA8 XX8 D8 C8
              go_upto_region 25 with fail
              clear r0 rf0 r1 rf1 rz a0 af0 a1 af1 az x0 xf0 x1 xf1 xz
              rw [← H9.out]
              clear H9
              have r0 := XR9.out.c 0 rfl
              have rf0 := XR9.out.f 0 rfl
              have r1 := XR9.out.c 1 rfl
              have rf1 := XR9.out.f 1 rfl
              have rz := XR9.out.size
              have a0 := XA9.out.c 0 rfl
              have af0 := XA9.out.f 0 rfl
              have a1 := XA9.out.c 1 rfl
              have af1 := XA9.out.f 1 rfl
              have az := XA9.out.size
              have x0 := XX9.out.c 0 rfl
              have xf0 := XX9.out.f 0 rfl
              have x1 := XX9.out.c 1 rfl
              have xf1 := XX9.out.f 1 rfl
              have xz := XX9.out.size
              go_wp2
              clear r0 rf0 r1 rf1 rz a0 af0 a1 af1 az x0 xf0 x1 xf1 xz
              go_roundw
              case rel => exact ⟨m, k7, sd7, to, tc, ts, qo, qc, q, by go_num, by omega, hts, hq, HIR, by omega, XR9, XA9, hid (D9.out.wide (by omega) (by omega)), C9, hR9, by omega⟩
              case measure => simp [intOf] <;> omega
          · have r0 := XR7.out.c 0 rfl
            have rf0 := XR7.out.f 0 rfl
            have r1 := XR7.out.c 1 rfl
            have rf1 := XR7.out.f 1 rfl
            have rz := XR7.out.size
            have a0 := XA7.out.c 0 rfl
            have af0 := XA7.out.f 0 rfl
            have a1 := XA7.out.c 1 rfl
            have af1 := XA7.out.f 1 rfl
            have az := XA7.out.size
            have x0 := XX7.out.c 0 rfl
            have xf0 := XX7.out.f 0 rfl
            have x1 := XX7.out.c 1 rfl
            have xf1 := XX7.out.f 1 rfl
            have xz := XX7.out.size
            go_wp2_with fail
            clear r0 rf0 r1 rf1 rz a0 af0 a1 af1 az x0 xf0 x1 xf1 xz
            refine (stepSpawn to tc ts qo qc q w7 (by omega) (by omega) D7.out).mono ?_
            rintro e w8 ⟨⟨vto, vtc, vts, vqo, vqc, vq, iv, cv, rfl, hS1⟩, hb8⟩
            have XR8 := hid (XR7.out.later hb8)
            have XA8 := hid (XA7.out.later hb8)
            have XX8 := hid (XX7.out.later hb8)
            have D8 := hid (D7.out.later hb8)
            have C8 := hid (C7.out.later hb8)
            have hR8 : Grew p w w8 := hR7.trans (Grew.of_below hb8)
            have hz8 : w7.heap.size ≤ w8.heap.size := hb8.size
            clear XR7 XA7 XX7 D7 C7 hb8
            by_cases hc : cv = 0
            · obtain ⟨hS, hE⟩ := hS1 hc
              have E8 := hid hE
              have HS := hid hS
              have hc1 : (cv == 0) = true := by simpa using hc
              have hc2 : decide (cv = 0) = true := by simpa using hc
              clear hc hS hE hS1
              have r0 := XR8.out.c 0 rfl
              have rf0 := XR8.out.f 0 rfl
              have r1 := XR8.out.c 1 rfl
              have rf1 := XR8.out.f 1 rfl
              have rz := XR8.out.size
              have a0 := XA8.out.c 0 rfl
              have af0 := XA8.out.f 0 rfl
              have a1 := XA8.out.c 1 rfl
              have af1 := XA8.out.f 1 rfl
              have az := XA8.out.size
              have x0 := XX8.out.c 0 rfl
              have xf0 := XX8.out.f 0 rfl
              have x1 := XX8.out.c 1 rfl
              have xf1 := XX8.out.f 1 rfl
              have xz := XX8.out.size
              obtain ⟨w9, hV⟩ : ∃ V, V = ((w8.setCell ⟨wr.heap.size, 0, none⟩ (.slice vto vts.length vtc)).setCell ⟨wr.heap.size, 1, none⟩ (.slice vqo vq.length vqc)) := ⟨_, rfl⟩
              have XR9 := hid (((XR8.out.other (a := ⟨wr.heap.size, 0, none⟩) (by dsimp only; omega) (.slice vto vts.length vtc)).other (a := ⟨wr.heap.size, 1, none⟩) (by dsimp only; omega) (.slice vqo vq.length vqc)))
              rw [← hV] at XR9
              have XA9 := hid (((XA8.out.other (a := ⟨wr.heap.size, 0, none⟩) (by dsimp only; omega) (.slice vto vts.length vtc)).other (a := ⟨wr.heap.size, 1, none⟩) (by dsimp only; omega) (.slice vqo vq.length vqc)))
              rw [← hV] at XA9
              have XX9 := hid (((XX8.out.set 0 (.slice vto vts.length vtc)).set 1 (.slice vqo vq.length vqc)))
              rw [← hV] at XX9
              have D9 := hid (((D8.out.setOff (a := ⟨wr.heap.size, 0, none⟩) (by dsimp only; omega) (.slice vto vts.length vtc)).setOff (a := ⟨wr.heap.size, 1, none⟩) (by dsimp only; omega) (.slice vqo vq.length vqc)))
              rw [← hV] at D9
              have E9 := hid (((E8.out.setOff (a := ⟨wr.heap.size, 0, none⟩) (by dsimp only; omega) (.slice vto vts.length vtc)).setOff (a := ⟨wr.heap.size, 1, none⟩) (by dsimp only; omega) (.slice vqo vq.length vqc)))
              rw [← hV] at E9
              have C9 := hid (((C8.out.other (a := ⟨wr.heap.size, 0, none⟩) (by dsimp only; omega) (.slice vto vts.length vtc)).other (a := ⟨wr.heap.size, 1, none⟩) (by dsimp only; omega) (.slice vqo vq.length vqc)))
              rw [← hV] at C9
              have hR9 : Grew p w w9 := by rw [hV]; exact ((hR8.set (a := ⟨wr.heap.size, 0, none⟩) (by dsimp only; omega) (.slice vto vts.length vtc)).set (a := ⟨wr.heap.size, 1, none⟩) (by dsimp only; omega) (.slice vqo vq.length vqc))
              have hz9 : w8.heap.size ≤ w9.heap.size := by rw [hV]; simp
              have H9 := hid hV
              clear hV XR8 XA8 XX8 D8 E8 C8
              go_upto_region 25 with fail
              clear r0 rf0 r1 rf1 rz a0 af0 a1 af1 az x0 xf0 x1 xf1 xz
              rw [← H9.out]
              clear H9
              have r0 := XR9.out.c 0 rfl
              have rf0 := XR9.out.f 0 rfl
              have r1 := XR9.out.c 1 rfl
              have rf1 := XR9.out.f 1 rfl
              have rz := XR9.out.size
              have a0 := XA9.out.c 0 rfl
              have af0 := XA9.out.f 0 rfl
              have a1 := XA9.out.c 1 rfl
              have af1 := XA9.out.f 1 rfl
              have az := XA9.out.size
              have x0 := XX9.out.c 0 rfl
              have xf0 := XX9.out.f 0 rfl
              have x1 := XX9.out.c 1 rfl
              have xf1 := XX9.out.f 1 rfl
              have xz := XX9.out.size
              obtain ⟨w10, hV⟩ : ∃ V, V = ((w9.setCell ⟨(w.heap.size + 1), 0, none⟩ (.slice vto vts.length vtc)).setCell ⟨(w.heap.size + 1), 1, none⟩ (.slice vqo vq.length vqc)) := ⟨_, rfl⟩
              have XR10 := hid (((XR9.out.other (a := ⟨(w.heap.size + 1), 0, none⟩) (by dsimp only; omega) (.slice vto vts.length vtc)).other (a := ⟨(w.heap.size + 1), 1, none⟩) (by dsimp only; omega) (.slice vqo vq.length vqc)))
              rw [← hV] at XR10
              have XA10 := hid (((XA9.out.set 0 (.slice vto vts.length vtc)).set 1 (.slice vqo vq.length vqc)))
              rw [← hV] at XA10
              have XX10 := hid (((XX9.out.other (a := ⟨(w.heap.size + 1), 0, none⟩) (by dsimp only; omega) (.slice vto vts.length vtc)).other (a := ⟨(w.heap.size + 1), 1, none⟩) (by dsimp only; omega) (.slice vqo vq.length vqc)))
              rw [← hV] at XX10
              have D10 := hid (((D9.out.setOff (a := ⟨(w.heap.size + 1), 0, none⟩) (by dsimp only; omega) (.slice vto vts.length vtc)).setOff (a := ⟨(w.heap.size + 1), 1, none⟩) (by dsimp only; omega) (.slice vqo vq.length vqc)))
              rw [← hV] at D10
              have E10 := hid (((E9.out.setOff (a := ⟨(w.heap.size + 1), 0, none⟩) (by dsimp only; omega) (.slice vto vts.length vtc)).setOff (a := ⟨(w.heap.size + 1), 1, none⟩) (by dsimp only; omega) (.slice vqo vq.length vqc)))
              rw [← hV] at E10
              have C10 := hid (((C9.out.other (a := ⟨(w.heap.size + 1), 0, none⟩) (by dsimp only; omega) (.slice vto vts.length vtc)).other (a := ⟨(w.heap.size + 1), 1, none⟩) (by dsimp only; omega) (.slice vqo vq.length vqc)))
              rw [← hV] at C10
              have hR10 : Grew p w w10 := by rw [hV]; exact ((hR9.set (a := ⟨(w.heap.size + 1), 0, none⟩) (by dsimp only; omega) (.slice vto vts.length vtc)).set (a := ⟨(w.heap.size + 1), 1, none⟩) (by dsimp only; omega) (.slice vqo vq.length vqc))
              have hz10 : w9.heap.size ≤ w10.heap.size := by rw [hV]; simp
              have H10 := hid hV
              clear hV XR9 XA9 XX9 D9 E9 C9
              go_wp2
              clear r0 rf0 r1 rf1 rz a0 af0 a1 af1 az x0 xf0 x1 xf1 xz
              rw [← H10.out]
              clear H10
              have S2 := HS.out
              go_roundw
              case rel => exact ⟨m, k7, sd7, vto, vtc, vts, vqo, vqc, vq, by go_num, by omega, S2.2.1, S2.2.2.1, hid S2.2.2.2, by omega, XR10, XA10, hid (E10.out.wide (by omega) (by omega)), C10, hR10, by omega⟩
              case measure => simp [intOf] <;> omega
            · have hc1 : (cv == 0) = false := by simpa using hc
              have hc2 : decide (cv = 0) = false := by simpa using hc
              clear hc hS1
              have r0 := XR8.out.c 0 rfl
              have rf0 := XR8.out.f 0 rfl
              have r1 := XR8.out.c 1 rfl
              have rf1 := XR8.out.f 1 rfl
              have rz := XR8.out.size
              have a0 := XA8.out.c 0 rfl
              have af0 := XA8.out.f 0 rfl
              have a1 := XA8.out.c 1 rfl
              have af1 := XA8.out.f 1 rfl
              have az := XA8.out.size
              have x0 := XX8.out.c 0 rfl
              have xf0 := XX8.out.f 0 rfl
              have x1 := XX8.out.c 1 rfl
              have xf1 := XX8.out.f 1 rfl
              have xz := XX8.out.size
              obtain ⟨w9, hV⟩ : ∃ V, V = ((w8.setCell ⟨wr.heap.size, 0, none⟩ (.slice vto vts.length vtc)).setCell ⟨wr.heap.size, 1, none⟩ (.slice vqo vq.length vqc)) := ⟨_, rfl⟩
              have XR9 := hid (((XR8.out.other (a := ⟨wr.heap.size, 0, none⟩) (by dsimp only; omega) (.slice vto vts.length vtc)).other (a := ⟨wr.heap.size, 1, none⟩) (by dsimp only; omega) (.slice vqo vq.length vqc)))
              rw [← hV] at XR9
              have XA9 := hid (((XA8.out.other (a := ⟨wr.heap.size, 0, none⟩) (by dsimp only; omega) (.slice vto vts.length vtc)).other (a := ⟨wr.heap.size, 1, none⟩) (by dsimp only; omega) (.slice vqo vq.length vqc)))
              rw [← hV] at XA9
              have XX9 := hid (((XX8.out.set 0 (.slice vto vts.length vtc)).set 1 (.slice vqo vq.length vqc)))
              rw [← hV] at XX9
              have D9 := hid (((D8.out.setOff (a := ⟨wr.heap.size, 0, none⟩) (by dsimp only; omega) (.slice vto vts.length vtc)).setOff (a := ⟨wr.heap.size, 1, none⟩) (by dsimp only; omega) (.slice vqo vq.length vqc)))
              rw [← hV] at D9
              have C9 := hid (((C8.out.other (a := ⟨wr.heap.size, 0, none⟩) (by dsimp only; omega) (.slice vto vts.length vtc)).other (a := ⟨wr.heap.size, 1, none⟩) (by dsimp only; omega) (.slice vqo vq.length vqc)))
              rw [← hV] at C9
              have hR9 : Grew p w w9 := by rw [hV]; exact ((hR8.set (a := ⟨wr.heap.size, 0, none⟩) (by dsimp only; omega) (.slice vto vts.length vtc)).set (a := ⟨wr.heap.size, 1, none⟩) (by dsimp only; omega) (.slice vqo vq.length vqc))
              have hz9 : w8.heap.size ≤ w9.heap.size := by rw [hV]; simp
              have H9 := hid hV
              clear hV XR8 XA8 XX8 D8 C8
              go_upto_region 25 with fail
              clear r0 rf0 r1 rf1 rz a0 af0 a1 af1 az x0 xf0 x1 xf1 xz
              rw [← H9.out]
              clear H9
              have r0 := XR9.out.c 0 rfl
              have rf0 := XR9.out.f 0 rfl
              have r1 := XR9.out.c 1 rfl
              have rf1 := XR9.out.f 1 rfl
              have rz := XR9.out.size
              have a0 := XA9.out.c 0 rfl
              have af0 := XA9.out.f 0 rfl
              have a1 := XA9.out.c 1 rfl
              have af1 := XA9.out.f 1 rfl
              have az := XA9.out.size
              have x0 := XX9.out.c 0 rfl
              have xf0 := XX9.out.f 0 rfl
              have x1 := XX9.out.c 1 rfl
              have xf1 := XX9.out.f 1 rfl
              have xz := XX9.out.size
              go_wp2
              clear r0 rf0 r1 rf1 rz a0 af0 a1 af1 az x0 xf0 x1 xf1 xz
              go_roundw
              case rel => exact ⟨m, k7, sd7, to, tc, ts, qo, qc, q, by go_num, by omega, hts, hq, HIR, by omega, XR9, XA9, hid (D9.out.wide (by omega) (by omega)), C9, hR9, by omega⟩
              case measure => simp [intOf] <;> omega
          · have r0 := XR7.out.c 0 rfl
            have rf0 := XR7.out.f 0 rfl
            have r1 := XR7.out.c 1 rfl
            have rf1 := XR7.out.f 1 rfl
            have rz := XR7.out.size
            have a0 := XA7.out.c 0 rfl
            have af0 := XA7.out.f 0 rfl
            have a1 := XA7.out.c 1 rfl
            have af1 := XA7.out.f 1 rfl
            have az := XA7.out.size
            have x0 := XX7.out.c 0 rfl
            have xf0 := XX7.out.f 0 rfl
            have x1 := XX7.out.c 1 rfl
            have xf1 := XX7.out.f 1 rfl
            have xz := XX7.out.size
            go_wp2_with fail
            clear r0 rf0 r1 rf1 rz a0 af0 a1 af1 az x0 xf0 x1 xf1 xz
            refine (stepSpawn to tc ts qo qc q w7 (by omega) (by omega) D7.out).mono ?_
            rintro e w8 ⟨⟨vto, vtc, vts, vqo, vqc, vq, iv, cv, rfl, hS1⟩, hb8⟩
            have XR8 := hid (XR7.out.later hb8)
            have XA8 := hid (XA7.out.later hb8)
            have XX8 := hid (XX7.out.later hb8)
            have D8 := hid (D7.out.later hb8)
            have C8 := hid (C7.out.later hb8)
            have hR8 : Grew p w w8 := hR7.trans (Grew.of_below hb8)
            have hz8 : w7.heap.size ≤ w8.heap.size := hb8.size
            clear XR7 XA7 XX7 D7 C7 hb8
            by_cases hc : cv = 0
            · obtain ⟨hS, hE⟩ := hS1 hc
              have E8 := hid hE
              have HS := hid hS
              have hc1 : (cv == 0) = true := by simpa using hc
              have hc2 : decide (cv = 0) = true := by simpa using hc
              clear hc hS hE hS1
              have r0 := XR8.out.c 0 rfl
              have rf0 := XR8.out.f 0 rfl
              have r1 := XR8.out.c 1 rfl
              have rf1 := XR8.out.f 1 rfl
              have rz := XR8.out.size
              have a0 := XA8.out.c 0 rfl
              have af0 := XA8.out.f 0 rfl
              have a1 := XA8.out.c 1 rfl
              have af1 := XA8.out.f 1 rfl
              have az := XA8.out.size
              have x0 := XX8.out.c 0 rfl
              have xf0 := XX8.out.f 0 rfl
              have x1 := XX8.out.c 1 rfl
              have xf1 := XX8.out.f 1 rfl
              have xz := XX8.out.size
              obtain ⟨w9, hV⟩ : ∃ V, V = ((w8.setCell ⟨wr.heap.size, 0, none⟩ (.slice vto vts.length vtc)).setCell ⟨wr.heap.size, 1, none⟩ (.slice vqo vq.length vqc)) := ⟨_, rfl⟩
              have XR9 := hid (((XR8.out.other (a := ⟨wr.heap.size, 0, none⟩) (by dsimp only; omega) (.slice vto vts.length vtc)).other (a := ⟨wr.heap.size, 1, none⟩) (by dsimp only; omega) (.slice vqo vq.length vqc)))
              rw [← hV] at XR9
              have XA9 := hid (((XA8.out.other (a := ⟨wr.heap.size, 0, none⟩) (by dsimp only; omega) (.slice vto vts.length vtc)).other (a := ⟨wr.heap.size, 1, none⟩) (by dsimp only; omega) (.slice vqo vq.length vqc)))
              rw [← hV] at XA9
              have XX9 := hid (((XX8.out.set 0 (.slice vto vts.length vtc)).set 1 (.slice vqo vq.length vqc)))
              rw [← hV] at XX9
              have D9 := hid (((D8.out.setOff (a := ⟨wr.heap.size, 0, none⟩) (by dsimp only; omega) (.slice vto vts.length vtc)).setOff (a := ⟨wr.heap.size, 1, none⟩) (by dsimp only; omega) (.slice vqo vq.length vqc)))
              rw [← hV] at D9
              have E9 := hid (((E8.out.setOff (a := ⟨wr.heap.size, 0, none⟩) (by dsimp only; omega) (.slice vto vts.length vtc)).setOff (a := ⟨wr.heap.size, 1, none⟩) (by dsimp only; omega) (.slice vqo vq.length vqc)))
              rw [← hV] at E9
              have C9 := hid (((C8.out.other (a := ⟨wr.heap.size, 0, none⟩) (by dsimp only; omega) (.slice vto vts.length vtc)).other (a := ⟨wr.heap.size, 1, none⟩) (by dsimp only; omega) (.slice vqo vq.length vqc)))
              rw [← hV] at C9
              have hR9 : Grew p w w9 := by rw [hV]; exact ((hR8.set (a := ⟨wr.heap.size, 0, none⟩) (by dsimp only; omega) (.slice vto vts.length vtc)).set (a := ⟨wr.heap.size, 1, none⟩) (by dsimp only; omega) (.slice vqo vq.length vqc))
              have hz9 : w8.heap.size ≤ w9.heap.size := by rw [hV]; simp
              have H9 := hid hV
              clear hV XR8 XA8 XX8 D8 E8 C8
              go_upto_region 25 with fail
              clear r0 rf0 r1 rf1 rz a0 af0 a1 af1 az x0 xf0 x1 xf1 xz
              rw [← H9.out]
              clear H9
              have r0 := XR9.out.c 0 rfl
              have rf0 := XR9.out.f 0 rfl
              have r1 := XR9.out.c 1 rfl
              have rf1 := XR9.out.f 1 rfl
              have rz := XR9.out.size
              have a0 := XA9.out.c 0 rfl
              have af0 := XA9.out.f 0 rfl
              have a1 := XA9.out.c 1 rfl
              have af1 := XA9.out.f 1 rfl
              have az := XA9.out.size
              have x0 := XX9.out.c 0 rfl
              have xf0 := XX9.out.f 0 rfl
              have x1 := XX9.out.c 1 rfl
              have xf1 := XX9.out.f 1 rfl
              have xz := XX9.out.size
              obtain ⟨w10, hV⟩ : ∃ V, V = ((w9.setCell ⟨(w.heap.size + 1), 0, none⟩ (.slice vto vts.length vtc)).setCell ⟨(w.heap.size + 1), 1, none⟩ (.slice vqo vq.length vqc)) := ⟨_, rfl⟩
              have XR10 := hid (((XR9.out.other (a := ⟨(w.heap.size + 1), 0, none⟩) (by dsimp only; omega) (.slice vto vts.length vtc)).other (a := ⟨(w.heap.size + 1), 1, none⟩) (by dsimp only; omega) (.slice vqo vq.length vqc)))
              rw [← hV] at XR10
              have XA10 := hid (((XA9.out.set 0 (.slice vto vts.length vtc)).set 1 (.slice vqo vq.length vqc)))
              rw [← hV] at XA10
              have XX10 := hid (((XX9.out.other (a := ⟨(w.heap.size + 1), 0, none⟩) (by dsimp only; omega) (.slice vto vts.length vtc)).other (a := ⟨(w.heap.size + 1), 1, none⟩) (by dsimp only; omega) (.slice vqo vq.length vqc)))
              rw [← hV] at XX10
              have D10 := hid (((D9.out.setOff (a := ⟨(w.heap.size + 1), 0, none⟩) (by dsimp only; omega) (.slice vto vts.length vtc)).setOff (a := ⟨(w.heap.size + 1), 1, none⟩) (by dsimp only; omega) (.slice vqo vq.length vqc)))
              rw [← hV] at D10
              have E10 := hid (((E9.out.setOff (a := ⟨(w.heap.size + 1), 0, none⟩) (by dsimp only; omega) (.slice vto vts.length vtc)).setOff (a := ⟨(w.heap.size + 1), 1, none⟩) (by dsimp only; omega) (.slice vqo vq.length vqc)))
              rw [← hV] at E10
              have C10 := hid (((C9.out.other (a := ⟨(w.heap.size + 1), 0, none⟩) (by dsimp only; omega) (.slice vto vts.length vtc)).other (a := ⟨(w.heap.size + 1), 1, none⟩) (by dsimp only; omega) (.slice vqo vq.length vqc)))
              rw [← hV] at C10
              have hR10 : Grew p w w10 := by rw [hV]; exact ((hR9.set (a := ⟨(w.heap.size + 1), 0, none⟩) (by dsimp only; omega) (.slice vto vts.length vtc)).set (a := ⟨(w.heap.size + 1), 1, none⟩) (by dsimp only; omega) (.slice vqo vq.length vqc))
              have hz10 : w9.heap.size ≤ w10.heap.size := by rw [hV]; simp
              have H10 := hid hV
              clear hV XR9 XA9 XX9 D9 E9 C9
              go_wp2
              clear r0 rf0 r1 rf1 rz a0 af0 a1 af1 az x0 xf0 x1 xf1 xz
              rw [← H10.out]
              clear H10
              have S2 := HS.out
              go_roundw
              case rel => exact ⟨m, k7, sd7, vto, vtc, vts, vqo, vqc, vq, by go_num, by omega, S2.2.1, S2.2.2.1, hid S2.2.2.2, by omega, XR10, XA10, hid (E10.out.wide (by omega) (by omega)), C10, hR10, by omega⟩
              case measure => simp [intOf] <;> omega
            · have hc1 : (cv == 0) = false := by simpa using hc
              have hc2 : decide (cv = 0) = false := by simpa using hc
              clear hc hS1
              have r0 := XR8.out.c 0 rfl
              have rf0 := XR8.out.f 0 rfl
              have r1 := XR8.out.c 1 rfl
              have rf1 := XR8.out.f 1 rfl
              have rz := XR8.out.size
              have a0 := XA8.out.c 0 rfl
              have af0 := XA8.out.f 0 rfl
              have a1 := XA8.out.c 1 rfl
              have af1 := XA8.out.f 1 rfl
              have az := XA8.out.size
              have x0 := XX8.out.c 0 rfl
              have xf0 := XX8.out.f 0 rfl
              have x1 := XX8.out.c 1 rfl
              have xf1 := XX8.out.f 1 rfl
              have xz := XX8.out.size
              obtain ⟨w9, hV⟩ : ∃ V, V = ((w8.setCell ⟨wr.heap.size, 0, none⟩ (.slice vto vts.length vtc)).setCell ⟨wr.heap.size, 1, none⟩ (.slice vqo vq.length vqc)) := ⟨_, rfl⟩
              have XR9 := hid (((XR8.out.other (a := ⟨wr.heap.size, 0, none⟩) (by dsimp only; omega) (.slice vto vts.length vtc)).other (a := ⟨wr.heap.size, 1, none⟩) (by dsimp only; omega) (.slice vqo vq.length vqc)))
              rw [← hV] at XR9
              have XA9 := hid (((XA8.out.other (a := ⟨wr.heap.size, 0, none⟩) (by dsimp only; omega) (.slice vto vts.length vtc)).other (a := ⟨wr.heap.size, 1, none⟩) (by dsimp only; omega) (.slice vqo vq.length vqc)))
              rw [← hV] at XA9
              have XX9 := hid (((XX8.out.set 0 (.slice vto vts.length vtc)).set 1 (.slice vqo vq.length vqc)))
              rw [← hV] at XX9
              have D9 := hid (((D8.out.setOff (a := ⟨wr.heap.size, 0, none⟩) (by dsimp only; omega) (.slice vto vts.length vtc)).setOff (a := ⟨wr.heap.size, 1, none⟩) (by dsimp only; omega) (.slice vqo vq.length vqc)))
              rw [← hV] at D9
              have C9 := hid (((C8.out.other (a := ⟨wr.heap.size, 0, none⟩) (by dsimp only; omega) (.slice vto vts.length vtc)).other (a := ⟨wr.heap.size, 1, none⟩) (by dsimp only; omega) (.slice vqo vq.length vqc)))
              rw [← hV] at C9
              have hR9 : Grew p w w9 := by rw [hV]; exact ((hR8.set (a := ⟨wr.heap.size, 0, none⟩) (by dsimp only; omega) (.slice vto vts.length vtc)).set (a := ⟨wr.heap.size, 1, none⟩) (by dsimp only; omega) (.slice vqo vq.length vqc))
              have hz9 : w8.heap.size ≤ w9.heap.size := by rw [hV]; simp
              have H9 := hid hV
              clear hV XR8 XA8 XX8 D8 C8
              go_upto_region 25 with fail
              clear r0 rf0 r1 rf1 rz a0 af0 a1 af1 az x0 xf0 x1 xf1 xz
              rw [← H9.out]
              clear H9
              have r0 := XR9.out.c 0 rfl
              have rf0 := XR9.out.f 0 rfl
              have r1 := XR9.out.c 1 rfl
              have rf1 := XR9.out.f 1 rfl
              have rz := XR9.out.size
              have a0 := XA9.out.c 0 rfl
              have af0 := XA9.out.f 0 rfl
              have a1 := XA9.out.c 1 rfl
              have af1 := XA9.out.f 1 rfl
              have az := XA9.out.size
              have x0 := XX9.out.c 0 rfl
              have xf0 := XX9.out.f 0 rfl
              have x1 := XX9.out.c 1 rfl
              have xf1 := XX9.out.f 1 rfl
              have xz := XX9.out.size
              go_wp2
              clear r0 rf0 r1 rf1 rz a0 af0 a1 af1 az x0 xf0 x1 xf1 xz
              go_roundw
              case rel => exact ⟨m, k7, sd7, to, tc, ts, qo, qc, q, by go_num, by omega, hts, hq, HIR, by omega, XR9, XA9, hid (D9.out.wide (by omega) (by omega)), C9, hR9, by omega⟩
              case measure => simp [intOf] <;> omega
          · have r0 := XR7.out.c 0 rfl
            have rf0 := XR7.out.f 0 rfl
            have r1 := XR7.out.c 1 rfl
            have rf1 := XR7.out.f 1 rfl
            have rz := XR7.out.size
            have a0 := XA7.out.c 0 rfl
            have af0 := XA7.out.f 0 rfl
            have a1 := XA7.out.c 1 rfl
            have af1 := XA7.out.f 1 rfl
            have az := XA7.out.size
            have x0 := XX7.out.c 0 rfl
            have xf0 := XX7.out.f 0 rfl
            have x1 := XX7.out.c 1 rfl
            have xf1 := XX7.out.f 1 rfl
            have xz := XX7.out.size
            go_wp2
            have PD0 : w7.drew.cell? ⟨(w.heap.size + 1), 0, none⟩ = some (.slice to ts.length tc) := a0
            have PD1 : w7.drew.cell? ⟨(w.heap.size + 1), 1, none⟩ = some (.slice qo q.length qc) := a1
            go_region_law (first
                | (go_simp; go_at_call 6; have _g := hz8; refine (stepPick to tc ts qo qc q z w8 (by omega) (by omega) D8.out).mono ?_; rintro e w9 ⟨⟨vto, vtc, vts, vqo, vqc, vq, iv, cv, rfl, hS1⟩, hy⟩; have hb : Below w8.heap.size w8 w9 := hy; have XR9 := hid (XR8.out.grew (Grew.of_below (p := p) hb) (by omega)); have XA9 := hid (XA8.out.grew (Grew.of_below (p := p) hb) (by omega)); have XX9 := hid (XX8.out.grew (Grew.of_below (p := p) hb) (by omega)); have D9 := hid (D8.out.grew (Grew.of_below (p := p) hb) (by omega)); have C9 := hid (C8.out.later hb); have hR9 : Grew p w w9 := hR8.trans (Grew.of_below (p := p) hb); have hz9 : w8.heap.size ≤ w9.heap.size := hb.size; have P9a := XA9.out.c 0 rfl; have P9b := XA9.out.c 1 rfl; have rg0 := XR9.out.c 0 rfl; have rh0 := XR9.out.f 0 rfl; have rg1 := XR9.out.c 1 rfl; have rh1 := XR9.out.f 1 rfl; have ag0 := XA9.out.c 0 rfl; have ah0 := XA9.out.f 0 rfl; have ag1 := XA9.out.c 1 rfl; have ah1 := XA9.out.f 1 rfl; have xg0 := XX9.out.c 0 rfl; have xh0 := XX9.out.f 0 rfl; have xg1 := XX9.out.c 1 rfl; have xh1 := XX9.out.f 1 rfl; clear hy hb)
                | (go_simp; go_at_call 31; refine (pick_any 9 p co cap bs k7 sd7 w7.drew hl (by omega) C7.out.drew).mono ?_; rintro e w8 ⟨⟨z, rfl, h0z, h1z⟩, hD⟩; obtain ⟨k8, sd8, hk8, hC, hg0, hsz⟩ := hD.grew; have hg : Grew p w7 w8 := hg0.from; have XR8 := hid (XR7.out.grew hg (by omega)); have XA8 := hid (XA7.out.grew hg (by omega)); have XX8 := hid (XX7.out.grew hg (by omega)); have D8 := hid (D7.out.grew hg (by omega)); have C8 := hid hC; have hR8 : Grew p w w8 := hR7.trans hg; have hz8 : w7.heap.size ≤ w8.heap.size := hg.size; have P8a := XA8.out.c 0 rfl; have P8b := XA8.out.c 1 rfl; clear hD hC hg0 hg hsz))
            all_goals
              by_cases hc : cv = 0
              · obtain ⟨hS, hE⟩ := hS1 hc
                have E9 := hid hE
                have HS := hid hS
                have hc1 : (cv == 0) = true := by simpa using hc
                have hc2 : decide (cv = 0) = true := by simpa using hc
                clear hc hS hE hS1
                obtain ⟨w10, hV⟩ : ∃ V, V = ((w9.setCell ⟨wr.heap.size, 0, none⟩ (.slice vto vts.length vtc)).setCell ⟨wr.heap.size, 1, none⟩ (.slice vqo vq.length vqc)) := ⟨_, rfl⟩
                have XR10 := hid (((XR9.out.other (a := ⟨wr.heap.size, 0, none⟩) (by dsimp only; omega) (.slice vto vts.length vtc)).other (a := ⟨wr.heap.size, 1, none⟩) (by dsimp only; omega) (.slice vqo vq.length vqc)))
                rw [← hV] at XR10
                have XA10 := hid (((XA9.out.other (a := ⟨wr.heap.size, 0, none⟩) (by dsimp only; omega) (.slice vto vts.length vtc)).other (a := ⟨wr.heap.size, 1, none⟩) (by dsimp only; omega) (.slice vqo vq.length vqc)))
                rw [← hV] at XA10
                have XX10 := hid (((XX9.out.set 0 (.slice vto vts.length vtc)).set 1 (.slice vqo vq.length vqc)))
                rw [← hV] at XX10
                have D10 := hid (((D9.out.setOff (a := ⟨wr.heap.size, 0, none⟩) (by dsimp only; omega) (.slice vto vts.length vtc)).setOff (a := ⟨wr.heap.size, 1, none⟩) (by dsimp only; omega) (.slice vqo vq.length vqc)))
                rw [← hV] at D10
                have E10 := hid (((E9.out.setOff (a := ⟨wr.heap.size, 0, none⟩) (by dsimp only; omega) (.slice vto vts.length vtc)).setOff (a := ⟨wr.heap.size, 1, none⟩) (by dsimp only; omega) (.slice vqo vq.length vqc)))
                rw [← hV] at E10
                have C10 := hid (((C9.out.other (a := ⟨wr.heap.size, 0, none⟩) (by dsimp only; omega) (.slice vto vts.length vtc)).other (a := ⟨wr.heap.size, 1, none⟩) (by dsimp only; omega) (.slice vqo vq.length vqc)))
                rw [← hV] at C10
                have hR10 : Grew p w w10 := by rw [hV]; exact ((hR9.set (a := ⟨wr.heap.size, 0, none⟩) (by dsimp only; omega) (.slice vto vts.length vtc)).set (a := ⟨wr.heap.size, 1, none⟩) (by dsimp only; omega) (.slice vqo vq.length vqc))
                have hz10 : w9.heap.size ≤ w10.heap.size := by rw [hV]; simp
                have H10 := hid hV
                clear hV XR9 XA9 XX9 D9 E9 C9
                go_upto_region 25 with fail
                clear rg0 rh0 rg1 rh1 ag0 ah0 ag1 ah1 xg0 xh0 xg1 xh1
                rw [← H10.out]
                clear H10
                have r0 := XR10.out.c 0 rfl
                have rf0 := XR10.out.f 0 rfl
                have r1 := XR10.out.c 1 rfl
                have rf1 := XR10.out.f 1 rfl
                have rz := XR10.out.size
                have a0 := XA10.out.c 0 rfl
                have af0 := XA10.out.f 0 rfl
                have a1 := XA10.out.c 1 rfl
                have af1 := XA10.out.f 1 rfl
                have az := XA10.out.size
                have x0 := XX10.out.c 0 rfl
                have xf0 := XX10.out.f 0 rfl
                have x1 := XX10.out.c 1 rfl
                have xf1 := XX10.out.f 1 rfl
                have xz := XX10.out.size
                obtain ⟨w11, hV⟩ : ∃ V, V = ((w10.setCell ⟨(w.heap.size + 1), 0, none⟩ (.slice vto vts.length vtc)).setCell ⟨(w.heap.size + 1), 1, none⟩ (.slice vqo vq.length vqc)) := ⟨_, rfl⟩
                have XR11 := hid (((XR10.out.other (a := ⟨(w.heap.size + 1), 0, none⟩) (by dsimp only; omega) (.slice vto vts.length vtc)).other (a := ⟨(w.heap.size + 1), 1, none⟩) (by dsimp only; omega) (.slice vqo vq.length vqc)))
                rw [← hV] at XR11
                have XA11 := hid (((XA10.out.set 0 (.slice vto vts.length vtc)).set 1 (.slice vqo vq.length vqc)))
                rw [← hV] at XA11
                have XX11 := hid (((XX10.out.other (a := ⟨(w.heap.size + 1), 0, none⟩) (by dsimp only; omega) (.slice vto vts.length vtc)).other (a := ⟨(w.heap.size + 1), 1, none⟩) (by dsimp only; omega) (.slice vqo vq.length vqc)))
                rw [← hV] at XX11
                have D11 := hid (((D10.out.setOff (a := ⟨(w.heap.size + 1), 0, none⟩) (by dsimp only; omega) (.slice vto vts.length vtc)).setOff (a := ⟨(w.heap.size + 1), 1, none⟩) (by dsimp only; omega) (.slice vqo vq.length vqc)))
                rw [← hV] at D11
                have E11 := hid (((E10.out.setOff (a := ⟨(w.heap.size + 1), 0, none⟩) (by dsimp only; omega) (.slice vto vts.length vtc)).setOff (a := ⟨(w.heap.size + 1), 1, none⟩) (by dsimp only; omega) (.slice vqo vq.length vqc)))
                rw [← hV] at E11
                have C11 := hid (((C10.out.other (a := ⟨(w.heap.size + 1), 0, none⟩) (by dsimp only; omega) (.slice vto vts.length vtc)).other (a := ⟨(w.heap.size + 1), 1, none⟩) (by dsimp only; omega) (.slice vqo vq.length vqc)))
                rw [← hV] at C11
                have hR11 : Grew p w w11 := by rw [hV]; exact ((hR10.set (a := ⟨(w.heap.size + 1), 0, none⟩) (by dsimp only; omega) (.slice vto vts.length vtc)).set (a := ⟨(w.heap.size + 1), 1, none⟩) (by dsimp only; omega) (.slice vqo vq.length vqc))
                have hz11 : w10.heap.size ≤ w11.heap.size := by rw [hV]; simp
                have H11 := hid hV
                clear hV XR10 XA10 XX10 D10 E10 C10
                go_wp2
                clear r0 rf0 r1 rf1 rz a0 af0 a1 af1 az x0 xf0 x1 xf1 xz
                rw [← H11.out]
                clear H11
                have S2 := HS.out
                go_roundw
                case rel => exact ⟨m, k8, sd8, vto, vtc, vts, vqo, vqc, vq, by go_num, by omega, S2.2.1, S2.2.2.1, hid S2.2.2.2, by omega, XR11, XA11, hid (E11.out.wide (by omega) (by omega)), C11, hR11, by omega⟩
                case measure => simp [intOf] <;> omega
              · have hc1 : (cv == 0) = false := by simpa using hc
                have hc2 : decide (cv = 0) = false := by simpa using hc
                clear hc hS1
                obtain ⟨w10, hV⟩ : ∃ V, V = ((w9.setCell ⟨wr.heap.size, 0, none⟩ (.slice vto vts.length vtc)).setCell ⟨wr.heap.size, 1, none⟩ (.slice vqo vq.length vqc)) := ⟨_, rfl⟩
                have XR10 := hid (((XR9.out.other (a := ⟨wr.heap.size, 0, none⟩) (by dsimp only; omega) (.slice vto vts.length vtc)).other (a := ⟨wr.heap.size, 1, none⟩) (by dsimp only; omega) (.slice vqo vq.length vqc)))
                rw [← hV] at XR10
                have XA10 := hid (((XA9.out.other (a := ⟨wr.heap.size, 0, none⟩) (by dsimp only; omega) (.slice vto vts.length vtc)).other (a := ⟨wr.heap.size, 1, none⟩) (by dsimp only; omega) (.slice vqo vq.length vqc)))
                rw [← hV] at XA10
                have XX10 := hid (((XX9.out.set 0 (.slice vto vts.length vtc)).set 1 (.slice vqo vq.length vqc)))
                rw [← hV] at XX10
                have D10 := hid (((D9.out.setOff (a := ⟨wr.heap.size, 0, none⟩) (by dsimp only; omega) (.slice vto vts.length vtc)).setOff (a := ⟨wr.heap.size, 1, none⟩) (by dsimp only; omega) (.slice vqo vq.length vqc)))
                rw [← hV] at D10
                have C10 := hid (((C9.out.other (a := ⟨wr.heap.size, 0, none⟩) (by dsimp only; omega) (.slice vto vts.length vtc)).other (a := ⟨wr.heap.size, 1, none⟩) (by dsimp only; omega) (.slice vqo vq.length vqc)))
                rw [← hV] at C10
                have hR10 : Grew p w w10 := by rw [hV]; exact ((hR9.set (a := ⟨wr.heap.size, 0, none⟩) (by dsimp only; omega) (.slice vto vts.length vtc)).set (a := ⟨wr.heap.size, 1, none⟩) (by dsimp only; omega) (.slice vqo vq.length vqc))
                have hz10 : w9.heap.size ≤ w10.heap.size := by rw [hV]; simp
                have H10 := hid hV
                clear hV XR9 XA9 XX9 D9 C9
                go_upto_region 25 with fail
                clear rg0 rh0 rg1 rh1 ag0 ah0 ag1 ah1 xg0 xh0 xg1 xh1
                rw [← H10.out]
                clear H10
                have r0 := XR10.out.c 0 rfl
                have rf0 := XR10.out.f 0 rfl
                have r1 := XR10.out.c 1 rfl
                have rf1 := XR10.out.f 1 rfl
                have rz := XR10.out.size
                have a0 := XA10.out.c 0 rfl
                have af0 := XA10.out.f 0 rfl
                have a1 := XA10.out.c 1 rfl
                have af1 := XA10.out.f 1 rfl
                have az := XA10.out.size
                have x0 := XX10.out.c 0 rfl
                have xf0 := XX10.out.f 0 rfl
                have x1 := XX10.out.c 1 rfl
                have xf1 := XX10.out.f 1 rfl
                have xz := XX10.out.size
                go_wp2
                clear r0 rf0 r1 rf1 rz a0 af0 a1 af1 az x0 xf0 x1 xf1 xz
                go_roundw
                case rel => exact ⟨m, k8, sd8, to, tc, ts, qo, qc, q, by go_num, by omega, hts, hq, HIR, by omega, XR10, XA10, hid (D10.out.wide (by omega) (by omega)), C10, hR10, by omega⟩
                case measure => simp [intOf] <;> omega
          · have r0 := XR7.out.c 0 rfl
            have rf0 := XR7.out.f 0 rfl
            have r1 := XR7.out.c 1 rfl
            have rf1 := XR7.out.f 1 rfl
            have rz := XR7.out.size
            have a0 := XA7.out.c 0 rfl
            have af0 := XA7.out.f 0 rfl
            have a1 := XA7.out.c 1 rfl
            have af1 := XA7.out.f 1 rfl
            have az := XA7.out.size
            have x0 := XX7.out.c 0 rfl
            have xf0 := XX7.out.f 0 rfl
            have x1 := XX7.out.c 1 rfl
            have xf1 := XX7.out.f 1 rfl
            have xz := XX7.out.size
            go_wp2
            have PD0 : w7.drew.cell? ⟨(w.heap.size + 1), 0, none⟩ = some (.slice to ts.length tc) := a0
            have PD1 : w7.drew.cell? ⟨(w.heap.size + 1), 1, none⟩ = some (.slice qo q.length qc) := a1
            go_region_law (first
                | (go_simp; go_at_call 6; have _g := hz8; refine (stepPick to tc ts qo qc q z w8 (by omega) (by omega) D8.out).mono ?_; rintro e w9 ⟨⟨vto, vtc, vts, vqo, vqc, vq, iv, cv, rfl, hS1⟩, hy⟩; have hb : Below w8.heap.size w8 w9 := hy; have XR9 := hid (XR8.out.grew (Grew.of_below (p := p) hb) (by omega)); have XA9 := hid (XA8.out.grew (Grew.of_below (p := p) hb) (by omega)); have XX9 := hid (XX8.out.grew (Grew.of_below (p := p) hb) (by omega)); have D9 := hid (D8.out.grew (Grew.of_below (p := p) hb) (by omega)); have C9 := hid (C8.out.later hb); have hR9 : Grew p w w9 := hR8.trans (Grew.of_below (p := p) hb); have hz9 : w8.heap.size ≤ w9.heap.size := hb.size; have P9a := XA9.out.c 0 rfl; have P9b := XA9.out.c 1 rfl; have rg0 := XR9.out.c 0 rfl; have rh0 := XR9.out.f 0 rfl; have rg1 := XR9.out.c 1 rfl; have rh1 := XR9.out.f 1 rfl; have ag0 := XA9.out.c 0 rfl; have ah0 := XA9.out.f 0 rfl; have ag1 := XA9.out.c 1 rfl; have ah1 := XA9.out.f 1 rfl; have xg0 := XX9.out.c 0 rfl; have xh0 := XX9.out.f 0 rfl; have xg1 := XX9.out.c 1 rfl; have xh1 := XX9.out.f 1 rfl; clear hy hb)
                | (go_simp; go_at_call 31; refine (pick_any 9 p co cap bs k7 sd7 w7.drew hl (by omega) C7.out.drew).mono ?_; rintro e w8 ⟨⟨z, rfl, h0z, h1z⟩, hD⟩; obtain ⟨k8, sd8, hk8, hC, hg0, hsz⟩ := hD.grew; have hg : Grew p w7 w8 := hg0.from; have XR8 := hid (XR7.out.grew hg (by omega)); have XA8 := hid (XA7.out.grew hg (by omega)); have XX8 := hid (XX7.out.grew hg (by omega)); have D8 := hid (D7.out.grew hg (by omega)); have C8 := hid hC; have hR8 : Grew p w w8 := hR7.trans hg; have hz8 : w7.heap.size ≤ w8.heap.size := hg.size; have P8a := XA8.out.c 0 rfl; have P8b := XA8.out.c 1 rfl; clear hD hC hg0 hg hsz))
            all_goals
              by_cases hc : cv = 0
              · obtain ⟨hS, hE⟩ := hS1 hc
                have E9 := hid hE
                have HS := hid hS
                have hc1 : (cv == 0) = true := by simpa using hc
                have hc2 : decide (cv = 0) = true := by simpa using hc
                clear hc hS hE hS1
                obtain ⟨w10, hV⟩ : ∃ V, V = ((w9.setCell ⟨wr.heap.size, 0, none⟩ (.slice vto vts.length vtc)).setCell ⟨wr.heap.size, 1, none⟩ (.slice vqo vq.length vqc)) := ⟨_, rfl⟩
                have XR10 := hid (((XR9.out.other (a := ⟨wr.heap.size, 0, none⟩) (by dsimp only; omega) (.slice vto vts.length vtc)).other (a := ⟨wr.heap.size, 1, none⟩) (by dsimp only; omega) (.slice vqo vq.length vqc)))
                rw [← hV] at XR10
                have XA10 := hid (((XA9.out.other (a := ⟨wr.heap.size, 0, none⟩) (by dsimp only; omega) (.slice vto vts.length vtc)).other (a := ⟨wr.heap.size, 1, none⟩) (by dsimp only; omega) (.slice vqo vq.length vqc)))
                rw [← hV] at XA10
                have XX10 := hid (((XX9.out.set 0 (.slice vto vts.length vtc)).set 1 (.slice vqo vq.length vqc)))
                rw [← hV] at XX10
                have D10 := hid (((D9.out.setOff (a := ⟨wr.heap.size, 0, none⟩) (by dsimp only; omega) (.slice vto vts.length vtc)).setOff (a := ⟨wr.heap.size, 1, none⟩) (by dsimp only; omega) (.slice vqo vq.length vqc)))
                rw [← hV] at D10
                have E10 := hid (((E9.out.setOff (a := ⟨wr.heap.size, 0, none⟩) (by dsimp only; omega) (.slice vto vts.length vtc)).setOff (a := ⟨wr.heap.size, 1, none⟩) (by dsimp only; omega) (.slice vqo vq.length vqc)))
                rw [← hV] at E10
                have C10 := hid (((C9.out.other (a := ⟨wr.heap.size, 0, none⟩) (by dsimp only; omega) (.slice vto vts.length vtc)).other (a := ⟨wr.heap.size, 1, none⟩) (by dsimp only; omega) (.slice vqo vq.length vqc)))
                rw [← hV] at C10
                have hR10 : Grew p w w10 := by rw [hV]; exact ((hR9.set (a := ⟨wr.heap.size, 0, none⟩) (by dsimp only; omega) (.slice vto vts.length vtc)).set (a := ⟨wr.heap.size, 1, none⟩) (by dsimp only; omega) (.slice vqo vq.length vqc))
                have hz10 : w9.heap.size ≤ w10.heap.size := by rw [hV]; simp
                have H10 := hid hV
                clear hV XR9 XA9 XX9 D9 E9 C9
                go_upto_region 25 with fail
                clear rg0 rh0 rg1 rh1 ag0 ah0 ag1 ah1 xg0 xh0 xg1 xh1
                rw [← H10.out]
                clear H10
                have r0 := XR10.out.c 0 rfl
                have rf0 := XR10.out.f 0 rfl
                have r1 := XR10.out.c 1 rfl
                have rf1 := XR10.out.f 1 rfl
                have rz := XR10.out.size
                have a0 := XA10.out.c 0 rfl
                have af0 := XA10.out.f 0 rfl
                have a1 := XA10.out.c 1 rfl
                have af1 := XA10.out.f 1 rfl
                have az := XA10.out.size
                have x0 := XX10.out.c 0 rfl
                have xf0 := XX10.out.f 0 rfl
                have x1 := XX10.out.c 1 rfl
                have xf1 := XX10.out.f 1 rfl
                have xz := XX10.out.size
                obtain ⟨w11, hV⟩ : ∃ V, V = ((w10.setCell ⟨(w.heap.size + 1), 0, none⟩ (.slice vto vts.length vtc)).setCell ⟨(w.heap.size + 1), 1, none⟩ (.slice vqo vq.length vqc)) := ⟨_, rfl⟩
                have XR11 := hid (((XR10.out.other (a := ⟨(w.heap.size + 1), 0, none⟩) (by dsimp only; omega) (.slice vto vts.length vtc)).other (a := ⟨(w.heap.size + 1), 1, none⟩) (by dsimp only; omega) (.slice vqo vq.length vqc)))
                rw [← hV] at XR11
                have XA11 := hid (((XA10.out.set 0 (.slice vto vts.length vtc)).set 1 (.slice vqo vq.length vqc)))
                rw [← hV] at XA11
                have XX11 := hid (((XX10.out.other (a := ⟨(w.heap.size + 1), 0, none⟩) (by dsimp only; omega) (.slice vto vts.length vtc)).other (a := ⟨(w.heap.size + 1), 1, none⟩) (by dsimp only; omega) (.slice vqo vq.length vqc)))
                rw [← hV] at XX11
                have D11 := hid (((D10.out.setOff (a := ⟨(w.heap.size + 1), 0, none⟩) (by dsimp only; omega) (.slice vto vts.length vtc)).setOff (a := ⟨(w.heap.size + 1), 1, none⟩) (by dsimp only; omega) (.slice vqo vq.length vqc)))
                rw [← hV] at D11
                have E11 := hid (((E10.out.setOff (a := ⟨(w.heap.size + 1), 0, none⟩) (by dsimp only; omega) (.slice vto vts.length vtc)).setOff (a := ⟨(w.heap.size + 1), 1, none⟩) (by dsimp only; omega) (.slice vqo vq.length vqc)))
                rw [← hV] at E11
                have C11 := hid (((C10.out.other (a := ⟨(w.heap.size + 1), 0, none⟩) (by dsimp only; omega) (.slice vto vts.length vtc)).other (a := ⟨(w.heap.size + 1), 1, none⟩) (by dsimp only; omega) (.slice vqo vq.length vqc)))
                rw [← hV] at C11
                have hR11 : Grew p w w11 := by rw [hV]; exact ((hR10.set (a := ⟨(w.heap.size + 1), 0, none⟩) (by dsimp only; omega) (.slice vto vts.length vtc)).set (a := ⟨(w.heap.size + 1), 1, none⟩) (by dsimp only; omega) (.slice vqo vq.length vqc))
                have hz11 : w10.heap.size ≤ w11.heap.size := by rw [hV]; simp
                have H11 := hid hV
                clear hV XR10 XA10 XX10 D10 E10 C10
                go_wp2
                clear r0 rf0 r1 rf1 rz a0 af0 a1 af1 az x0 xf0 x1 xf1 xz
                rw [← H11.out]
                clear H11
                have S2 := HS.out
                go_roundw
                case rel => exact ⟨m, k8, sd8, vto, vtc, vts, vqo, vqc, vq, by go_num, by omega, S2.2.1, S2.2.2.1, hid S2.2.2.2, by omega, XR11, XA11, hid (E11.out.wide (by omega) (by omega)), C11, hR11, by omega⟩
                case measure => simp [intOf] <;> omega
              · have hc1 : (cv == 0) = false := by simpa using hc
                have hc2 : decide (cv = 0) = false := by simpa using hc
                clear hc hS1
                obtain ⟨w10, hV⟩ : ∃ V, V = ((w9.setCell ⟨wr.heap.size, 0, none⟩ (.slice vto vts.length vtc)).setCell ⟨wr.heap.size, 1, none⟩ (.slice vqo vq.length vqc)) := ⟨_, rfl⟩
                have XR10 := hid (((XR9.out.other (a := ⟨wr.heap.size, 0, none⟩) (by dsimp only; omega) (.slice vto vts.length vtc)).other (a := ⟨wr.heap.size, 1, none⟩) (by dsimp only; omega) (.slice vqo vq.length vqc)))
                rw [← hV] at XR10
                have XA10 := hid (((XA9.out.other (a := ⟨wr.heap.size, 0, none⟩) (by dsimp only; omega) (.slice vto vts.length vtc)).other (a := ⟨wr.heap.size, 1, none⟩) (by dsimp only; omega) (.slice vqo vq.length vqc)))
                rw [← hV] at XA10
                have XX10 := hid (((XX9.out.set 0 (.slice vto vts.length vtc)).set 1 (.slice vqo vq.length vqc)))
                rw [← hV] at XX10
                have D10 := hid (((D9.out.setOff (a := ⟨wr.heap.size, 0, none⟩) (by dsimp only; omega) (.slice vto vts.length vtc)).setOff (a := ⟨wr.heap.size, 1, none⟩) (by dsimp only; omega) (.slice vqo vq.length vqc)))
                rw [← hV] at D10
                have C10 := hid (((C9.out.other (a := ⟨wr.heap.size, 0, none⟩) (by dsimp only; omega) (.slice vto vts.length vtc)).other (a := ⟨wr.heap.size, 1, none⟩) (by dsimp only; omega) (.slice vqo vq.length vqc)))
                rw [← hV] at C10
                have hR10 : Grew p w w10 := by rw [hV]; exact ((hR9.set (a := ⟨wr.heap.size, 0, none⟩) (by dsimp only; omega) (.slice vto vts.length vtc)).set (a := ⟨wr.heap.size, 1, none⟩) (by dsimp only; omega) (.slice vqo vq.length vqc))
                have hz10 : w9.heap.size ≤ w10.heap.size := by rw [hV]; simp
                have H10 := hid hV
                clear hV XR9 XA9 XX9 D9 C9
                go_upto_region 25 with fail
                clear rg0 rh0 rg1 rh1 ag0 ah0 ag1 ah1 xg0 xh0 xg1 xh1
                rw [← H10.out]
                clear H10
                have r0 := XR10.out.c 0 rfl
                have rf0 := XR10.out.f 0 rfl
                have r1 := XR10.out.c 1 rfl
                have rf1 := XR10.out.f 1 rfl
                have rz := XR10.out.size
                have a0 := XA10.out.c 0 rfl
                have af0 := XA10.out.f 0 rfl
                have a1 := XA10.out.c 1 rfl
                have af1 := XA10.out.f 1 rfl
                have az := XA10.out.size
                have x0 := XX10.out.c 0 rfl
                have xf0 := XX10.out.f 0 rfl
                have x1 := XX10.out.c 1 rfl
                have xf1 := XX10.out.f 1 rfl
                have xz := XX10.out.size
                go_wp2
                clear r0 rf0 r1 rf1 rz a0 af0 a1 af1 az x0 xf0 x1 xf1 xz
                go_roundw
                case rel => exact ⟨m, k8, sd8, to, tc, ts, qo, qc, q, by go_num, by omega, hts, hq, HIR, by omega, XR10, XA10, hid (D10.out.wide (by omega) (by omega)), C10, hR10, by omega⟩
                case measure => simp [intOf] <;> omega
          · have r0 := XR7.out.c 0 rfl
            have rf0 := XR7.out.f 0 rfl
            have r1 := XR7.out.c 1 rfl
            have rf1 := XR7.out.f 1 rfl
            have rz := XR7.out.size
            have a0 := XA7.out.c 0 rfl
            have af0 := XA7.out.f 0 rfl
            have a1 := XA7.out.c 1 rfl
            have af1 := XA7.out.f 1 rfl
            have az := XA7.out.size
            have x0 := XX7.out.c 0 rfl
            have xf0 := XX7.out.f 0 rfl
            have x1 := XX7.out.c 1 rfl
            have xf1 := XX7.out.f 1 rfl
            have xz := XX7.out.size
            go_wp2_with fail
            clear r0 rf0 r1 rf1 rz a0 af0 a1 af1 az x0 xf0 x1 xf1 xz
            refine (stepYield to tc ts qo qc q w7 (by omega) (by omega) D7.out).mono ?_
            rintro e w8 ⟨⟨vto, vtc, vts, vqo, vqc, vq, cv, rfl, hS1⟩, hb8⟩
            have XR8 := hid (XR7.out.later hb8)
            have XA8 := hid (XA7.out.later hb8)
            have XX8 := hid (XX7.out.later hb8)
            have D8 := hid (D7.out.later hb8)
            have C8 := hid (C7.out.later hb8)
            have hR8 : Grew p w w8 := hR7.trans (Grew.of_below hb8)
            have hz8 : w7.heap.size ≤ w8.heap.size := hb8.size
            clear XR7 XA7 XX7 D7 C7 hb8
            by_cases hc : cv = 0
            · obtain ⟨hS, hE⟩ := hS1 hc
              have E8 := hid hE
              have HS := hid hS
              have hc1 : (cv == 0) = true := by simpa using hc
              have hc2 : decide (cv = 0) = true := by simpa using hc
              clear hc hS hE hS1
              have r0 := XR8.out.c 0 rfl
              have rf0 := XR8.out.f 0 rfl
              have r1 := XR8.out.c 1 rfl
              have rf1 := XR8.out.f 1 rfl
              have rz := XR8.out.size
              have a0 := XA8.out.c 0 rfl
              have af0 := XA8.out.f 0 rfl
              have a1 := XA8.out.c 1 rfl
              have af1 := XA8.out.f 1 rfl
              have az := XA8.out.size
              have x0 := XX8.out.c 0 rfl
              have xf0 := XX8.out.f 0 rfl
              have x1 := XX8.out.c 1 rfl
              have xf1 := XX8.out.f 1 rfl
              have xz := XX8.out.size
              obtain ⟨w9, hV⟩ : ∃ V, V = ((w8.setCell ⟨wr.heap.size, 0, none⟩ (.slice vto vts.length vtc)).setCell ⟨wr.heap.size, 1, none⟩ (.slice vqo vq.length vqc)) := ⟨_, rfl⟩
              have XR9 := hid (((XR8.out.other (a := ⟨wr.heap.size, 0, none⟩) (by dsimp only; omega) (.slice vto vts.length vtc)).other (a := ⟨wr.heap.size, 1, none⟩) (by dsimp only; omega) (.slice vqo vq.length vqc)))
              rw [← hV] at XR9
              have XA9 := hid (((XA8.out.other (a := ⟨wr.heap.size, 0, none⟩) (by dsimp only; omega) (.slice vto vts.length vtc)).other (a := ⟨wr.heap.size, 1, none⟩) (by dsimp only; omega) (.slice vqo vq.length vqc)))
              rw [← hV] at XA9
              have XX9 := hid (((XX8.out.set 0 (.slice vto vts.length vtc)).set 1 (.slice vqo vq.length vqc)))
              rw [← hV] at XX9
              have D9 := hid (((D8.out.setOff (a := ⟨wr.heap.size, 0, none⟩) (by dsimp only; omega) (.slice vto vts.length vtc)).setOff (a := ⟨wr.heap.size, 1, none⟩) (by dsimp only; omega) (.slice vqo vq.length vqc)))
              rw [← hV] at D9
              have E9 := hid (((E8.out.setOff (a := ⟨wr.heap.size, 0, none⟩) (by dsimp only; omega) (.slice vto vts.length vtc)).setOff (a := ⟨wr.heap.size, 1, none⟩) (by dsimp only; omega) (.slice vqo vq.length vqc)))
              rw [← hV] at E9
              have C9 := hid (((C8.out.other (a := ⟨wr.heap.size, 0, none⟩) (by dsimp only; omega) (.slice vto vts.length vtc)).other (a := ⟨wr.heap.size, 1, none⟩) (by dsimp only; omega) (.slice vqo vq.length vqc)))
              rw [← hV] at C9
              have hR9 : Grew p w w9 := by rw [hV]; exact ((hR8.set (a := ⟨wr.heap.size, 0, none⟩) (by dsimp only; omega) (.slice vto vts.length vtc)).set (a := ⟨wr.heap.size, 1, none⟩) (by dsimp only; omega) (.slice vqo vq.length vqc))
              have hz9 : w8.heap.size ≤ w9.heap.size := by rw [hV]; simp
              have H9 := hid hV
              clear hV XR8 XA8 XX8 D8 E8 C8
              go_upto_region 25 with fail
              clear r0 rf0 r1 rf1 rz a0 af0 a1 af1 az x0 xf0 x1 xf1 xz
              rw [← H9.out]
              clear H9
              have r0 := XR9.out.c 0 rfl
              have rf0 := XR9.out.f 0 rfl
              have r1 := XR9.out.c 1 rfl
              have rf1 := XR9.out.f 1 rfl
              have rz := XR9.out.size
              have a0 := XA9.out.c 0 rfl
              have af0 := XA9.out.f 0 rfl
              have a1 := XA9.out.c 1 rfl
              have af1 := XA9.out.f 1 rfl
              have az := XA9.out.size
              have x0 := XX9.out.c 0 rfl
              have xf0 := XX9.out.f 0 rfl
              have x1 := XX9.out.c 1 rfl
              have xf1 := XX9.out.f 1 rfl
              have xz := XX9.out.size
              obtain ⟨w10, hV⟩ : ∃ V, V = ((w9.setCell ⟨(w.heap.size + 1), 0, none⟩ (.slice vto vts.length vtc)).setCell ⟨(w.heap.size + 1), 1, none⟩ (.slice vqo vq.length vqc)) := ⟨_, rfl⟩
              have XR10 := hid (((XR9.out.other (a := ⟨(w.heap.size + 1), 0, none⟩) (by dsimp only; omega) (.slice vto vts.length vtc)).other (a := ⟨(w.heap.size + 1), 1, none⟩) (by dsimp only; omega) (.slice vqo vq.length vqc)))
              rw [← hV] at XR10
              have XA10 := hid (((XA9.out.set 0 (.slice vto vts.length vtc)).set 1 (.slice vqo vq.length vqc)))
              rw [← hV] at XA10
              have XX10 := hid (((XX9.out.other (a := ⟨(w.heap.size + 1), 0, none⟩) (by dsimp only; omega) (.slice vto vts.length vtc)).other (a := ⟨(w.heap.size + 1), 1, none⟩) (by dsimp only; omega) (.slice vqo vq.length vqc)))
              rw [← hV] at XX10
              have D10 := hid (((D9.out.setOff (a := ⟨(w.heap.size + 1), 0, none⟩) (by dsimp only; omega) (.slice vto vts.length vtc)).setOff (a := ⟨(w.heap.size + 1), 1, none⟩) (by dsimp only; omega) (.slice vqo vq.length vqc)))
              rw [← hV] at D10
              have E10 := hid (((E9.out.setOff (a := ⟨(w.heap.size + 1), 0, none⟩) (by dsimp only; omega) (.slice vto vts.length vtc)).setOff (a := ⟨(w.heap.size + 1), 1, none⟩) (by dsimp only; omega) (.slice vqo vq.length vqc)))
              rw [← hV] at E10
              have C10 := hid (((C9.out.other (a := ⟨(w.heap.size + 1), 0, none⟩) (by dsimp only; omega) (.slice vto vts.length vtc)).other (a := ⟨(w.heap.size + 1), 1, none⟩) (by dsimp only; omega) (.slice vqo vq.length vqc)))
              rw [← hV] at C10
              have hR10 : Grew p w w10 := by rw [hV]; exact ((hR9.set (a := ⟨(w.heap.size + 1), 0, none⟩) (by dsimp only; omega) (.slice vto vts.length vtc)).set (a := ⟨(w.heap.size + 1), 1, none⟩) (by dsimp only; omega) (.slice vqo vq.length vqc))
              have hz10 : w9.heap.size ≤ w10.heap.size := by rw [hV]; simp
              have H10 := hid hV
              clear hV XR9 XA9 XX9 D9 E9 C9
              go_wp2
              clear r0 rf0 r1 rf1 rz a0 af0 a1 af1 az x0 xf0 x1 xf1 xz
              rw [← H10.out]
              clear H10
              have S2 := HS.out
              go_roundw
              case rel => exact ⟨m, k7, sd7, vto, vtc, vts, vqo, vqc, vq, by go_num, by omega, S2.2.1, S2.2.2.1, hid S2.2.2.2, by omega, XR10, XA10, hid (E10.out.wide (by omega) (by omega)), C10, hR10, by omega⟩
              case measure => simp [intOf] <;> omega
            · have hc1 : (cv == 0) = false := by simpa using hc
              have hc2 : decide (cv = 0) = false := by simpa using hc
              clear hc hS1
              have r0 := XR8.out.c 0 rfl
              have rf0 := XR8.out.f 0 rfl
              have r1 := XR8.out.c 1 rfl
              have rf1 := XR8.out.f 1 rfl
              have rz := XR8.out.size
              have a0 := XA8.out.c 0 rfl
              have af0 := XA8.out.f 0 rfl
              have a1 := XA8.out.c 1 rfl
              have af1 := XA8.out.f 1 rfl
              have az := XA8.out.size
              have x0 := XX8.out.c 0 rfl
              have xf0 := XX8.out.f 0 rfl
              have x1 := XX8.out.c 1 rfl
              have xf1 := XX8.out.f 1 rfl
              have xz := XX8.out.size
              obtain ⟨w9, hV⟩ : ∃ V, V = ((w8.setCell ⟨wr.heap.size, 0, none⟩ (.slice vto vts.length vtc)).setCell ⟨wr.heap.size, 1, none⟩ (.slice vqo vq.length vqc)) := ⟨_, rfl⟩
              have XR9 := hid (((XR8.out.other (a := ⟨wr.heap.size, 0, none⟩) (by dsimp only; omega) (.slice vto vts.length vtc)).other (a := ⟨wr.heap.size, 1, none⟩) (by dsimp only; omega) (.slice vqo vq.length vqc)))
              rw [← hV] at XR9
              have XA9 := hid (((XA8.out.other (a := ⟨wr.heap.size, 0, none⟩) (by dsimp only; omega) (.slice vto vts.length vtc)).other (a := ⟨wr.heap.size, 1, none⟩) (by dsimp only; omega) (.slice vqo vq.length vqc)))
              rw [← hV] at XA9
              have XX9 := hid (((XX8.out.set 0 (.slice vto vts.length vtc)).set 1 (.slice vqo vq.length vqc)))
              rw [← hV] at XX9
              have D9 := hid (((D8.out.setOff (a := ⟨wr.heap.size, 0, none⟩) (by dsimp only; omega) (.slice vto vts.length vtc)).setOff (a := ⟨wr.heap.size, 1, none⟩) (by dsimp only; omega) (.slice vqo vq.length vqc)))
              rw [← hV] at D9
              have C9 := hid (((C8.out.other (a := ⟨wr.heap.size, 0, none⟩) (by dsimp only; omega) (.slice vto vts.length vtc)).other (a := ⟨wr.heap.size, 1, none⟩) (by dsimp only; omega) (.slice vqo vq.length vqc)))
              rw [← hV] at C9
              have hR9 : Grew p w w9 := by rw [hV]; exact ((hR8.set (a := ⟨wr.heap.size, 0, none⟩) (by dsimp only; omega) (.slice vto vts.length vtc)).set (a := ⟨wr.heap.size, 1, none⟩) (by dsimp only; omega) (.slice vqo vq.length vqc))
              have hz9 : w8.heap.size ≤ w9.heap.size := by rw [hV]; simp
              have H9 := hid hV
              clear hV XR8 XA8 XX8 D8 C8
              go_upto_region 25 with fail
              clear r0 rf0 r1 rf1 rz a0 af0 a1 af1 az x0 xf0 x1 xf1 xz
              rw [← H9.out]
              clear H9
              have r0 := XR9.out.c 0 rfl
              have rf0 := XR9.out.f 0 rfl
              have r1 := XR9.out.c 1 rfl
              have rf1 := XR9.out.f 1 rfl
              have rz := XR9.out.size
              have a0 := XA9.out.c 0 rfl
              have af0 := XA9.out.f 0 rfl
              have a1 := XA9.out.c 1 rfl
              have af1 := XA9.out.f 1 rfl
              have az := XA9.out.size
              have x0 := XX9.out.c 0 rfl
              have xf0 := XX9.out.f 0 rfl
              have x1 := XX9.out.c 1 rfl
              have xf1 := XX9.out.f 1 rfl
              have xz := XX9.out.size
              go_wp2
              clear r0 rf0 r1 rf1 rz a0 af0 a1 af1 az x0 xf0 x1 xf1 xz
              go_roundw
              case rel => exact ⟨m, k7, sd7, to, tc, ts, qo, qc, q, by go_num, by omega, hts, hq, HIR, by omega, XR9, XA9, hid (D9.out.wide (by omega) (by omega)), C9, hR9, by omega⟩
              case measure => simp [intOf] <;> omega
          · have r0 := XR7.out.c 0 rfl
            have rf0 := XR7.out.f 0 rfl
            have r1 := XR7.out.c 1 rfl
            have rf1 := XR7.out.f 1 rfl
            have rz := XR7.out.size
            have a0 := XA7.out.c 0 rfl
            have af0 := XA7.out.f 0 rfl
            have a1 := XA7.out.c 1 rfl
            have af1 := XA7.out.f 1 rfl
            have az := XA7.out.size
            have x0 := XX7.out.c 0 rfl
            have xf0 := XX7.out.f 0 rfl
            have x1 := XX7.out.c 1 rfl
            have xf1 := XX7.out.f 1 rfl
            have xz := XX7.out.size
            go_wp2_with fail
            clear r0 rf0 r1 rf1 rz a0 af0 a1 af1 az x0 xf0 x1 xf1 xz
            refine (stepPark to tc ts qo qc q w7 (by omega) (by omega) D7.out).mono ?_
            rintro e w8 ⟨⟨vto, vtc, vts, vqo, vqc, vq, cv, rfl, hS1⟩, hb8⟩
            have XR8 := hid (XR7.out.later hb8)
            have XA8 := hid (XA7.out.later hb8)
            have XX8 := hid (XX7.out.later hb8)
            have D8 := hid (D7.out.later hb8)
            have C8 := hid (C7.out.later hb8)
            have hR8 : Grew p w w8 := hR7.trans (Grew.of_below hb8)
            have hz8 : w7.heap.size ≤ w8.heap.size := hb8.size
            clear XR7 XA7 XX7 D7 C7 hb8
            by_cases hc : cv = 0
            · obtain ⟨hS, hE⟩ := hS1 hc
              have E8 := hid hE
              have HS := hid hS
              have hc1 : (cv == 0) = true := by simpa using hc
              have hc2 : decide (cv = 0) = true := by simpa using hc
              clear hc hS hE hS1
              have r0 := XR8.out.c 0 rfl
              have rf0 := XR8.out.f 0 rfl
              have r1 := XR8.out.c 1 rfl
              have rf1 := XR8.out.f 1 rfl
              have rz := XR8.out.size
              have a0 := XA8.out.c 0 rfl
              have af0 := XA8.out.f 0 rfl
              have a1 := XA8.out.c 1 rfl
              have af1 := XA8.out.f 1 rfl
              have az := XA8.out.size
              have x0 := XX8.out.c 0 rfl
              have xf0 := XX8.out.f 0 rfl
              have x1 := XX8.out.c 1 rfl
              have xf1 := XX8.out.f 1 rfl
              have xz := XX8.out.size
              obtain ⟨w9, hV⟩ : ∃ V, V = ((w8.setCell ⟨wr.heap.size, 0, none⟩ (.slice vto vts.length vtc)).setCell ⟨wr.heap.size, 1, none⟩ (.slice vqo vq.length vqc)) := ⟨_, rfl⟩
              have XR9 := hid (((XR8.out.other (a := ⟨wr.heap.size, 0, none⟩) (by dsimp only; omega) (.slice vto vts.length vtc)).other (a := ⟨wr.heap.size, 1, none⟩) (by dsimp only; omega) (.slice vqo vq.length vqc)))
              rw [← hV] at XR9
              have XA9 := hid (((XA8.out.other (a := ⟨wr.heap.size, 0, none⟩) (by dsimp only; omega) (.slice vto vts.length vtc)).other (a := ⟨wr.heap.size, 1, none⟩) (by dsimp only; omega) (.slice vqo vq.length vqc)))
              rw [← hV] at XA9
              have XX9 := hid (((XX8.out.set 0 (.slice vto vts.length vtc)).set 1 (.slice vqo vq.length vqc)))
              rw [← hV] at XX9
              have D9 := hid (((D8.out.setOff (a := ⟨wr.heap.size, 0, none⟩) (by dsimp only; omega) (.slice vto vts.length vtc)).setOff (a := ⟨wr.heap.size, 1, none⟩) (by dsimp only; omega) (.slice vqo vq.length vqc)))
              rw [← hV] at D9
              have E9 := hid (((E8.out.setOff (a := ⟨wr.heap.size, 0, none⟩) (by dsimp only; omega) (.slice vto vts.length vtc)).setOff (a := ⟨wr.heap.size, 1, none⟩) (by dsimp only; omega) (.slice vqo vq.length vqc)))
              rw [← hV] at E9
              have C9 := hid (((C8.out.other (a := ⟨wr.heap.size, 0, none⟩) (by dsimp only; omega) (.slice vto vts.length vtc)).other (a := ⟨wr.heap.size, 1, none⟩) (by dsimp only; omega) (.slice vqo vq.length vqc)))
              rw [← hV] at C9
              have hR9 : Grew p w w9 := by rw [hV]; exact ((hR8.set (a := ⟨wr.heap.size, 0, none⟩) (by dsimp only; omega) (.slice vto vts.length vtc)).set (a := ⟨wr.heap.size, 1, none⟩) (by dsimp only; omega) (.slice vqo vq.length vqc))
              have hz9 : w8.heap.size ≤ w9.heap.size := by rw [hV]; simp
              have H9 := hid hV
              clear hV XR8 XA8 XX8 D8 E8 C8
              go_upto_region 25 with fail
              clear r0 rf0 r1 rf1 rz a0 af0 a1 af1 az x0 xf0 x1 xf1 xz
              rw [← H9.out]
              clear H9
              have r0 := XR9.out.c 0 rfl
              have rf0 := XR9.out.f 0 rfl
              have r1 := XR9.out.c 1 rfl
              have rf1 := XR9.out.f 1 rfl
              have rz := XR9.out.size
              have a0 := XA9.out.c 0 rfl
              have af0 := XA9.out.f 0 rfl
              have a1 := XA9.out.c 1 rfl
              have af1 := XA9.out.f 1 rfl
              have az := XA9.out.size
              have x0 := XX9.out.c 0 rfl
              have xf0 := XX9.out.f 0 rfl
              have x1 := XX9.out.c 1 rfl
              have xf1 := XX9.out.f 1 rfl
              have xz := XX9.out.size
              obtain ⟨w10, hV⟩ : ∃ V, V = ((w9.setCell ⟨(w.heap.size + 1), 0, none⟩ (.slice vto vts.length vtc)).setCell ⟨(w.heap.size + 1), 1, none⟩ (.slice vqo vq.length vqc)) := ⟨_, rfl⟩
              have XR10 := hid (((XR9.out.other (a := ⟨(w.heap.size + 1), 0, none⟩) (by dsimp only; omega) (.slice vto vts.length vtc)).other (a := ⟨(w.heap.size + 1), 1, none⟩) (by dsimp only; omega) (.slice vqo vq.length vqc)))
              rw [← hV] at XR10
              have XA10 := hid (((XA9.out.set 0 (.slice vto vts.length vtc)).set 1 (.slice vqo vq.length vqc)))
              rw [← hV] at XA10
              have XX10 := hid (((XX9.out.other (a := ⟨(w.heap.size + 1), 0, none⟩) (by dsimp only; omega) (.slice vto vts.length vtc)).other (a := ⟨(w.heap.size + 1), 1, none⟩) (by dsimp only; omega) (.slice vqo vq.length vqc)))
              rw [← hV] at XX10
              have D10 := hid (((D9.out.setOff (a := ⟨(w.heap.size + 1), 0, none⟩) (by dsimp only; omega) (.slice vto vts.length vtc)).setOff (a := ⟨(w.heap.size + 1), 1, none⟩) (by dsimp only; omega) (.slice vqo vq.length vqc)))
              rw [← hV] at D10
              have E10 := hid (((E9.out.setOff (a := ⟨(w.heap.size + 1), 0, none⟩) (by dsimp only; omega) (.slice vto vts.length vtc)).setOff (a := ⟨(w.heap.size + 1), 1, none⟩) (by dsimp only; omega) (.slice vqo vq.length vqc)))
              rw [← hV] at E10
              have C10 := hid (((C9.out.other (a := ⟨(w.heap.size + 1), 0, none⟩) (by dsimp only; omega) (.slice vto vts.length vtc)).other (a := ⟨(w.heap.size + 1), 1, none⟩) (by dsimp only; omega) (.slice vqo vq.length vqc)))
              rw [← hV] at C10
              have hR10 : Grew p w w10 := by rw [hV]; exact ((hR9.set (a := ⟨(w.heap.size + 1), 0, none⟩) (by dsimp only; omega) (.slice vto vts.length vtc)).set (a := ⟨(w.heap.size + 1), 1, none⟩) (by dsimp only; omega) (.slice vqo vq.length vqc))
              have hz10 : w9.heap.size ≤ w10.heap.size := by rw [hV]; simp
              have H10 := hid hV
              clear hV XR9 XA9 XX9 D9 E9 C9
              go_wp2
              clear r0 rf0 r1 rf1 rz a0 af0 a1 af1 az x0 xf0 x1 xf1 xz
              rw [← H10.out]
              clear H10
              have S2 := HS.out
              go_roundw
              case rel => exact ⟨m, k7, sd7, vto, vtc, vts, vqo, vqc, vq, by go_num, by omega, S2.2.1, S2.2.2.1, hid S2.2.2.2, by omega, XR10, XA10, hid (E10.out.wide (by omega) (by omega)), C10, hR10, by omega⟩
              case measure => simp [intOf] <;> omega
            · have hc1 : (cv == 0) = false := by simpa using hc
              have hc2 : decide (cv = 0) = false := by simpa using hc
              clear hc hS1
              have r0 := XR8.out.c 0 rfl
              have rf0 := XR8.out.f 0 rfl
              have r1 := XR8.out.c 1 rfl
              have rf1 := XR8.out.f 1 rfl
              have rz := XR8.out.size
              have a0 := XA8.out.c 0 rfl
              have af0 := XA8.out.f 0 rfl
              have a1 := XA8.out.c 1 rfl
              have af1 := XA8.out.f 1 rfl
              have az := XA8.out.size
              have x0 := XX8.out.c 0 rfl
              have xf0 := XX8.out.f 0 rfl
              have x1 := XX8.out.c 1 rfl
              have xf1 := XX8.out.f 1 rfl
              have xz := XX8.out.size
              obtain ⟨w9, hV⟩ : ∃ V, V = ((w8.setCell ⟨wr.heap.size, 0, none⟩ (.slice vto vts.length vtc)).setCell ⟨wr.heap.size, 1, none⟩ (.slice vqo vq.length vqc)) := ⟨_, rfl⟩
              have XR9 := hid (((XR8.out.other (a := ⟨wr.heap.size, 0, none⟩) (by dsimp only; omega) (.slice vto vts.length vtc)).other (a := ⟨wr.heap.size, 1, none⟩) (by dsimp only; omega) (.slice vqo vq.length vqc)))
              rw [← hV] at XR9
              have XA9 := hid (((XA8.out.other (a := ⟨wr.heap.size, 0, none⟩) (by dsimp only; omega) (.slice vto vts.length vtc)).other (a := ⟨wr.heap.size, 1, none⟩) (by dsimp only; omega) (.slice vqo vq.length vqc)))
              rw [← hV] at XA9
              have XX9 := hid (((XX8.out.set 0 (.slice vto vts.length vtc)).set 1 (.slice vqo vq.length vqc)))
              rw [← hV] at XX9
              have D9 := hid (((D8.out.setOff (a := ⟨wr.heap.size, 0, none⟩) (by dsimp only; omega) (.slice vto vts.length vtc)).setOff (a := ⟨wr.heap.size, 1, none⟩) (by dsimp only; omega) (.slice vqo vq.length vqc)))
              rw [← hV] at D9
              have C9 := hid (((C8.out.other (a := ⟨wr.heap.size, 0, none⟩) (by dsimp only; omega) (.slice vto vts.length vtc)).other (a := ⟨wr.heap.size, 1, none⟩) (by dsimp only; omega) (.slice vqo vq.length vqc)))
              rw [← hV] at C9
              have hR9 : Grew p w w9 := by rw [hV]; exact ((hR8.set (a := ⟨wr.heap.size, 0, none⟩) (by dsimp only; omega) (.slice vto vts.length vtc)).set (a := ⟨wr.heap.size, 1, none⟩) (by dsimp only; omega) (.slice vqo vq.length vqc))
              have hz9 : w8.heap.size ≤ w9.heap.size := by rw [hV]; simp
              have H9 := hid hV
              clear hV XR8 XA8 XX8 D8 C8
              go_upto_region 25 with fail
              clear r0 rf0 r1 rf1 rz a0 af0 a1 af1 az x0 xf0 x1 xf1 xz
              rw [← H9.out]
              clear H9
              have r0 := XR9.out.c 0 rfl
              have rf0 := XR9.out.f 0 rfl
              have r1 := XR9.out.c 1 rfl
              have rf1 := XR9.out.f 1 rfl
              have rz := XR9.out.size
              have a0 := XA9.out.c 0 rfl
              have af0 := XA9.out.f 0 rfl
              have a1 := XA9.out.c 1 rfl
              have af1 := XA9.out.f 1 rfl
              have az := XA9.out.size
              have x0 := XX9.out.c 0 rfl
              have xf0 := XX9.out.f 0 rfl
              have x1 := XX9.out.c 1 rfl
              have xf1 := XX9.out.f 1 rfl
              have xz := XX9.out.size
              go_wp2
              clear r0 rf0 r1 rf1 rz a0 af0 a1 af1 az x0 xf0 x1 xf1 xz
              go_roundw
              case rel => exact ⟨m, k7, sd7, to, tc, ts, qo, qc, q, by go_num, by omega, hts, hq, HIR, by omega, XR9, XA9, hid (D9.out.wide (by omega) (by omega)), C9, hR9, by omega⟩
              case measure => simp [intOf] <;> omega
          · have r0 := XR7.out.c 0 rfl
            have rf0 := XR7.out.f 0 rfl
            have r1 := XR7.out.c 1 rfl
            have rf1 := XR7.out.f 1 rfl
            have rz := XR7.out.size
            have a0 := XA7.out.c 0 rfl
            have af0 := XA7.out.f 0 rfl
            have a1 := XA7.out.c 1 rfl
            have af1 := XA7.out.f 1 rfl
            have az := XA7.out.size
            have x0 := XX7.out.c 0 rfl
            have xf0 := XX7.out.f 0 rfl
            have x1 := XX7.out.c 1 rfl
            have xf1 := XX7.out.f 1 rfl
            have xz := XX7.out.size
            go_wp2
            have PD0 : w7.drew.cell? ⟨(w.heap.size + 1), 0, none⟩ = some (.slice to ts.length tc) := a0
            have PD1 : w7.drew.cell? ⟨(w.heap.size + 1), 1, none⟩ = some (.slice qo q.length qc) := a1
            go_region_law (first
                | (go_simp; go_at_call 34; have _g := hz8; refine (stepWake to tc ts qo qc q z w8 (by omega) (by omega) D8.out).mono ?_; rintro e w9 ⟨⟨vto, vtc, vts, vqo, vqc, vq, cv, rfl, hS1⟩, hy⟩; have hb : Below w8.heap.size w8 w9 := hy; have XR9 := hid (XR8.out.grew (Grew.of_below (p := p) hb) (by omega)); have XA9 := hid (XA8.out.grew (Grew.of_below (p := p) hb) (by omega)); have XX9 := hid (XX8.out.grew (Grew.of_below (p := p) hb) (by omega)); have D9 := hid (D8.out.grew (Grew.of_below (p := p) hb) (by omega)); have C9 := hid (C8.out.later hb); have hR9 : Grew p w w9 := hR8.trans (Grew.of_below (p := p) hb); have hz9 : w8.heap.size ≤ w9.heap.size := hb.size; have P9a := XA9.out.c 0 rfl; have P9b := XA9.out.c 1 rfl; have rg0 := XR9.out.c 0 rfl; have rh0 := XR9.out.f 0 rfl; have rg1 := XR9.out.c 1 rfl; have rh1 := XR9.out.f 1 rfl; have ag0 := XA9.out.c 0 rfl; have ah0 := XA9.out.f 0 rfl; have ag1 := XA9.out.c 1 rfl; have ah1 := XA9.out.f 1 rfl; have xg0 := XX9.out.c 0 rfl; have xh0 := XX9.out.f 0 rfl; have xg1 := XX9.out.c 1 rfl; have xh1 := XX9.out.f 1 rfl; clear hy hb)
                | (go_simp; go_at_call 31; refine (pick_any 5 p co cap bs k7 sd7 w7.drew hl (by omega) C7.out.drew).mono ?_; rintro e w8 ⟨⟨z, rfl, h0z, h1z⟩, hD⟩; obtain ⟨k8, sd8, hk8, hC, hg0, hsz⟩ := hD.grew; have hg : Grew p w7 w8 := hg0.from; have XR8 := hid (XR7.out.grew hg (by omega)); have XA8 := hid (XA7.out.grew hg (by omega)); have XX8 := hid (XX7.out.grew hg (by omega)); have D8 := hid (D7.out.grew hg (by omega)); have C8 := hid hC; have hR8 : Grew p w w8 := hR7.trans hg; have hz8 : w7.heap.size ≤ w8.heap.size := hg.size; have P8a := XA8.out.c 0 rfl; have P8b := XA8.out.c 1 rfl; clear hD hC hg0 hg hsz))
            all_goals
              by_cases hc : cv = 0
              · obtain ⟨hS, hE⟩ := hS1 hc
                have E9 := hid hE
                have HS := hid hS
                have hc1 : (cv == 0) = true := by simpa using hc
                have hc2 : decide (cv = 0) = true := by simpa using hc
                clear hc hS hE hS1
                obtain ⟨w10, hV⟩ : ∃ V, V = ((w9.setCell ⟨wr.heap.size, 0, none⟩ (.slice vto vts.length vtc)).setCell ⟨wr.heap.size, 1, none⟩ (.slice vqo vq.length vqc)) := ⟨_, rfl⟩
                have XR10 := hid (((XR9.out.other (a := ⟨wr.heap.size, 0, none⟩) (by dsimp only; omega) (.slice vto vts.length vtc)).other (a := ⟨wr.heap.size, 1, none⟩) (by dsimp only; omega) (.slice vqo vq.length vqc)))
                rw [← hV] at XR10
                have XA10 := hid (((XA9.out.other (a := ⟨wr.heap.size, 0, none⟩) (by dsimp only; omega) (.slice vto vts.length vtc)).other (a := ⟨wr.heap.size, 1, none⟩) (by dsimp only; omega) (.slice vqo vq.length vqc)))
                rw [← hV] at XA10
                have XX10 := hid (((XX9.out.set 0 (.slice vto vts.length vtc)).set 1 (.slice vqo vq.length vqc)))
                rw [← hV] at XX10
                have D10 := hid (((D9.out.setOff (a := ⟨wr.heap.size, 0, none⟩) (by dsimp only; omega) (.slice vto vts.length vtc)).setOff (a := ⟨wr.heap.size, 1, none⟩) (by dsimp only; omega) (.slice vqo vq.length vqc)))
                rw [← hV] at D10
                have E10 := hid (((E9.out.setOff (a := ⟨wr.heap.size, 0, none⟩) (by dsimp only; omega) (.slice vto vts.length vtc)).setOff (a := ⟨wr.heap.size, 1, none⟩) (by dsimp only; omega) (.slice vqo vq.length vqc)))
                rw [← hV] at E10
                have C10 := hid (((C9.out.other (a := ⟨wr.heap.size, 0, none⟩) (by dsimp only; omega) (.slice vto vts.length vtc)).other (a := ⟨wr.heap.size, 1, none⟩) (by dsimp only; omega) (.slice vqo vq.length vqc)))
                rw [← hV] at C10
                have hR10 : Grew p w w10 := by rw [hV]; exact ((hR9.set (a := ⟨wr.heap.size, 0, none⟩) (by dsimp only; omega) (.slice vto vts.length vtc)).set (a := ⟨wr.heap.size, 1, none⟩) (by dsimp only; omega) (.slice vqo vq.length vqc))
                have hz10 : w9.heap.size ≤ w10.heap.size := by rw [hV]; simp
                have H10 := hid hV
                clear hV XR9 XA9 XX9 D9 E9 C9
                go_upto_region 25 with fail
                clear rg0 rh0 rg1 rh1 ag0 ah0 ag1 ah1 xg0 xh0 xg1 xh1
                rw [← H10.out]
                clear H10
                have r0 := XR10.out.c 0 rfl
                have rf0 := XR10.out.f 0 rfl
                have r1 := XR10.out.c 1 rfl
                have rf1 := XR10.out.f 1 rfl
                have rz := XR10.out.size
                have a0 := XA10.out.c 0 rfl
                have af0 := XA10.out.f 0 rfl
                have a1 := XA10.out.c 1 rfl
                have af1 := XA10.out.f 1 rfl
                have az := XA10.out.size
                have x0 := XX10.out.c 0 rfl
                have xf0 := XX10.out.f 0 rfl
                have x1 := XX10.out.c 1 rfl
                have xf1 := XX10.out.f 1 rfl
                have xz := XX10.out.size
                obtain ⟨w11, hV⟩ : ∃ V, V = ((w10.setCell ⟨(w.heap.size + 1), 0, none⟩ (.slice vto vts.length vtc)).setCell ⟨(w.heap.size + 1), 1, none⟩ (.slice vqo vq.length vqc)) := ⟨_, rfl⟩
                have XR11 := hid (((XR10.out.other (a := ⟨(w.heap.size + 1), 0, none⟩) (by dsimp only; omega) (.slice vto vts.length vtc)).other (a := ⟨(w.heap.size + 1), 1, none⟩) (by dsimp only; omega) (.slice vqo vq.length vqc)))
                rw [← hV] at XR11
                have XA11 := hid (((XA10.out.set 0 (.slice vto vts.length vtc)).set 1 (.slice vqo vq.length vqc)))
                rw [← hV] at XA11
                have XX11 := hid (((XX10.out.other (a := ⟨(w.heap.size + 1), 0, none⟩) (by dsimp only; omega) (.slice vto vts.length vtc)).other (a := ⟨(w.heap.size + 1), 1, none⟩) (by dsimp only; omega) (.slice vqo vq.length vqc)))
                rw [← hV] at XX11
                have D11 := hid (((D10.out.setOff (a := ⟨(w.heap.size + 1), 0, none⟩) (by dsimp only; omega) (.slice vto vts.length vtc)).setOff (a := ⟨(w.heap.size + 1), 1, none⟩) (by dsimp only; omega) (.slice vqo vq.length vqc)))
                rw [← hV] at D11
                have E11 := hid (((E10.out.setOff (a := ⟨(w.heap.size + 1), 0, none⟩) (by dsimp only; omega) (.slice vto vts.length vtc)).setOff (a := ⟨(w.heap.size + 1), 1, none⟩) (by dsimp only; omega) (.slice vqo vq.length vqc)))
                rw [← hV] at E11
                have C11 := hid (((C10.out.other (a := ⟨(w.heap.size + 1), 0, none⟩) (by dsimp only; omega) (.slice vto vts.length vtc)).other (a := ⟨(w.heap.size + 1), 1, none⟩) (by dsimp only; omega) (.slice vqo vq.length vqc)))
                rw [← hV] at C11
                have hR11 : Grew p w w11 := by rw [hV]; exact ((hR10.set (a := ⟨(w.heap.size + 1), 0, none⟩) (by dsimp only; omega) (.slice vto vts.length vtc)).set (a := ⟨(w.heap.size + 1), 1, none⟩) (by dsimp only; omega) (.slice vqo vq.length vqc))
                have hz11 : w10.heap.size ≤ w11.heap.size := by rw [hV]; simp
                have H11 := hid hV
                clear hV XR10 XA10 XX10 D10 E10 C10
                go_wp2
                clear r0 rf0 r1 rf1 rz a0 af0 a1 af1 az x0 xf0 x1 xf1 xz
                rw [← H11.out]
                clear H11
                have S2 := HS.out
                go_roundw
                case rel => exact ⟨m, k8, sd8, vto, vtc, vts, vqo, vqc, vq, by go_num, by omega, S2.2.1, S2.2.2.1, hid S2.2.2.2, by omega, XR11, XA11, hid (E11.out.wide (by omega) (by omega)), C11, hR11, by omega⟩
                case measure => simp [intOf] <;> omega
              · have hc1 : (cv == 0) = false := by simpa using hc
                have hc2 : decide (cv = 0) = false := by simpa using hc
                clear hc hS1
                obtain ⟨w10, hV⟩ : ∃ V, V = ((w9.setCell ⟨wr.heap.size, 0, none⟩ (.slice vto vts.length vtc)).setCell ⟨wr.heap.size, 1, none⟩ (.slice vqo vq.length vqc)) := ⟨_, rfl⟩
                have XR10 := hid (((XR9.out.other (a := ⟨wr.heap.size, 0, none⟩) (by dsimp only; omega) (.slice vto vts.length vtc)).other (a := ⟨wr.heap.size, 1, none⟩) (by dsimp only; omega) (.slice vqo vq.length vqc)))
                rw [← hV] at XR10
                have XA10 := hid (((XA9.out.other (a := ⟨wr.heap.size, 0, none⟩) (by dsimp only; omega) (.slice vto vts.length vtc)).other (a := ⟨wr.heap.size, 1, none⟩) (by dsimp only; omega) (.slice vqo vq.length vqc)))
                rw [← hV] at XA10
                have XX10 := hid (((XX9.out.set 0 (.slice vto vts.length vtc)).set 1 (.slice vqo vq.length vqc)))
                rw [← hV] at XX10
                have D10 := hid (((D9.out.setOff (a := ⟨wr.heap.size, 0, none⟩) (by dsimp only; omega) (.slice vto vts.length vtc)).setOff (a := ⟨wr.heap.size, 1, none⟩) (by dsimp only; omega) (.slice vqo vq.length vqc)))
                rw [← hV] at D10
                have C10 := hid (((C9.out.other (a := ⟨wr.heap.size, 0, none⟩) (by dsimp only; omega) (.slice vto vts.length vtc)).other (a := ⟨wr.heap.size, 1, none⟩) (by dsimp only; omega) (.slice vqo vq.length vqc)))
                rw [← hV] at C10
                have hR10 : Grew p w w10 := by rw [hV]; exact ((hR9.set (a := ⟨wr.heap.size, 0, none⟩) (by dsimp only; omega) (.slice vto vts.length vtc)).set (a := ⟨wr.heap.size, 1, none⟩) (by dsimp only; omega) (.slice vqo vq.length vqc))
                have hz10 : w9.heap.size ≤ w10.heap.size := by rw [hV]; simp
                have H10 := hid hV
                clear hV XR9 XA9 XX9 D9 C9
                go_upto_region 25 with fail
                clear rg0 rh0 rg1 rh1 ag0 ah0 ag1 ah1 xg0 xh0 xg1 xh1
                rw [← H10.out]
                clear H10
                have r0 := XR10.out.c 0 rfl
                have rf0 := XR10.out.f 0 rfl
                have r1 := XR10.out.c 1 rfl
                have rf1 := XR10.out.f 1 rfl
                have rz := XR10.out.size
                have a0 := XA10.out.c 0 rfl
                have af0 := XA10.out.f 0 rfl
                have a1 := XA10.out.c 1 rfl
                have af1 := XA10.out.f 1 rfl
                have az := XA10.out.size
                have x0 := XX10.out.c 0 rfl
                have xf0 := XX10.out.f 0 rfl
                have x1 := XX10.out.c 1 rfl
                have xf1 := XX10.out.f 1 rfl
                have xz := XX10.out.size
                go_wp2
                clear r0 rf0 r1 rf1 rz a0 af0 a1 af1 az x0 xf0 x1 xf1 xz
                go_roundw
                case rel => exact ⟨m, k8, sd8, to, tc, ts, qo, qc, q, by go_num, by omega, hts, hq, HIR, by omega, XR10, XA10, hid (D10.out.wide (by omega) (by omega)), C10, hR10, by omega⟩
                case measure => simp [intOf] <;> omega
          · have r0 := XR7.out.c 0 rfl
            have rf0 := XR7.out.f 0 rfl
            have r1 := XR7.out.c 1 rfl
            have rf1 := XR7.out.f 1 rfl
            have rz := XR7.out.size
            have a0 := XA7.out.c 0 rfl
            have af0 := XA7.out.f 0 rfl
            have a1 := XA7.out.c 1 rfl
            have af1 := XA7.out.f 1 rfl
            have az := XA7.out.size
            have x0 := XX7.out.c 0 rfl
            have xf0 := XX7.out.f 0 rfl
            have x1 := XX7.out.c 1 rfl
            have xf1 := XX7.out.f 1 rfl
            have xz := XX7.out.size
            go_wp2_with fail
            clear r0 rf0 r1 rf1 rz a0 af0 a1 af1 az x0 xf0 x1 xf1 xz
            refine (one_any 3 p co cap bs k7 sd7 w7 hl (by omega) C7.out).mono ?_
            rintro e w8 ⟨⟨b3, rfl⟩, hD⟩
            obtain ⟨k8, sd8, hk8, hC8, hg8, hsz8⟩ := hD.grew
            have XR8 := hid (XR7.out.grew hg8 (by omega))
            have XA8 := hid (XA7.out.grew hg8 (by omega))
            have XX8 := hid (XX7.out.grew hg8 (by omega))
            have D8 := hid (D7.out.grew hg8 (by omega))
            have C8 := hid hC8
            have hR8 : Grew p w w8 := hR7.trans hg8
            have hz8 : w7.heap.size ≤ w8.heap.size := hg8.size
            clear XR7 XA7 XX7 D7 C7 hD hg8 hC8 hsz8
            cases b3
            · have r0 := XR8.out.c 0 rfl
              have rf0 := XR8.out.f 0 rfl
              have r1 := XR8.out.c 1 rfl
              have rf1 := XR8.out.f 1 rfl
              have rz := XR8.out.size
              have a0 := XA8.out.c 0 rfl
              have af0 := XA8.out.f 0 rfl
              have a1 := XA8.out.c 1 rfl
              have af1 := XA8.out.f 1 rfl
              have az := XA8.out.size
              have x0 := XX8.out.c 0 rfl
              have xf0 := XX8.out.f 0 rfl
              have x1 := XX8.out.c 1 rfl
              have xf1 := XX8.out.f 1 rfl
              have xz := XX8.out.size
              go_upto_region 25 with fail
              clear r0 rf0 r1 rf1 rz a0 af0 a1 af1 az x0 xf0 x1 xf1 xz
              have r0 := XR8.out.c 0 rfl
              have rf0 := XR8.out.f 0 rfl
              have r1 := XR8.out.c 1 rfl
              have rf1 := XR8.out.f 1 rfl
              have rz := XR8.out.size
              have a0 := XA8.out.c 0 rfl
              have af0 := XA8.out.f 0 rfl
              have a1 := XA8.out.c 1 rfl
              have af1 := XA8.out.f 1 rfl
              have az := XA8.out.size
              have x0 := XX8.out.c 0 rfl
              have xf0 := XX8.out.f 0 rfl
              have x1 := XX8.out.c 1 rfl
              have xf1 := XX8.out.f 1 rfl
              have xz := XX8.out.size
              obtain ⟨w9, hV⟩ : ∃ V, V = ((w8.setCell ⟨(w.heap.size + 1), 0, none⟩ (.slice to ts.length tc)).setCell ⟨(w.heap.size + 1), 1, none⟩ (.slice qo q.length qc)) := ⟨_, rfl⟩
              have XR9 := hid (((XR8.out.other (a := ⟨(w.heap.size + 1), 0, none⟩) (by dsimp only; omega) (.slice to ts.length tc)).other (a := ⟨(w.heap.size + 1), 1, none⟩) (by dsimp only; omega) (.slice qo q.length qc)))
              rw [← hV] at XR9
              have XA9 := hid (((XA8.out.set 0 (.slice to ts.length tc)).set 1 (.slice qo q.length qc)))
              rw [← hV] at XA9
              have XX9 := hid (((XX8.out.other (a := ⟨(w.heap.size + 1), 0, none⟩) (by dsimp only; omega) (.slice to ts.length tc)).other (a := ⟨(w.heap.size + 1), 1, none⟩) (by dsimp only; omega) (.slice qo q.length qc)))
              rw [← hV] at XX9
              have D9 := hid (((D8.out.setOff (a := ⟨(w.heap.size + 1), 0, none⟩) (by dsimp only; omega) (.slice to ts.length tc)).setOff (a := ⟨(w.heap.size + 1), 1, none⟩) (by dsimp only; omega) (.slice qo q.length qc)))
              rw [← hV] at D9
              have C9 := hid (((C8.out.other (a := ⟨(w.heap.size + 1), 0, none⟩) (by dsimp only; omega) (.slice to ts.length tc)).other (a := ⟨(w.heap.size + 1), 1, none⟩) (by dsimp only; omega) (.slice qo q.length qc)))
              rw [← hV] at C9
              have hR9 : Grew p w w9 := by rw [hV]; exact ((hR8.set (a := ⟨(w.heap.size + 1), 0, none⟩) (by dsimp only; omega) (.slice to ts.length tc)).set (a := ⟨(w.heap.size + 1), 1, none⟩) (by dsimp only; omega) (.slice qo q.length qc))
              have hz9 : w8.heap.size ≤ w9.heap.size := by rw [hV]; simp
              have H9 := hid hV
              clear hV XR8 XA8 XX8 D8 C8
              go_wp2
              clear r0 rf0 r1 rf1 rz a0 af0 a1 af1 az x0 xf0 x1 xf1 xz
              rw [← H9.out]
              clear H9
              go_roundw
              case rel => exact ⟨m, k8, sd8, to, tc, ts, qo, qc, q, by go_num, by omega, hts, hq, HIR, by omega, XR9, XA9, hid (D9.out.wide (by omega) (by omega)), C9, hR9, by omega⟩
              case measure => simp [intOf] <;> omega
            · have r0 := XR8.out.c 0 rfl
              have rf0 := XR8.out.f 0 rfl
              have r1 := XR8.out.c 1 rfl
              have rf1 := XR8.out.f 1 rfl
              have rz := XR8.out.size
              have a0 := XA8.out.c 0 rfl
              have af0 := XA8.out.f 0 rfl
              have a1 := XA8.out.c 1 rfl
              have af1 := XA8.out.f 1 rfl
              have az := XA8.out.size
              have x0 := XX8.out.c 0 rfl
              have xf0 := XX8.out.f 0 rfl
              have x1 := XX8.out.c 1 rfl
              have xf1 := XX8.out.f 1 rfl
              have xz := XX8.out.size
              go_wp2_with fail
              clear r0 rf0 r1 rf1 rz a0 af0 a1 af1 az x0 xf0 x1 xf1 xz
              refine (stepEnd to tc ts qo qc q w8 (by omega) (by omega) D8.out).mono ?_
              rintro e w9 ⟨⟨vto, vtc, vts, vqo, vqc, vq, cv, rfl, hS1⟩, hb9⟩
              have XR9 := hid (XR8.out.later hb9)
              have XA9 := hid (XA8.out.later hb9)
              have XX9 := hid (XX8.out.later hb9)
              have D9 := hid (D8.out.later hb9)
              have C9 := hid (C8.out.later hb9)
              have hR9 : Grew p w w9 := hR8.trans (Grew.of_below hb9)
              have hz9 : w8.heap.size ≤ w9.heap.size := hb9.size
              clear XR8 XA8 XX8 D8 C8 hb9
              by_cases hc : cv = 0
              · obtain ⟨hS, hE⟩ := hS1 hc
                have E9 := hid hE
                have HS := hid hS
                have hc1 : (cv == 0) = true := by simpa using hc
                have hc2 : decide (cv = 0) = true := by simpa using hc
                clear hc hS hE hS1
                have r0 := XR9.out.c 0 rfl
                have rf0 := XR9.out.f 0 rfl
                have r1 := XR9.out.c 1 rfl
                have rf1 := XR9.out.f 1 rfl
                have rz := XR9.out.size
                have a0 := XA9.out.c 0 rfl
                have af0 := XA9.out.f 0 rfl
                have a1 := XA9.out.c 1 rfl
                have af1 := XA9.out.f 1 rfl
                have az := XA9.out.size
                have x0 := XX9.out.c 0 rfl
                have xf0 := XX9.out.f 0 rfl
                have x1 := XX9.out.c 1 rfl
                have xf1 := XX9.out.f 1 rfl
                have xz := XX9.out.size
                obtain ⟨w10, hV⟩ : ∃ V, V = ((w9.setCell ⟨wr.heap.size, 0, none⟩ (.slice vto vts.length vtc)).setCell ⟨wr.heap.size, 1, none⟩ (.slice vqo vq.length vqc)) := ⟨_, rfl⟩
                have XR10 := hid (((XR9.out.other (a := ⟨wr.heap.size, 0, none⟩) (by dsimp only; omega) (.slice vto vts.length vtc)).other (a := ⟨wr.heap.size, 1, none⟩) (by dsimp only; omega) (.slice vqo vq.length vqc)))
                rw [← hV] at XR10
                have XA10 := hid (((XA9.out.other (a := ⟨wr.heap.size, 0, none⟩) (by dsimp only; omega) (.slice vto vts.length vtc)).other (a := ⟨wr.heap.size, 1, none⟩) (by dsimp only; omega) (.slice vqo vq.length vqc)))
                rw [← hV] at XA10
                have XX10 := hid (((XX9.out.set 0 (.slice vto vts.length vtc)).set 1 (.slice vqo vq.length vqc)))
                rw [← hV] at XX10
                have D10 := hid (((D9.out.setOff (a := ⟨wr.heap.size, 0, none⟩) (by dsimp only; omega) (.slice vto vts.length vtc)).setOff (a := ⟨wr.heap.size, 1, none⟩) (by dsimp only; omega) (.slice vqo vq.length vqc)))
                rw [← hV] at D10
                have E10 := hid (((E9.out.setOff (a := ⟨wr.heap.size, 0, none⟩) (by dsimp only; omega) (.slice vto vts.length vtc)).setOff (a := ⟨wr.heap.size, 1, none⟩) (by dsimp only; omega) (.slice vqo vq.length vqc)))
                rw [← hV] at E10
                have C10 := hid (((C9.out.other (a := ⟨wr.heap.size, 0, none⟩) (by dsimp only; omega) (.slice vto vts.length vtc)).other (a := ⟨wr.heap.size, 1, none⟩) (by dsimp only; omega) (.slice vqo vq.length vqc)))
                rw [← hV] at C10
                have hR10 : Grew p w w10 := by rw [hV]; exact ((hR9.set (a := ⟨wr.heap.size, 0, none⟩) (by dsimp only; omega) (.slice vto vts.length vtc)).set (a := ⟨wr.heap.size, 1, none⟩) (by dsimp only; omega) (.slice vqo vq.length vqc))
                have hz10 : w9.heap.size ≤ w10.heap.size := by rw [hV]; simp
                have H10 := hid hV
                clear hV XR9 XA9 XX9 D9 E9 C9
                go_upto_region 25 with fail
                clear r0 rf0 r1 rf1 rz a0 af0 a1 af1 az x0 xf0 x1 xf1 xz
                rw [← H10.out]
                clear H10
                have r0 := XR10.out.c 0 rfl
                have rf0 := XR10.out.f 0 rfl
                have r1 := XR10.out.c 1 rfl
                have rf1 := XR10.out.f 1 rfl
                have rz := XR10.out.size
                have a0 := XA10.out.c 0 rfl
                have af0 := XA10.out.f 0 rfl
                have a1 := XA10.out.c 1 rfl
                have af1 := XA10.out.f 1 rfl
                have az := XA10.out.size
                have x0 := XX10.out.c 0 rfl
                have xf0 := XX10.out.f 0 rfl
                have x1 := XX10.out.c 1 rfl
                have xf1 := XX10.out.f 1 rfl
                have xz := XX10.out.size
                obtain ⟨w11, hV⟩ : ∃ V, V = ((w10.setCell ⟨(w.heap.size + 1), 0, none⟩ (.slice vto vts.length vtc)).setCell ⟨(w.heap.size + 1), 1, none⟩ (.slice vqo vq.length vqc)) := ⟨_, rfl⟩
                have XR11 := hid (((XR10.out.other (a := ⟨(w.heap.size + 1), 0, none⟩) (by dsimp only; omega) (.slice vto vts.length vtc)).other (a := ⟨(w.heap.size + 1), 1, none⟩) (by dsimp only; omega) (.slice vqo vq.length vqc)))
                rw [← hV] at XR11
                have XA11 := hid (((XA10.out.set 0 (.slice vto vts.length vtc)).set 1 (.slice vqo vq.length vqc)))
                rw [← hV] at XA11
                have XX11 := hid (((XX10.out.other (a := ⟨(w.heap.size + 1), 0, none⟩) (by dsimp only; omega) (.slice vto vts.length vtc)).other (a := ⟨(w.heap.size + 1), 1, none⟩) (by dsimp only; omega) (.slice vqo vq.length vqc)))
                rw [← hV] at XX11
                have D11 := hid (((D10.out.setOff (a := ⟨(w.heap.size + 1), 0, none⟩) (by dsimp only; omega) (.slice vto vts.length vtc)).setOff (a := ⟨(w.heap.size + 1), 1, none⟩) (by dsimp only; omega) (.slice vqo vq.length vqc)))
                rw [← hV] at D11
                have E11 := hid (((E10.out.setOff (a := ⟨(w.heap.size + 1), 0, none⟩) (by dsimp only; omega) (.slice vto vts.length vtc)).setOff (a := ⟨(w.heap.size + 1), 1, none⟩) (by dsimp only; omega) (.slice vqo vq.length vqc)))
                rw [← hV] at E11
                have C11 := hid (((C10.out.other (a := ⟨(w.heap.size + 1), 0, none⟩) (by dsimp only; omega) (.slice vto vts.length vtc)).other (a := ⟨(w.heap.size + 1), 1, none⟩) (by dsimp only; omega) (.slice vqo vq.length vqc)))
                rw [← hV] at C11
                have hR11 : Grew p w w11 := by rw [hV]; exact ((hR10.set (a := ⟨(w.heap.size + 1), 0, none⟩) (by dsimp only; omega) (.slice vto vts.length vtc)).set (a := ⟨(w.heap.size + 1), 1, none⟩) (by dsimp only; omega) (.slice vqo vq.length vqc))
                have hz11 : w10.heap.size ≤ w11.heap.size := by rw [hV]; simp
                have H11 := hid hV
                clear hV XR10 XA10 XX10 D10 E10 C10
                go_wp2
                clear r0 rf0 r1 rf1 rz a0 af0 a1 af1 az x0 xf0 x1 xf1 xz
                rw [← H11.out]
                clear H11
                have S2 := HS.out
                go_roundw
                case rel => exact ⟨m, k8, sd8, vto, vtc, vts, vqo, vqc, vq, by go_num, by omega, S2.2.1, S2.2.2.1, hid S2.2.2.2, by omega, XR11, XA11, hid (E11.out.wide (by omega) (by omega)), C11, hR11, by omega⟩
                case measure => simp [intOf] <;> omega
              · have hc1 : (cv == 0) = false := by simpa using hc
                have hc2 : decide (cv = 0) = false := by simpa using hc
                clear hc hS1
                have r0 := XR9.out.c 0 rfl
                have rf0 := XR9.out.f 0 rfl
                have r1 := XR9.out.c 1 rfl
                have rf1 := XR9.out.f 1 rfl
                have rz := XR9.out.size
                have a0 := XA9.out.c 0 rfl
                have af0 := XA9.out.f 0 rfl
                have a1 := XA9.out.c 1 rfl
                have af1 := XA9.out.f 1 rfl
                have az := XA9.out.size
                have x0 := XX9.out.c 0 rfl
                have xf0 := XX9.out.f 0 rfl
                have x1 := XX9.out.c 1 rfl
                have xf1 := XX9.out.f 1 rfl
                have xz := XX9.out.size
                obtain ⟨w10, hV⟩ : ∃ V, V = ((w9.setCell ⟨wr.heap.size, 0, none⟩ (.slice vto vts.length vtc)).setCell ⟨wr.heap.size, 1, none⟩ (.slice vqo vq.length vqc)) := ⟨_, rfl⟩
                have XR10 := hid (((XR9.out.other (a := ⟨wr.heap.size, 0, none⟩) (by dsimp only; omega) (.slice vto vts.length vtc)).other (a := ⟨wr.heap.size, 1, none⟩) (by dsimp only; omega) (.slice vqo vq.length vqc)))
                rw [← hV] at XR10
                have XA10 := hid (((XA9.out.other (a := ⟨wr.heap.size, 0, none⟩) (by dsimp only; omega) (.slice vto vts.length vtc)).other (a := ⟨wr.heap.size, 1, none⟩) (by dsimp only; omega) (.slice vqo vq.length vqc)))
                rw [← hV] at XA10
                have XX10 := hid (((XX9.out.set 0 (.slice vto vts.length vtc)).set 1 (.slice vqo vq.length vqc)))
                rw [← hV] at XX10
                have D10 := hid (((D9.out.setOff (a := ⟨wr.heap.size, 0, none⟩) (by dsimp only; omega) (.slice vto vts.length vtc)).setOff (a := ⟨wr.heap.size, 1, none⟩) (by dsimp only; omega) (.slice vqo vq.length vqc)))
                rw [← hV] at D10
                have C10 := hid (((C9.out.other (a := ⟨wr.heap.size, 0, none⟩) (by dsimp only; omega) (.slice vto vts.length vtc)).other (a := ⟨wr.heap.size, 1, none⟩) (by dsimp only; omega) (.slice vqo vq.length vqc)))
                rw [← hV] at C10
                have hR10 : Grew p w w10 := by rw [hV]; exact ((hR9.set (a := ⟨wr.heap.size, 0, none⟩) (by dsimp only; omega) (.slice vto vts.length vtc)).set (a := ⟨wr.heap.size, 1, none⟩) (by dsimp only; omega) (.slice vqo vq.length vqc))
                have hz10 : w9.heap.size ≤ w10.heap.size := by rw [hV]; simp
                have H10 := hid hV
                clear hV XR9 XA9 XX9 D9 C9
                go_upto_region 25 with fail
                clear r0 rf0 r1 rf1 rz a0 af0 a1 af1 az x0 xf0 x1 xf1 xz
                rw [← H10.out]
                clear H10
                have r0 := XR10.out.c 0 rfl
                have rf0 := XR10.out.f 0 rfl
                have r1 := XR10.out.c 1 rfl
                have rf1 := XR10.out.f 1 rfl
                have rz := XR10.out.size
                have a0 := XA10.out.c 0 rfl
                have af0 := XA10.out.f 0 rfl
                have a1 := XA10.out.c 1 rfl
                have af1 := XA10.out.f 1 rfl
                have az := XA10.out.size
                have x0 := XX10.out.c 0 rfl
                have xf0 := XX10.out.f 0 rfl
                have x1 := XX10.out.c 1 rfl
                have xf1 := XX10.out.f 1 rfl
                have xz := XX10.out.size
                go_wp2
                clear r0 rf0 r1 rf1 rz a0 af0 a1 af1 az x0 xf0 x1 xf1 xz
                go_roundw
                case rel => exact ⟨m, k8, sd8, to, tc, ts, qo, qc, q, by go_num, by omega, hts, hq, HIR, by omega, XR10, XA10, hid (D10.out.wide (by omega) (by omega)), C10, hR10, by omega⟩
                case measure => simp [intOf] <;> omega
        | zero =>
          have r0 := XR5.out.c 0 rfl
          have rf0 := XR5.out.f 0 rfl
          have r1 := XR5.out.c 1 rfl
          have rf1 := XR5.out.f 1 rfl
          have rz := XR5.out.size
          have a0 := XA5.out.c 0 rfl
          have af0 := XA5.out.f 0 rfl
          have a1 := XA5.out.c 1 rfl
          have af1 := XA5.out.f 1 rfl
          have az := XA5.out.size
          go_wp2_with fail
          clear r0 rf0 r1 rf1 rz a0 af0 a1 af1 az
          refine (pick_any 40 p co cap bs k0 sd0 wr hl (by omega) C5.out).mono ?_
          rintro e w6 ⟨⟨y, rfl, h0y, h1y⟩, hD⟩
          obtain ⟨k6, sd6, hk6, hC6, hg6, hsz6⟩ := hD.grew
          have XR6 := hid (XR5.out.grew hg6 (by omega))
          have XA6 := hid (XA5.out.grew hg6 (by omega))
          have D6 := hid (D5.out.grew hg6 (by omega))
          have C6 := hid hC6
          have hR6 : Grew p w w6 := hR5.trans hg6
          have hz6 : wr.heap.size ≤ w6.heap.size := hg6.size
          clear XR5 XA5 D5 C5 hD hg6 hC6 hsz6
          have hy3 : y = 0 ∨ y = 1 ∨ y = 2 ∨ (y ≠ 0 ∧ y ≠ 1 ∧ y ≠ 2) := by omega
          clear h0y h1y
          rcases hy3 with rfl | rfl | rfl | ⟨y0, y1, y2⟩
          · have r0 := XR6.out.c 0 rfl
            have rf0 := XR6.out.f 0 rfl
            have r1 := XR6.out.c 1 rfl
            have rf1 := XR6.out.f 1 rfl
            have rz := XR6.out.size
            have a0 := XA6.out.c 0 rfl
            have af0 := XA6.out.f 0 rfl
            have a1 := XA6.out.c 1 rfl
            have af1 := XA6.out.f 1 rfl
            have az := XA6.out.size
            go_wp2
            have PD : w6.drew.cell? ⟨(w.heap.size + 1), 1, none⟩ = some (.slice qo q.length qc) := a1
            go_region_law (first
                | (refine appQ (w7.alloc (.cells #[.int .i64 (IntKind.i64.wrap (z - 1))] 3)) qo qc q Dl.out (by rfl) (.tmp 78) (.tmp 82) (by rfl) (by rfl) (by simp <;> omega) w7.heap.size (IntKind.i64.wrap (z - 1)) (by rfl) _ HN.out (by omega) ?_; intro qo3 qc3 w8 hB hD3; obtain ⟨zs, hzs⟩ : ∃ zs, zs = q ++ [(IntKind.i64.wrap (z - 1))] := ⟨_, rfl⟩; have hzl : zs.length ≤ 32 := (by rw [hzs]; simp <;> omega); rw [← hzs] at hD3 ⊢; clear hzs; have hz8 : w7.heap.size + 1 ≤ w8.heap.size := (by have := hB.size; simpa using this); have XR8 := hid (XRl.out.below hB (by omega)); have XA8 := hid (XAl.out.below hB (by omega)); have D8 := hid hD3; have C8 := hid (Cl.out.below hB (by omega)); have hR8 := hRl.of_below2 hB (by omega); have P8 : w8.cell? ⟨(w.heap.size + 1), 1, none⟩ = some (.slice qo q.length qc) := XA8.out.c 1 rfl; have rg0 := XR8.out.c 0 rfl; have rh0 := XR8.out.f 0 rfl; have rg1 := XR8.out.c 1 rfl; have rh1 := XR8.out.f 1 rfl; have ag0 := XA8.out.c 0 rfl; have ah0 := XA8.out.f 0 rfl; have ag1 := XA8.out.c 1 rfl; have ah1 := XA8.out.f 1 rfl; clear hB hD3)
                | (go_simp; go_at_call 31; refine (pick_any 4 p co cap bs k6 sd6 w6.drew hl (by omega) C6.out.drew).mono ?_; rintro e w7 ⟨⟨z, rfl, h0z, h1z⟩, hD⟩; obtain ⟨k7, sd7, hk7, hC, hg0, hsz⟩ := hD.grew; have hg : Grew p w6 w7 := hg0.from; have XR7 := hid ((XR6.out).grew hg (by omega)); have XA7 := hid ((XA6.out).grew hg (by omega)); have D7 := hid ((D6.out).grew hg (by omega)); have C7 := hid hC; have hR7 : Grew p w w7 := hR6.trans hg; have hz7 : w6.heap.size ≤ w7.heap.size := hg.size; have P7 : w7.cell? ⟨(w.heap.size + 1), 1, none⟩ = some (.slice qo q.length qc) := XA7.out.c 1 rfl; have XRl := hid (XR7.out.alloc (.cells #[.int .i64 (IntKind.i64.wrap (z - 1))] 3)); have XAl := hid (XA7.out.alloc (.cells #[.int .i64 (IntKind.i64.wrap (z - 1))] 3)); have Dl := hid (D7.out.later (below1 w7 (.cells #[.int .i64 (IntKind.i64.wrap (z - 1))] 3))); have Cl := hid (C7.out.later (below1 w7 (.cells #[.int .i64 (IntKind.i64.wrap (z - 1))] 3))); have hRl : Grew p w (w7.alloc (.cells #[.int .i64 (IntKind.i64.wrap (z - 1))] 3)) := hR7.trans (Grew.alloc p _ _); have HN : Hid (kI.In (w7.heap.size + 1) (w7.alloc (.cells #[.int .i64 (IntKind.i64.wrap (z - 1))] 3)) (some ⟨w7.heap.size, 0, none⟩) [(IntKind.i64.wrap (z - 1))]) := int_one (by omega) (by simp); have PL : (w7.alloc (.cells #[.int .i64 (IntKind.i64.wrap (z - 1))] 3)).cell? ⟨(w.heap.size + 1), 1, none⟩ = some (.slice qo q.length qc) := XAl.out.c 1 rfl; clear hD hC hg0 hg hsz))
            all_goals
              obtain ⟨w9, hV⟩ : ∃ V, V = (w8.setCell ⟨(w.heap.size + 1), 1, none⟩ (.slice qo3 zs.length qc3)) := ⟨_, rfl⟩
              have XR9 := hid ((XR8.out.other (a := ⟨(w.heap.size + 1), 1, none⟩) (by dsimp only; omega) (.slice qo3 zs.length qc3)))
              rw [← hV] at XR9
              have XA9 := hid ((XA8.out.set 1 (.slice qo3 zs.length qc3)))
              rw [← hV] at XA9
              have D9 := hid ((D8.out.setOff (a := ⟨(w.heap.size + 1), 1, none⟩) (by dsimp only; omega) (.slice qo3 zs.length qc3)))
              rw [← hV] at D9
              have C9 := hid ((C8.out.other (a := ⟨(w.heap.size + 1), 1, none⟩) (by dsimp only; omega) (.slice qo3 zs.length qc3)))
              rw [← hV] at C9
              have hR9 : Grew p w w9 := by rw [hV]; exact (hR8.set (a := ⟨(w.heap.size + 1), 1, none⟩) (by dsimp only; omega) (.slice qo3 zs.length qc3))
              have hz9 : w8.heap.size ≤ w9.heap.size := by rw [hV]; simp
              have H9 := hid hV
              clear hV XR8 XA8 D8 C8
              go_upto_region 35 with fail
              clear rg0 rh0 rg1 rh1 ag0 ah0 ag1 ah1
              rw [← H9.out]
              clear H9
              have r0 := XR9.out.c 0 rfl
              have rf0 := XR9.out.f 0 rfl
              have r1 := XR9.out.c 1 rfl
              have rf1 := XR9.out.f 1 rfl
              have rz := XR9.out.size
              have a0 := XA9.out.c 0 rfl
              have af0 := XA9.out.f 0 rfl
              have a1 := XA9.out.c 1 rfl
              have af1 := XA9.out.f 1 rfl
              have az := XA9.out.size
              obtain ⟨w10, hV⟩ : ∃ V, V = ((w9.setCell ⟨w.heap.size, 0, none⟩ (.slice to ts.length tc)).setCell ⟨w.heap.size, 1, none⟩ (.slice qo3 zs.length qc3)) := ⟨_, rfl⟩
              have XR10 := hid (((XR9.out.set 0 (.slice to ts.length tc)).set 1 (.slice qo3 zs.length qc3)))
              rw [← hV] at XR10
              have XA10 := hid (((XA9.out.other (a := ⟨w.heap.size, 0, none⟩) (by dsimp only; omega) (.slice to ts.length tc)).other (a := ⟨w.heap.size, 1, none⟩) (by dsimp only; omega) (.slice qo3 zs.length qc3)))
              rw [← hV] at XA10
              have D10 := hid (((D9.out.setOff (a := ⟨w.heap.size, 0, none⟩) (by dsimp only; omega) (.slice to ts.length tc)).setOff (a := ⟨w.heap.size, 1, none⟩) (by dsimp only; omega) (.slice qo3 zs.length qc3)))
              rw [← hV] at D10
              have C10 := hid (((C9.out.other (a := ⟨w.heap.size, 0, none⟩) (by dsimp only; omega) (.slice to ts.length tc)).other (a := ⟨w.heap.size, 1, none⟩) (by dsimp only; omega) (.slice qo3 zs.length qc3)))
              rw [← hV] at C10
              have hR10 : Grew p w w10 := by rw [hV]; exact ((hR9.set (a := ⟨w.heap.size, 0, none⟩) (by dsimp only; omega) (.slice to ts.length tc)).set (a := ⟨w.heap.size, 1, none⟩) (by dsimp only; omega) (.slice qo3 zs.length qc3))
              have hz10 : w9.heap.size ≤ w10.heap.size := by rw [hV]; simp
              have H10 := hid hV
              clear hV XR9 XA9 D9 C9
              go_wp2
              clear r0 rf0 r1 rf1 rz a0 af0 a1 af1 az
              rw [← H10.out]
              clear H10
              have r0 := XR10.out.c 0 rfl
              have rf0 := XR10.out.f 0 rfl
              have r1 := XR10.out.c 1 rfl
              have rf1 := XR10.out.f 1 rfl
              have rz := XR10.out.size
              have a0 := XA10.out.c 0 rfl
              have af0 := XA10.out.f 0 rfl
              have a1 := XA10.out.c 1 rfl
              have af1 := XA10.out.f 1 rfl
              have az := XA10.out.size
              refine bodyPost_ret (v := .agg #[.slice to ts.length tc, .slice qo3 zs.length qc3]) (by simp [results, Try.results11, go_sem, r0, r1]) rfl ?_
              exact ⟨⟨to, tc, ts, qo3, qc3, zs, rfl, ⟨by omega, by omega⟩, D10.out.wide (by omega) (by omega)⟩, k7, sd7, by omega, C10.out, hR10⟩
          · have r0 := XR6.out.c 0 rfl
            have rf0 := XR6.out.f 0 rfl
            have r1 := XR6.out.c 1 rfl
            have rf1 := XR6.out.f 1 rfl
            have rz := XR6.out.size
            have a0 := XA6.out.c 0 rfl
            have af0 := XA6.out.f 0 rfl
            have a1 := XA6.out.c 1 rfl
            have af1 := XA6.out.f 1 rfl
            have az := XA6.out.size
            go_wp2
            have PD : w6.drew.cell? ⟨(w.heap.size + 1), 0, none⟩ = some (.slice to ts.length tc) := a0
            have PB : (w6.alloc (.cells #[.int .i64 0, .int .i64 1, .int .i64 (-1), .int .i64 1000001] 3)).drew.cell? ⟨(w.heap.size + 1), 0, none⟩ = some (.slice to ts.length tc) := (XA6.out.alloc (.cells #[.int .i64 0, .int .i64 1, .int .i64 (-1), .int .i64 1000001] 3)).c 0 rfl
            go_region_law (first
                | (refine Kind.appS kT_ok (w8.alloc (.cells #[.int .i64 z, .int .i64 z2] 34)) (by rfl) (.tmp 88) (.tmp 95) (by rfl) ((w.heap.size + 1) + 1) (.slice to ts.length tc) ts (by rfl) Dl.out.1.1 (by simp <;> omega) (some ⟨w8.heap.size, 0, none⟩) [(z, z2)] 1 1 (by rfl) rfl (by simp) _ HN.out (by simp <;> omega) ?_; intro v' w9 hO hB hG hn; obtain ⟨zs, hzs⟩ : ∃ zs, zs = ts ++ [(z, z2)] := ⟨_, rfl⟩; have hzl : zs.length ≤ 31 := (by rw [hzs]; simp <;> omega); rw [← hzs] at hO; clear hzs; obtain ⟨to3, tc3, rfl, hO3⟩ := hO.as; have hD3 : BW ((w.heap.size + 1) + 1) w9.heap.size w9 to3 tc3 zs qo qc q := ⟨Kind.RW.of hO3, Dl.out.2.elim .inl fun h => .inr (Kind.RW.of (rw_grown (by decide) h Dl.out.1.1 hG).1)⟩; clear hO hO3 hG hn; have hz9 : w8.heap.size + 1 ≤ w9.heap.size := (by have := hB.size; simpa using this); have XR9 := hid (XRl.out.below hB (by omega)); have XA9 := hid (XAl.out.below hB (by omega)); have D9 := hid hD3; have C9 := hid (Cl.out.below hB (by omega)); have hR9 := hRl.of_below2 hB (by omega); have P9 : w9.cell? ⟨(w.heap.size + 1), 0, none⟩ = some (.slice to ts.length tc) := XA9.out.c 0 rfl; have rg0 := XR9.out.c 0 rfl; have rh0 := XR9.out.f 0 rfl; have rg1 := XR9.out.c 1 rfl; have rh1 := XR9.out.f 1 rfl; have ag0 := XA9.out.c 0 rfl; have ah0 := XA9.out.f 0 rfl; have ag1 := XA9.out.c 1 rfl; have ah1 := XA9.out.f 1 rfl; clear hB hD3)
                | (go_simp; go_at_call 36; have _g := XUB; refine (among_in [0, 1, -1, 1000001] w6.heap.size p co cap bs k7 sd7 w7 hl (by omega) C7.out (by simp) (by simp) XUB.out (by omega)).mono ?_; rintro e w8 ⟨⟨z2, _, rfl⟩, hD⟩; obtain ⟨k8, sd8, hk8, hC, hg0, hsz⟩ := hD.grew; have hg : Grew p w7 w8 := hg0; have XR8 := hid (XR7.out.grew hg (by omega)); have XA8 := hid (XA7.out.grew hg (by omega)); have D8 := hid (D7.out.grew hg (by omega)); have C8 := hid hC; have hR8 : Grew p w w8 := hR7.trans hg; have hz8 : w7.heap.size ≤ w8.heap.size := hg.size; have P8 : w8.cell? ⟨(w.heap.size + 1), 0, none⟩ = some (.slice to ts.length tc) := XA8.out.c 0 rfl; have XRl := hid (XR8.out.alloc (.cells #[.int .i64 z, .int .i64 z2] 34)); have XAl := hid (XA8.out.alloc (.cells #[.int .i64 z, .int .i64 z2] 34)); have Dl := hid (D8.out.later (below1 w8 (.cells #[.int .i64 z, .int .i64 z2] 34))); have Cl := hid (C8.out.later (below1 w8 (.cells #[.int .i64 z, .int .i64 z2] 34))); have hRl : Grew p w (w8.alloc (.cells #[.int .i64 z, .int .i64 z2] 34)) := hR8.trans (Grew.alloc p _ _); have HN : Hid (kT.In (w8.heap.size + 1) (w8.alloc (.cells #[.int .i64 z, .int .i64 z2] 34)) (some ⟨w8.heap.size, 0, none⟩) [(z, z2)]) := kT_one (by omega) (by simp) (by simp); have PL : (w8.alloc (.cells #[.int .i64 z, .int .i64 z2] 34)).cell? ⟨(w.heap.size + 1), 0, none⟩ = some (.slice to ts.length tc) := XAl.out.c 0 rfl; clear hD hC hg0 hg hsz)
                | (go_simp; go_at_call 36; have _g := hz7; refine (among_in [0, 1, -1, 1000001] w7.heap.size p co cap bs k7 sd7 (w7.alloc (.cells #[.int .i64 0, .int .i64 1, .int .i64 (-1), .int .i64 1000001] 3)) hl (by omega) (C7.out.later (below1 w7 (.cells #[.int .i64 0, .int .i64 1, .int .i64 (-1), .int .i64 1000001] 3))) (by simp) (by simp) XU.out (by omega)).mono ?_; rintro e w8 ⟨⟨z2, _, rfl⟩, hD⟩; obtain ⟨k8, sd8, hk8, hC, hg0, hsz⟩ := hD.grew; have hg : Grew p (w7.alloc (.cells #[.int .i64 0, .int .i64 1, .int .i64 (-1), .int .i64 1000001] 3)) w8 := hg0; have XR8 := hid ((XR7.out.alloc (.cells #[.int .i64 0, .int .i64 1, .int .i64 (-1), .int .i64 1000001] 3)).grew hg (by omega)); have XA8 := hid ((XA7.out.alloc (.cells #[.int .i64 0, .int .i64 1, .int .i64 (-1), .int .i64 1000001] 3)).grew hg (by omega)); have D8 := hid ((D7.out.later (below1 w7 (.cells #[.int .i64 0, .int .i64 1, .int .i64 (-1), .int .i64 1000001] 3))).grew hg (by omega)); have C8 := hid hC; have hR8 : Grew p w w8 := (hR7.trans (Grew.alloc p w7 (.cells #[.int .i64 0, .int .i64 1, .int .i64 (-1), .int .i64 1000001] 3))).trans hg; have hz8 : w7.heap.size + 1 ≤ w8.heap.size := (by have := hg.size; simpa using this); have P8 : w8.cell? ⟨(w.heap.size + 1), 0, none⟩ = some (.slice to ts.length tc) := XA8.out.c 0 rfl; have XRl := hid (XR8.out.alloc (.cells #[.int .i64 z, .int .i64 z2] 34)); have XAl := hid (XA8.out.alloc (.cells #[.int .i64 z, .int .i64 z2] 34)); have Dl := hid (D8.out.later (below1 w8 (.cells #[.int .i64 z, .int .i64 z2] 34))); have Cl := hid (C8.out.later (below1 w8 (.cells #[.int .i64 z, .int .i64 z2] 34))); have hRl : Grew p w (w8.alloc (.cells #[.int .i64 z, .int .i64 z2] 34)) := hR8.trans (Grew.alloc p _ _); have HN : Hid (kT.In (w8.heap.size + 1) (w8.alloc (.cells #[.int .i64 z, .int .i64 z2] 34)) (some ⟨w8.heap.size, 0, none⟩) [(z, z2)]) := kT_one (by omega) (by simp) (by simp); have PL : (w8.alloc (.cells #[.int .i64 z, .int .i64 z2] 34)).cell? ⟨(w.heap.size + 1), 0, none⟩ = some (.slice to ts.length tc) := XAl.out.c 0 rfl; clear hD hC hg0 hg hsz)
                | (go_simp; go_at_call 31; refine (pick_any 6 p co cap bs k6 sd6 (w6.alloc (.cells #[.int .i64 0, .int .i64 1, .int .i64 (-1), .int .i64 1000001] 3)).drew hl (by omega) (C6.out.later (below1 w6 (.cells #[.int .i64 0, .int .i64 1, .int .i64 (-1), .int .i64 1000001] 3))).drew).mono ?_; rintro e w7 ⟨⟨z, rfl, h0z, h1z⟩, hD⟩; obtain ⟨k7, sd7, hk7, hC, hg0, hsz⟩ := hD.grew; have hg : Grew p (w6.alloc (.cells #[.int .i64 0, .int .i64 1, .int .i64 (-1), .int .i64 1000001] 3)) w7 := hg0.from; have XR7 := hid ((XR6.out.alloc (.cells #[.int .i64 0, .int .i64 1, .int .i64 (-1), .int .i64 1000001] 3)).grew hg (by omega)); have XA7 := hid ((XA6.out.alloc (.cells #[.int .i64 0, .int .i64 1, .int .i64 (-1), .int .i64 1000001] 3)).grew hg (by omega)); have D7 := hid ((D6.out.later (below1 w6 (.cells #[.int .i64 0, .int .i64 1, .int .i64 (-1), .int .i64 1000001] 3))).grew hg (by omega)); have C7 := hid hC; have hR7 : Grew p w w7 := (hR6.trans (Grew.alloc p w6 (.cells #[.int .i64 0, .int .i64 1, .int .i64 (-1), .int .i64 1000001] 3))).trans hg; have hz7 : w6.heap.size + 1 ≤ w7.heap.size := (by have := hg.size; simpa using this); have P7 : w7.cell? ⟨(w.heap.size + 1), 0, none⟩ = some (.slice to ts.length tc) := XA7.out.c 0 rfl; have XUB : Hid (Bx w7 w6.heap.size [.int .i64 0, .int .i64 1, .int .i64 (-1), .int .i64 1000001]) := hid ((Bx.new (w := w6) [.int .i64 0, .int .i64 1, .int .i64 (-1), .int .i64 1000001] _ rfl).grew hg (by omega)); clear hD hC hg0 hg hsz)
                | (go_simp; go_at_call 31; refine (pick_any 6 p co cap bs k6 sd6 w6.drew hl (by omega) C6.out.drew).mono ?_; rintro e w7 ⟨⟨z, rfl, h0z, h1z⟩, hD⟩; obtain ⟨k7, sd7, hk7, hC, hg0, hsz⟩ := hD.grew; have hg : Grew p w6 w7 := hg0.from; have XR7 := hid ((XR6.out).grew hg (by omega)); have XA7 := hid ((XA6.out).grew hg (by omega)); have D7 := hid ((D6.out).grew hg (by omega)); have C7 := hid hC; have hR7 : Grew p w w7 := hR6.trans hg; have hz7 : w6.heap.size ≤ w7.heap.size := hg.size; have P7 : w7.cell? ⟨(w.heap.size + 1), 0, none⟩ = some (.slice to ts.length tc) := XA7.out.c 0 rfl; have XU : Hid (Bx (w7.alloc (.cells #[.int .i64 0, .int .i64 1, .int .i64 (-1), .int .i64 1000001] 3)) w7.heap.size [.int .i64 0, .int .i64 1, .int .i64 (-1), .int .i64 1000001]) := hid (Bx.new (w := w7) [.int .i64 0, .int .i64 1, .int .i64 (-1), .int .i64 1000001] _ rfl); have PU : (w7.alloc (.cells #[.int .i64 0, .int .i64 1, .int .i64 (-1), .int .i64 1000001] 3)).cell? ⟨(w.heap.size + 1), 0, none⟩ = some (.slice to ts.length tc) := (XA7.out.alloc (.cells #[.int .i64 0, .int .i64 1, .int .i64 (-1), .int .i64 1000001] 3)).c 0 rfl; clear hD hC hg0 hg hsz))
            all_goals
              obtain ⟨w10, hV⟩ : ∃ V, V = (w9.setCell ⟨(w.heap.size + 1), 0, none⟩ (.slice to3 zs.length tc3)) := ⟨_, rfl⟩
              have XR10 := hid ((XR9.out.other (a := ⟨(w.heap.size + 1), 0, none⟩) (by dsimp only; omega) (.slice to3 zs.length tc3)))
              rw [← hV] at XR10
              have XA10 := hid ((XA9.out.set 0 (.slice to3 zs.length tc3)))
              rw [← hV] at XA10
              have D10 := hid ((D9.out.setOff (a := ⟨(w.heap.size + 1), 0, none⟩) (by dsimp only; omega) (.slice to3 zs.length tc3)))
              rw [← hV] at D10
              have C10 := hid ((C9.out.other (a := ⟨(w.heap.size + 1), 0, none⟩) (by dsimp only; omega) (.slice to3 zs.length tc3)))
              rw [← hV] at C10
              have hR10 : Grew p w w10 := by rw [hV]; exact (hR9.set (a := ⟨(w.heap.size + 1), 0, none⟩) (by dsimp only; omega) (.slice to3 zs.length tc3))
              have hz10 : w9.heap.size ≤ w10.heap.size := by rw [hV]; simp
              have H10 := hid hV
              clear hV XR9 XA9 D9 C9
              go_upto_region 35 with fail
              clear rg0 rh0 rg1 rh1 ag0 ah0 ag1 ah1
              rw [← H10.out]
              clear H10
              have r0 := XR10.out.c 0 rfl
              have rf0 := XR10.out.f 0 rfl
              have r1 := XR10.out.c 1 rfl
              have rf1 := XR10.out.f 1 rfl
              have rz := XR10.out.size
              have a0 := XA10.out.c 0 rfl
              have af0 := XA10.out.f 0 rfl
              have a1 := XA10.out.c 1 rfl
              have af1 := XA10.out.f 1 rfl
              have az := XA10.out.size
              obtain ⟨w11, hV⟩ : ∃ V, V = ((w10.setCell ⟨w.heap.size, 0, none⟩ (.slice to3 zs.length tc3)).setCell ⟨w.heap.size, 1, none⟩ (.slice qo q.length qc)) := ⟨_, rfl⟩
              have XR11 := hid (((XR10.out.set 0 (.slice to3 zs.length tc3)).set 1 (.slice qo q.length qc)))
              rw [← hV] at XR11
              have XA11 := hid (((XA10.out.other (a := ⟨w.heap.size, 0, none⟩) (by dsimp only; omega) (.slice to3 zs.length tc3)).other (a := ⟨w.heap.size, 1, none⟩) (by dsimp only; omega) (.slice qo q.length qc)))
              rw [← hV] at XA11
              have D11 := hid (((D10.out.setOff (a := ⟨w.heap.size, 0, none⟩) (by dsimp only; omega) (.slice to3 zs.length tc3)).setOff (a := ⟨w.heap.size, 1, none⟩) (by dsimp only; omega) (.slice qo q.length qc)))
              rw [← hV] at D11
              have C11 := hid (((C10.out.other (a := ⟨w.heap.size, 0, none⟩) (by dsimp only; omega) (.slice to3 zs.length tc3)).other (a := ⟨w.heap.size, 1, none⟩) (by dsimp only; omega) (.slice qo q.length qc)))
              rw [← hV] at C11
              have hR11 : Grew p w w11 := by rw [hV]; exact ((hR10.set (a := ⟨w.heap.size, 0, none⟩) (by dsimp only; omega) (.slice to3 zs.length tc3)).set (a := ⟨w.heap.size, 1, none⟩) (by dsimp only; omega) (.slice qo q.length qc))
              have hz11 : w10.heap.size ≤ w11.heap.size := by rw [hV]; simp
              have H11 := hid hV
              clear hV XR10 XA10 D10 C10
              go_wp2
              clear r0 rf0 r1 rf1 rz a0 af0 a1 af1 az
              rw [← H11.out]
              clear H11
              have r0 := XR11.out.c 0 rfl
              have rf0 := XR11.out.f 0 rfl
              have r1 := XR11.out.c 1 rfl
              have rf1 := XR11.out.f 1 rfl
              have rz := XR11.out.size
              have a0 := XA11.out.c 0 rfl
              have af0 := XA11.out.f 0 rfl
              have a1 := XA11.out.c 1 rfl
              have af1 := XA11.out.f 1 rfl
              have az := XA11.out.size
              refine bodyPost_ret (v := .agg #[.slice to3 zs.length tc3, .slice qo q.length qc]) (by simp [results, Try.results11, go_sem, r0, r1]) rfl ?_
              exact ⟨⟨to3, tc3, zs, qo, qc, q, rfl, ⟨by omega, by omega⟩, D11.out.wide (by omega) (by omega)⟩, k8, sd8, by omega, C11.out, hR11⟩
          · by_cases hq0 : q.length = 0
            · have hq1 : decide ((0 : Int) < (q.length : Int)) = false := by rw [decide_eq_false_iff_not]; omega
              obtain rfl : q = [] := List.length_eq_zero_iff.1 hq0
              clear hq0 hq1
              have XB : Hid (Bx w6 (w.heap.size + 1) [.slice to ts.length tc, .slice qo 0 qc]) := XA6
              clear XA6
              have XA6 := XB
              clear XB
              have r0 := XR6.out.c 0 rfl
              have rf0 := XR6.out.f 0 rfl
              have r1 := XR6.out.c 1 rfl
              have rf1 := XR6.out.f 1 rfl
              have rz := XR6.out.size
              have a0 := XA6.out.c 0 rfl
              have af0 := XA6.out.f 0 rfl
              have a1 := XA6.out.c 1 rfl
              have af1 := XA6.out.f 1 rfl
              have az := XA6.out.size
              go_upto_region 35 with fail
              clear r0 rf0 r1 rf1 rz a0 af0 a1 af1 az
              have r0 := XR6.out.c 0 rfl
              have rf0 := XR6.out.f 0 rfl
              have r1 := XR6.out.c 1 rfl
              have rf1 := XR6.out.f 1 rfl
              have rz := XR6.out.size
              have a0 := XA6.out.c 0 rfl
              have af0 := XA6.out.f 0 rfl
              have a1 := XA6.out.c 1 rfl
              have af1 := XA6.out.f 1 rfl
              have az := XA6.out.size
              obtain ⟨w7, hV⟩ : ∃ V, V = ((w6.setCell ⟨w.heap.size, 0, none⟩ (.slice to ts.length tc)).setCell ⟨w.heap.size, 1, none⟩ (.slice qo 0 qc)) := ⟨_, rfl⟩
              have XR7 := hid (((XR6.out.set 0 (.slice to ts.length tc)).set 1 (.slice qo 0 qc)))
              rw [← hV] at XR7
              have XA7 := hid (((XA6.out.other (a := ⟨w.heap.size, 0, none⟩) (by dsimp only; omega) (.slice to ts.length tc)).other (a := ⟨w.heap.size, 1, none⟩) (by dsimp only; omega) (.slice qo 0 qc)))
              rw [← hV] at XA7
              have D7 := hid (((D6.out.setOff (a := ⟨w.heap.size, 0, none⟩) (by dsimp only; omega) (.slice to ts.length tc)).setOff (a := ⟨w.heap.size, 1, none⟩) (by dsimp only; omega) (.slice qo 0 qc)))
              rw [← hV] at D7
              have C7 := hid (((C6.out.other (a := ⟨w.heap.size, 0, none⟩) (by dsimp only; omega) (.slice to ts.length tc)).other (a := ⟨w.heap.size, 1, none⟩) (by dsimp only; omega) (.slice qo 0 qc)))
              rw [← hV] at C7
              have hR7 : Grew p w w7 := by rw [hV]; exact ((hR6.set (a := ⟨w.heap.size, 0, none⟩) (by dsimp only; omega) (.slice to ts.length tc)).set (a := ⟨w.heap.size, 1, none⟩) (by dsimp only; omega) (.slice qo 0 qc))
              have hz7 : w6.heap.size ≤ w7.heap.size := by rw [hV]; simp
              have H7 := hid hV
              clear hV XR6 XA6 D6 C6
              go_wp2
              clear r0 rf0 r1 rf1 rz a0 af0 a1 af1 az
              rw [← H7.out]
              clear H7
              have r0 := XR7.out.c 0 rfl
              have rf0 := XR7.out.f 0 rfl
              have r1 := XR7.out.c 1 rfl
              have rf1 := XR7.out.f 1 rfl
              have rz := XR7.out.size
              have a0 := XA7.out.c 0 rfl
              have af0 := XA7.out.f 0 rfl
              have a1 := XA7.out.c 1 rfl
              have af1 := XA7.out.f 1 rfl
              have az := XA7.out.size
              refine bodyPost_ret (v := .agg #[.slice to ts.length tc, .slice qo 0 qc]) (by simp [results, Try.results11, go_sem, r0, r1]) rfl ?_
              exact ⟨⟨to, tc, ts, qo, qc, [], rfl, ⟨by omega, by omega⟩, D7.out.wide (by omega) (by omega)⟩, k6, sd6, by omega, C7.out, hR7⟩
            · have hq1 : decide ((0 : Int) < (q.length : Int)) = true := by rw [decide_eq_true_eq]; omega
              have DD := D6.out
              obtain ⟨qb, qf, rfl, hqb, hqs⟩ := ints_at DD.ints (show 0 < q.length by omega)
              obtain ⟨x, hx⟩ : ∃ x, x = el q 0 := ⟨_, rfl⟩
              have hq2 := hqs 0 (by omega)
              rw [← hx, Nat.add_zero] at hq2
              have hxi : 0 ≤ x ∧ x < (ts.length : Int) := HIR.out x (by rw [hx]; exact el_mem (by omega))
              obtain ⟨xn, rfl⟩ : ∃ n : Nat, x = n := ⟨x.toNat, by omega⟩
              clear hx hqs
              obtain ⟨g, tg1, tg2, tg3, tg4, tg5, tg6, tg7⟩ := tasks_pass DD (show 0 < ts.length by omega)
              subst tg1
              have tc1 := tg5 xn (by omega)
              have tf1 := tg6 (xn * 2 + 1)
              have hI1 : (xn : Int) < (ts.length : Int) := by omega
              have hI2 : (0 : Int) ≤ (xn : Int) := by omega
              have hI3 : (0 : Int) < (q.length : Int) := by omega
              have TP := hid (tg7 xn 1000000 (by omega))
              clear tg5 tg6 tg7 DD
              have r0 := XR6.out.c 0 rfl
              have rf0 := XR6.out.f 0 rfl
              have r1 := XR6.out.c 1 rfl
              have rf1 := XR6.out.f 1 rfl
              have rz := XR6.out.size
              have a0 := XA6.out.c 0 rfl
              have af0 := XA6.out.f 0 rfl
              have a1 := XA6.out.c 1 rfl
              have af1 := XA6.out.f 1 rfl
              have az := XA6.out.size
              have PD0 : w6.drew.cell? ⟨(w.heap.size + 1), 0, none⟩ = some (.slice (some ⟨g, 0, none⟩) ts.length tc) := a0
              have PD1 : w6.drew.cell? ⟨(w.heap.size + 1), 1, none⟩ = some (.slice (some ⟨qb, qf, none⟩) q.length qc) := a1
              go_wp2
              go_region
              clear r0 rf0 r1 rf1 rz a0 af0 a1 af1 az
              clear PD0 PD1 tc1 tf1 hq2
              obtain ⟨w7, hV⟩ : ∃ V, V = (w6.setCell ⟨g, xn * 2 + 1, none⟩ (.int .i64 1000000)).drew := ⟨_, rfl⟩
              have XR7 : Hid (Bx w7 w.heap.size [.slice none 0 0, .slice none 0 0]) := by rw [hV]; exact hid (Bx.drew (XR6.out.other (a := ⟨g, xn * 2 + 1, none⟩) (by dsimp only; omega) (.int .i64 1000000)))
              have XA7 : Hid (Bx w7 (w.heap.size + 1) [.slice (some ⟨g, 0, none⟩) ts.length tc, .slice (some ⟨qb, qf, none⟩) q.length qc]) := by rw [hV]; exact hid (Bx.drew (XA6.out.other (a := ⟨g, xn * 2 + 1, none⟩) (by dsimp only; omega) (.int .i64 1000000)))
              have C7 : Hid (Cur w7 p co cap bs k6 sd6) := by rw [hV]; exact hid (Cur.drew (C6.out.other (a := ⟨g, xn * 2 + 1, none⟩) (by dsimp only; omega) (.int .i64 1000000)))
              have hR7 : Grew p w w7 := by rw [hV]; have h := Grew.set (a := ⟨g, xn * 2 + 1, none⟩) hR6 (by dsimp only; omega) (.int .i64 1000000); exact ⟨h.os, h.tape, h.output, h.size, h.block⟩
              have hz7 : w6.heap.size ≤ w7.heap.size := by rw [hV]; simp
              have hl31 : (ts.set xn ((ts[xn]?.getD (0, 0)).1, 1000000)).length ≤ 31 := by simp <;> omega
              obtain ⟨zs, hzs⟩ : ∃ zs, zs = ts.set xn ((ts[xn]?.getD (0, 0)).1, 1000000) := ⟨_, rfl⟩
              have hzl : ts.length = zs.length := by rw [hzs]; simp
              rw [← hzs] at TP hl31
              have D7 : Hid (BW ((w.heap.size + 1) + 1) wr.heap.size w7 (some ⟨g, 0, none⟩) tc zs (some ⟨qb, qf, none⟩) qc q) := by rw [hV]; exact hid (TP.out.keep fun _ _ _ _ => rfl)
              rw [hzl] at XA7
              rw [← hV]
              clear hzs hV TP
              have r0 := XR7.out.c 0 rfl
              have rf0 := XR7.out.f 0 rfl
              have r1 := XR7.out.c 1 rfl
              have rf1 := XR7.out.f 1 rfl
              have rz := XR7.out.size
              have a0 := XA7.out.c 0 rfl
              have af0 := XA7.out.f 0 rfl
              have a1 := XA7.out.c 1 rfl
              have af1 := XA7.out.f 1 rfl
              have az := XA7.out.size
              go_upto_region 35 with fail
              clear r0 rf0 r1 rf1 rz a0 af0 a1 af1 az
              have r0 := XR7.out.c 0 rfl
              have rf0 := XR7.out.f 0 rfl
              have r1 := XR7.out.c 1 rfl
              have rf1 := XR7.out.f 1 rfl
              have rz := XR7.out.size
              have a0 := XA7.out.c 0 rfl
              have af0 := XA7.out.f 0 rfl
              have a1 := XA7.out.c 1 rfl
              have af1 := XA7.out.f 1 rfl
              have az := XA7.out.size
              obtain ⟨w8, hV⟩ : ∃ V, V = ((w7.setCell ⟨w.heap.size, 0, none⟩ (.slice (some ⟨g, 0, none⟩) zs.length tc)).setCell ⟨w.heap.size, 1, none⟩ (.slice (some ⟨qb, qf, none⟩) q.length qc)) := ⟨_, rfl⟩
              have XR8 := hid (((XR7.out.set 0 (.slice (some ⟨g, 0, none⟩) zs.length tc)).set 1 (.slice (some ⟨qb, qf, none⟩) q.length qc)))
              rw [← hV] at XR8
              have XA8 := hid (((XA7.out.other (a := ⟨w.heap.size, 0, none⟩) (by dsimp only; omega) (.slice (some ⟨g, 0, none⟩) zs.length tc)).other (a := ⟨w.heap.size, 1, none⟩) (by dsimp only; omega) (.slice (some ⟨qb, qf, none⟩) q.length qc)))
              rw [← hV] at XA8
              have D8 := hid (((D7.out.setOff (a := ⟨w.heap.size, 0, none⟩) (by dsimp only; omega) (.slice (some ⟨g, 0, none⟩) zs.length tc)).setOff (a := ⟨w.heap.size, 1, none⟩) (by dsimp only; omega) (.slice (some ⟨qb, qf, none⟩) q.length qc)))
              rw [← hV] at D8
              have C8 := hid (((C7.out.other (a := ⟨w.heap.size, 0, none⟩) (by dsimp only; omega) (.slice (some ⟨g, 0, none⟩) zs.length tc)).other (a := ⟨w.heap.size, 1, none⟩) (by dsimp only; omega) (.slice (some ⟨qb, qf, none⟩) q.length qc)))
              rw [← hV] at C8
              have hR8 : Grew p w w8 := by rw [hV]; exact ((hR7.set (a := ⟨w.heap.size, 0, none⟩) (by dsimp only; omega) (.slice (some ⟨g, 0, none⟩) zs.length tc)).set (a := ⟨w.heap.size, 1, none⟩) (by dsimp only; omega) (.slice (some ⟨qb, qf, none⟩) q.length qc))
              have hz8 : w7.heap.size ≤ w8.heap.size := by rw [hV]; simp
              have H8 := hid hV
              clear hV XR7 XA7 D7 C7
              go_wp2
              clear r0 rf0 r1 rf1 rz a0 af0 a1 af1 az
              rw [← H8.out]
              clear H8
              have r0 := XR8.out.c 0 rfl
              have rf0 := XR8.out.f 0 rfl
              have r1 := XR8.out.c 1 rfl
              have rf1 := XR8.out.f 1 rfl
              have rz := XR8.out.size
              have a0 := XA8.out.c 0 rfl
              have af0 := XA8.out.f 0 rfl
              have a1 := XA8.out.c 1 rfl
              have af1 := XA8.out.f 1 rfl
              have az := XA8.out.size
              refine bodyPost_ret (v := .agg #[.slice (some ⟨g, 0, none⟩) zs.length tc, .slice (some ⟨qb, qf, none⟩) q.length qc]) (by simp [results, Try.results11, go_sem, r0, r1]) rfl ?_
              exact ⟨⟨some ⟨g, 0, none⟩, tc, zs, some ⟨qb, qf, none⟩, qc, q, rfl, ⟨by omega, by omega⟩, D8.out.wide (by omega) (by omega)⟩, k6, sd6, by omega, C8.out, hR8⟩
          · have e0 : (y == 0) = false := by simpa using y0
            have f0 : decide (y = 0) = false := by simpa using y0
            have e1 : (y == 1) = false := by simpa using y1
            have f1 : decide (y = 1) = false := by simpa using y1
            have e2 : (y == 2) = false := by simpa using y2
            have f2 : decide (y = 2) = false := by simpa using y2
            have r0 := XR6.out.c 0 rfl
            have rf0 := XR6.out.f 0 rfl
            have r1 := XR6.out.c 1 rfl
            have rf1 := XR6.out.f 1 rfl
            have rz := XR6.out.size
            have a0 := XA6.out.c 0 rfl
            have af0 := XA6.out.f 0 rfl
            have a1 := XA6.out.c 1 rfl
            have af1 := XA6.out.f 1 rfl
            have az := XA6.out.size
            go_upto_region 35 with fail
            clear r0 rf0 r1 rf1 rz a0 af0 a1 af1 az
            have r0 := XR6.out.c 0 rfl
            have rf0 := XR6.out.f 0 rfl
            have r1 := XR6.out.c 1 rfl
            have rf1 := XR6.out.f 1 rfl
            have rz := XR6.out.size
            have a0 := XA6.out.c 0 rfl
            have af0 := XA6.out.f 0 rfl
            have a1 := XA6.out.c 1 rfl
            have af1 := XA6.out.f 1 rfl
            have az := XA6.out.size
            obtain ⟨w7, hV⟩ : ∃ V, V = ((w6.setCell ⟨w.heap.size, 0, none⟩ (.slice to ts.length tc)).setCell ⟨w.heap.size, 1, none⟩ (.slice qo q.length qc)) := ⟨_, rfl⟩
            have XR7 := hid (((XR6.out.set 0 (.slice to ts.length tc)).set 1 (.slice qo q.length qc)))
            rw [← hV] at XR7
            have XA7 := hid (((XA6.out.other (a := ⟨w.heap.size, 0, none⟩) (by dsimp only; omega) (.slice to ts.length tc)).other (a := ⟨w.heap.size, 1, none⟩) (by dsimp only; omega) (.slice qo q.length qc)))
            rw [← hV] at XA7
            have D7 := hid (((D6.out.setOff (a := ⟨w.heap.size, 0, none⟩) (by dsimp only; omega) (.slice to ts.length tc)).setOff (a := ⟨w.heap.size, 1, none⟩) (by dsimp only; omega) (.slice qo q.length qc)))
            rw [← hV] at D7
            have C7 := hid (((C6.out.other (a := ⟨w.heap.size, 0, none⟩) (by dsimp only; omega) (.slice to ts.length tc)).other (a := ⟨w.heap.size, 1, none⟩) (by dsimp only; omega) (.slice qo q.length qc)))
            rw [← hV] at C7
            have hR7 : Grew p w w7 := by rw [hV]; exact ((hR6.set (a := ⟨w.heap.size, 0, none⟩) (by dsimp only; omega) (.slice to ts.length tc)).set (a := ⟨w.heap.size, 1, none⟩) (by dsimp only; omega) (.slice qo q.length qc))
            have hz7 : w6.heap.size ≤ w7.heap.size := by rw [hV]; simp
            have H7 := hid hV
            clear hV XR6 XA6 D6 C6
            go_wp2
            clear r0 rf0 r1 rf1 rz a0 af0 a1 af1 az
            rw [← H7.out]
            clear H7
            have r0 := XR7.out.c 0 rfl
            have rf0 := XR7.out.f 0 rfl
            have r1 := XR7.out.c 1 rfl
            have rf1 := XR7.out.f 1 rfl
            have rz := XR7.out.size
            have a0 := XA7.out.c 0 rfl
            have af0 := XA7.out.f 0 rfl
            have a1 := XA7.out.c 1 rfl
            have af1 := XA7.out.f 1 rfl
            have az := XA7.out.size
            refine bodyPost_ret (v := .agg #[.slice to ts.length tc, .slice qo q.length qc]) (by simp [results, Try.results11, go_sem, r0, r1]) rfl ?_
            exact ⟨⟨to, tc, ts, qo, qc, q, rfl, ⟨by omega, by omega⟩, D7.out.wide (by omega) (by omega)⟩, k6, sd6, by omega, C7.out, hR7⟩
end Go.Proofs.Ytgbnbnjfaffaiaa
