
/- A drawn box. No conditions but those written. -/
import Derived.Test.YtnnlbnbamhkcaaaXi
namespace Go.Proofs.Ytnnlbnbamhkcaaa
open Go.RowKit

/-- Lists that are not long. -/
def Med (b : List Int) (s r : List (Int × Int × Int)) : Prop := b.length ≤ 100 ∧ s.length ≤ 100 ∧ r.length ≤ 100
set_option maxRecDepth 10000 in
set_option maxHeartbeats 8000000 in
theorem box_any (p : Nat) (co : Option Addr) (cap : Nat) (bs : List Int) (k : Nat) (sd : Int) (w : World) (hl : bs.length ≤ 1048576) (ha : k ≤ 1000000000) (hC : Cur w p co cap bs k sd) :
    Calls Try.prog 26 #[.pointer (some ⟨p, 0, none⟩)] w fun e w' => (∃ (kap : Int) (cl : Bool) (bo : Option Addr) (bc : Nat) (b : List Int) (so : Option Addr) (sc : Nat) (s : List (Int × Int × Int)) (ro : Option Addr) (rc : Nat) (r : List (Int × Int × Int)), e = .returned (.agg #[.int .i64 kap, .bool cl, .slice bo b.length bc, .slice so s.length sc, .slice ro r.length rc]) ∧ Med b s r ∧ RB w.heap.size w' bo bc b so sc s ro rc r) ∧ DrawnG w p co cap bs k 200 w' := by
  have hp := hC.1
  have C0 := hid hC
  have hR0 := Grew.refl p w
  clear hC
  obtain ⟨w1, hV⟩ : ∃ V, V = w.alloc (.cells #[.int .i64 0, .bool false, .slice none 0 0, .slice none 0 0, .slice none 0 0] 26) := ⟨_, rfl⟩
  have C1 := hid (C0.out.later (below1 w (.cells #[.int .i64 0, .bool false, .slice none 0 0, .slice none 0 0, .slice none 0 0] 26)))
  rw [← hV] at C1
  have hR1 : Grew p w w1 := by rw [hV]; exact hR0.trans (Grew.alloc p _ _)
  have hz1 : w.heap.size ≤ w1.heap.size := by rw [hV]; simp
  have H1 := hid hV
  clear hV C0
  have XR1 : Hid (Bx w1 w.heap.size [.int .i64 0, .bool false, .slice none 0 0, .slice none 0 0, .slice none 0 0]) := by rw [H1.out]; exact Bx.new [.int .i64 0, .bool false, .slice none 0 0, .slice none 0 0, .slice none 0 0] _ rfl
  have hy1 : w.heap.size < w1.heap.size := XR1.out.size
  go_enter Try.func26, Try.ntmps26
  have r0 := XR1.out.c 0 rfl
  have rf0 := XR1.out.f 0 rfl
  have r1 := XR1.out.c 1 rfl
  have rf1 := XR1.out.f 1 rfl
  have r2 := XR1.out.c 2 rfl
  have rf2 := XR1.out.f 2 rfl
  have r3 := XR1.out.c 3 rfl
  have rf3 := XR1.out.f 3 rfl
  have r4 := XR1.out.c 4 rfl
  have rf4 := XR1.out.f 4 rfl
  have rz := XR1.out.size
  go_wp2_with fail
  clear r0 rf0 r1 rf1 r2 rf2 r3 rf3 r4 rf4 rz
  rw [← H1.out]
  clear H1
  refine (pick_any 5 p co cap bs k sd w1 hl (by omega) C1.out).mono ?_
  rintro e w2 ⟨⟨x, rfl, h0x, h1x⟩, hD⟩
  obtain ⟨k2, sd2, hk2, hC2, hg2, hsz2⟩ := hD.grew
  have XR2 := hid (XR1.out.grew hg2 (by omega))
  have C2 := hid hC2
  have hR2 : Grew p w w2 := hR1.trans hg2
  have hz2 : w1.heap.size ≤ w2.heap.size := hg2.size
  clear XR1 C1 hD hg2 hC2 hsz2
  have hx4 : x ≤ 4 := by omega
  clear h1x
  have r0 := XR2.out.c 0 rfl
  have rf0 := XR2.out.f 0 rfl
  have r1 := XR2.out.c 1 rfl
  have rf1 := XR2.out.f 1 rfl
  have r2 := XR2.out.c 2 rfl
  have rf2 := XR2.out.f 2 rfl
  have r3 := XR2.out.c 3 rfl
  have rf3 := XR2.out.f 3 rfl
  have r4 := XR2.out.c 4 rfl
  have rf4 := XR2.out.f 4 rfl
  have rz := XR2.out.size
  obtain ⟨w3, hV⟩ : ∃ V, V = w2.alloc (.cells #[.int .i64 (1 + x), .bool false, .slice none 0 0, .slice none 0 0, .slice none 0 0] 26) := ⟨_, rfl⟩
  have XR3 := hid (XR2.out.alloc (.cells #[.int .i64 (1 + x), .bool false, .slice none 0 0, .slice none 0 0, .slice none 0 0] 26))
  rw [← hV] at XR3
  have C3 := hid (C2.out.later (below1 w2 (.cells #[.int .i64 (1 + x), .bool false, .slice none 0 0, .slice none 0 0, .slice none 0 0] 26)))
  rw [← hV] at C3
  have hR3 : Grew p w w3 := by rw [hV]; exact hR2.trans (Grew.alloc p _ _)
  have hz3 : w2.heap.size ≤ w3.heap.size := by rw [hV]; simp
  have H3 := hid hV
  clear hV XR2 C2
  have XA3 : Hid (Bx w3 w2.heap.size [.int .i64 (1 + x), .bool false, .slice none 0 0, .slice none 0 0, .slice none 0 0]) := by rw [H3.out]; exact Bx.new [.int .i64 (1 + x), .bool false, .slice none 0 0, .slice none 0 0, .slice none 0 0] _ rfl
  have hy3 : w2.heap.size < w3.heap.size := XA3.out.size
  go_wp2_with fail
  clear r0 rf0 r1 rf1 r2 rf2 r3 rf3 r4 rf4 rz
  rw [← H3.out]
  clear H3
  refine (pick_any 12 p co cap bs k2 sd2 w3 hl (by omega) C3.out).mono ?_
  rintro e w4 ⟨⟨n, rfl, h0n, h1n⟩, hD⟩
  obtain ⟨k4, sd4, hk4, hC4, hg4, hsz4⟩ := hD.grew
  have XR4 := hid (XR3.out.grew hg4 (by omega))
  have XA4 := hid (XA3.out.grew hg4 (by omega))
  have C4 := hid hC4
  have hR4 : Grew p w w4 := hR3.trans hg4
  have hz4 : w3.heap.size ≤ w4.heap.size := hg4.size
  clear XR3 XA3 C3 hD hg4 hC4 hsz4
  obtain ⟨m, rfl⟩ : ∃ m : Nat, n = m := ⟨n.toNat, by omega⟩
  have hm : m ≤ 11 := by omega
  clear h0n h1n
  have D4 := hid (wB_nil (w2.heap.size + 1) w4.heap.size w4)
  have S4 := hid (show Small [] [] [] from ⟨by simp, by simp, by simp⟩)
  have r0 := XR4.out.c 0 rfl
  have rf0 := XR4.out.f 0 rfl
  have r1 := XR4.out.c 1 rfl
  have rf1 := XR4.out.f 1 rfl
  have r2 := XR4.out.c 2 rfl
  have rf2 := XR4.out.f 2 rfl
  have r3 := XR4.out.c 3 rfl
  have rf3 := XR4.out.f 3 rfl
  have r4 := XR4.out.c 4 rfl
  have rf4 := XR4.out.f 4 rfl
  have rz := XR4.out.size
  have a0 := XA4.out.c 0 rfl
  have af0 := XA4.out.f 0 rfl
  have a1 := XA4.out.c 1 rfl
  have af1 := XA4.out.f 1 rfl
  have a2 := XA4.out.c 2 rfl
  have af2 := XA4.out.f 2 rfl
  have a3 := XA4.out.c 3 rfl
  have af3 := XA4.out.f 3 rfl
  have a4 := XA4.out.c 4 rfl
  have af4 := XA4.out.f 4 rfl
  have az := XA4.out.size
  go_wp2
  clear r0 rf0 r1 rf1 r2 rf2 r3 rf3 r4 rf4 rz a0 af0 a1 af1 a2 af2 a3 af3 a4 af4 az
  go_loopw [4] (fun i wr => ∃ (m k2 : Nat) (sd2 : Int) (kap : Int) (cl : Bool) (bo : Option Addr) (bc : Nat) (b : List Int) (so : Option Addr) (sc : Nat) (s : List (Int × Int × Int)) (ro : Option Addr) (rc : Nat) (r : List (Int × Int × Int)), i = .int .i64 (m : Int) ∧ m ≤ 11 ∧ k2 + 6 * m ≤ k + 70 ∧ Hid (Bx wr w.heap.size [.int .i64 0, .bool false, .slice none 0 0, .slice none 0 0, .slice none 0 0]) ∧ Hid (Bx wr w2.heap.size [.int .i64 kap, .bool cl, .slice bo b.length bc, .slice so s.length sc, .slice ro r.length rc]) ∧ Hid (WB (w2.heap.size + 1) wr.heap.size wr bo bc b so sc s ro rc r) ∧ Hid (Small b s r) ∧ Hid (Cur wr p co cap bs k2 sd2) ∧ Grew p w wr ∧ w2.heap.size + 1 ≤ wr.heap.size) (fun i _ => (intOf i).toNat)
  case atStart => exact ⟨m, k4, sd4, _, _, _, _, _, _, _, _, _, _, _, rfl, hm, by omega, XR4, XA4, D4, S4, C4, hR4, by have := XA4.out.size; omega⟩
  case round =>
    clear XR4 XA4 D4 S4 C4 hR4
    obtain ⟨m, k0, sd0, kap, cl, bo, bc, b, so, sc, s, ro, rc, r, rfl, hm, hk0, XR5, XA5, D5, S0, C5, hR5, hs0⟩ := hrel
    cases m with
    | succ m =>
      have hm0 : decide (0 < ((m + 1 : Nat) : Int)) = true := by simp <;> omega
      have hm1 : (0 : Int) < ((m + 1 : Nat) : Int) := by omega
      have r0 := XR5.out.c 0 rfl
      have rf0 := XR5.out.f 0 rfl
      have r1 := XR5.out.c 1 rfl
      have rf1 := XR5.out.f 1 rfl
      have r2 := XR5.out.c 2 rfl
      have rf2 := XR5.out.f 2 rfl
      have r3 := XR5.out.c 3 rfl
      have rf3 := XR5.out.f 3 rfl
      have r4 := XR5.out.c 4 rfl
      have rf4 := XR5.out.f 4 rfl
      have rz := XR5.out.size
      have a0 := XA5.out.c 0 rfl
      have af0 := XA5.out.f 0 rfl
      have a1 := XA5.out.c 1 rfl
      have af1 := XA5.out.f 1 rfl
      have a2 := XA5.out.c 2 rfl
      have af2 := XA5.out.f 2 rfl
      have a3 := XA5.out.c 3 rfl
      have af3 := XA5.out.f 3 rfl
      have a4 := XA5.out.c 4 rfl
      have af4 := XA5.out.f 4 rfl
      have az := XA5.out.size
      obtain ⟨w6, hV⟩ : ∃ V, V = wr.alloc (.cells #[.int .i64 kap, .bool cl, .slice bo b.length bc, .slice so s.length sc, .slice ro r.length rc] 26) := ⟨_, rfl⟩
      have XR6 := hid (XR5.out.alloc (.cells #[.int .i64 kap, .bool cl, .slice bo b.length bc, .slice so s.length sc, .slice ro r.length rc] 26))
      rw [← hV] at XR6
      have XA6 := hid (XA5.out.alloc (.cells #[.int .i64 kap, .bool cl, .slice bo b.length bc, .slice so s.length sc, .slice ro r.length rc] 26))
      rw [← hV] at XA6
      have D6 := hid (D5.out.later (below1 wr (.cells #[.int .i64 kap, .bool cl, .slice bo b.length bc, .slice so s.length sc, .slice ro r.length rc] 26)))
      rw [← hV] at D6
      have C6 := hid (C5.out.later (below1 wr (.cells #[.int .i64 kap, .bool cl, .slice bo b.length bc, .slice so s.length sc, .slice ro r.length rc] 26)))
      rw [← hV] at C6
      have hR6 : Grew p w w6 := by rw [hV]; exact hR5.trans (Grew.alloc p _ _)
      have hz6 : wr.heap.size ≤ w6.heap.size := by rw [hV]; simp
      have H6 := hid hV
      clear hV XR5 XA5 D5 C5
      have XX6 : Hid (Bx w6 wr.heap.size [.int .i64 kap, .bool cl, .slice bo b.length bc, .slice so s.length sc, .slice ro r.length rc]) := by rw [H6.out]; exact Bx.new [.int .i64 kap, .bool cl, .slice bo b.length bc, .slice so s.length sc, .slice ro r.length rc] _ rfl
      have hy6 : wr.heap.size < w6.heap.size := XX6.out.size
      go_wp2_with fail
      clear r0 rf0 r1 rf1 r2 rf2 r3 rf3 r4 rf4 rz a0 af0 a1 af1 a2 af2 a3 af3 a4 af4 az
      rw [← H6.out]
      clear H6
      refine (pick_any 7 p co cap bs k0 sd0 w6 hl (by omega) C6.out).mono ?_
      rintro e w7 ⟨⟨y, rfl, h0y, h1y⟩, hD⟩
      obtain ⟨k7, sd7, hk7, hC7, hg7, hsz7⟩ := hD.grew
      have XR7 := hid (XR6.out.grew hg7 (by omega))
      have XA7 := hid (XA6.out.grew hg7 (by omega))
      have XX7 := hid (XX6.out.grew hg7 (by omega))
      have D7 := hid (D6.out.grew hg7 (by omega))
      have C7 := hid hC7
      have hR7 : Grew p w w7 := hR6.trans hg7
      have hz7 : w6.heap.size ≤ w7.heap.size := hg7.size
      clear XR6 XA6 XX6 D6 C6 hD hg7 hC7 hsz7
      have hy6 : y = 0 ∨ y = 1 ∨ y = 2 ∨ y = 3 ∨ y = 4 ∨ y = 5 ∨ y = 6 := by omega
      clear h0y h1y
      rcases hy6 with rfl | rfl | rfl | rfl | rfl | rfl | rfl
      · have r0 := XR7.out.c 0 rfl
        have rf0 := XR7.out.f 0 rfl
        have r1 := XR7.out.c 1 rfl
        have rf1 := XR7.out.f 1 rfl
        have r2 := XR7.out.c 2 rfl
        have rf2 := XR7.out.f 2 rfl
        have r3 := XR7.out.c 3 rfl
        have rf3 := XR7.out.f 3 rfl
        have r4 := XR7.out.c 4 rfl
        have rf4 := XR7.out.f 4 rfl
        have rz := XR7.out.size
        have a0 := XA7.out.c 0 rfl
        have af0 := XA7.out.f 0 rfl
        have a1 := XA7.out.c 1 rfl
        have af1 := XA7.out.f 1 rfl
        have a2 := XA7.out.c 2 rfl
        have af2 := XA7.out.f 2 rfl
        have a3 := XA7.out.c 3 rfl
        have af3 := XA7.out.f 3 rfl
        have a4 := XA7.out.c 4 rfl
        have af4 := XA7.out.f 4 rfl
        have az := XA7.out.size
        have x0 := XX7.out.c 0 rfl
        have xf0 := XX7.out.f 0 rfl
        have x1 := XX7.out.c 1 rfl
        have xf1 := XX7.out.f 1 rfl
        have x2 := XX7.out.c 2 rfl
        have xf2 := XX7.out.f 2 rfl
        have x3 := XX7.out.c 3 rfl
        have xf3 := XX7.out.f 3 rfl
        have x4 := XX7.out.c 4 rfl
        have xf4 := XX7.out.f 4 rfl
        have xz := XX7.out.size
        go_wp2
        have PD : w7.drew.cell? ⟨w2.heap.size, 0, none⟩ = some (.int .i64 kap) ∧ w7.drew.cell? ⟨w2.heap.size, 1, none⟩ = some (.bool cl) ∧ w7.drew.cell? ⟨w2.heap.size, 2, none⟩ = some (.slice bo b.length bc) ∧ w7.drew.cell? ⟨w2.heap.size, 3, none⟩ = some (.slice so s.length sc) ∧ w7.drew.cell? ⟨w2.heap.size, 4, none⟩ = some (.slice ro r.length rc) := ⟨a0, a1, a2, a3, a4⟩
        go_region_held3 (fun Y => Y.cell? ⟨w2.heap.size, 0, none⟩ = some (.int .i64 kap) ∧ Y.cell? ⟨w2.heap.size, 1, none⟩ = some (.bool cl) ∧ Y.cell? ⟨w2.heap.size, 2, none⟩ = some (.slice bo b.length bc) ∧ Y.cell? ⟨w2.heap.size, 3, none⟩ = some (.slice so s.length sc) ∧ Y.cell? ⟨w2.heap.size, 4, none⟩ = some (.slice ro r.length rc))
          (first | ((refine ⟨?_, ?_, ?_, ?_, ?_⟩ <;> (rw [World.cell?_setCell_other _ _ _ _ (by simp <;> omega), World.cell?_setCell_other _ _ _ _ (by simp <;> omega), World.cell?_setCell_other _ _ _ _ (by simp <;> omega), World.cell?_setCell_other _ _ _ _ (by simp <;> omega), World.cell?_setCell_other _ _ _ _ (by simp <;> omega)])); with_reducible exact P9.1; with_reducible exact P9.2.1; with_reducible exact P9.2.2.1; with_reducible exact P9.2.2.2.1; with_reducible exact P9.2.2.2.2) | (with_reducible exact ⟨a0, a1, a2, a3, a4⟩) | (with_reducible exact PD) | (with_reducible exact P8) | (with_reducible exact P9))
          (first
            | (go_at_call 37; refine (stepS kap cl bo bc b so sc s ro rc r z w8 S0.out D8.out).mono ?_; rintro e w9 ⟨⟨kapv, clv, bov, bcv, bv, sov, scv, sv, rov, rcv, rv, cv, rfl, hS1, hW1⟩, hy⟩; have hb9 : Below w8.heap.size w8 w9 := hy; have XR9 := hid (XR8.out.grew (Grew.of_below (p := p) hb9) (by omega)); have XA9 := hid (XA8.out.grew (Grew.of_below (p := p) hb9) (by omega)); have XX9 := hid (XX8.out.grew (Grew.of_below (p := p) hb9) (by omega)); have D9 := hid (D8.out.grew (Grew.of_below (p := p) hb9) (by omega)); have C9 := hid (C8.out.later hb9); have hR9 : Grew p w w9 := hR8.trans (Grew.of_below (p := p) hb9); have hz9 : w8.heap.size ≤ w9.heap.size := hb9.size; have E9 := hid (hW1); have HS9 := hid (hS1); have P9 : w9.cell? ⟨w2.heap.size, 0, none⟩ = some (.int .i64 kap) ∧ w9.cell? ⟨w2.heap.size, 1, none⟩ = some (.bool cl) ∧ w9.cell? ⟨w2.heap.size, 2, none⟩ = some (.slice bo b.length bc) ∧ w9.cell? ⟨w2.heap.size, 3, none⟩ = some (.slice so s.length sc) ∧ w9.cell? ⟨w2.heap.size, 4, none⟩ = some (.slice ro r.length rc) := ⟨XA9.out.c 0 rfl, XA9.out.c 1 rfl, XA9.out.c 2 rfl, XA9.out.c 3 rfl, XA9.out.c 4 rfl⟩; have rg0 := XR9.out.c 0 rfl; have rh0 := XR9.out.f 0 rfl; have rg1 := XR9.out.c 1 rfl; have rh1 := XR9.out.f 1 rfl; have rg2 := XR9.out.c 2 rfl; have rh2 := XR9.out.f 2 rfl; have rg3 := XR9.out.c 3 rfl; have rh3 := XR9.out.f 3 rfl; have rg4 := XR9.out.c 4 rfl; have rh4 := XR9.out.f 4 rfl; have ag0 := XA9.out.c 0 rfl; have ah0 := XA9.out.f 0 rfl; have ag1 := XA9.out.c 1 rfl; have ah1 := XA9.out.f 1 rfl; have ag2 := XA9.out.c 2 rfl; have ah2 := XA9.out.f 2 rfl; have ag3 := XA9.out.c 3 rfl; have ah3 := XA9.out.f 3 rfl; have ag4 := XA9.out.c 4 rfl; have ah4 := XA9.out.f 4 rfl; have xg0 := XX9.out.c 0 rfl; have xh0 := XX9.out.f 0 rfl; have xg1 := XX9.out.c 1 rfl; have xh1 := XX9.out.f 1 rfl; have xg2 := XX9.out.c 2 rfl; have xh2 := XX9.out.f 2 rfl; have xg3 := XX9.out.c 3 rfl; have xh3 := XX9.out.f 3 rfl; have xg4 := XX9.out.c 4 rfl; have xh4 := XX9.out.f 4 rfl; clear hy)
            | (go_at_call 36; refine (pick_any 9 p co cap bs k7 sd7 w7.drew hl (by omega) C7.out.drew).mono ?_; rintro e w8 ⟨⟨z, rfl, h0z, h1z⟩, hD⟩; obtain ⟨k8, sd8, hk8, hC8, hg, hsz8⟩ := hD.grew; have hg8 : Grew p w7 w8 := hg.from; have XR8 := hid (XR7.out.grew hg8 (by omega)); have XA8 := hid (XA7.out.grew hg8 (by omega)); have XX8 := hid (XX7.out.grew hg8 (by omega)); have D8 := hid (D7.out.grew hg8 (by omega)); have C8 := hid hC8; have hR8 : Grew p w w8 := hR7.trans hg8; have hz8 : w7.heap.size ≤ w8.heap.size := hg8.size; have P8 : w8.cell? ⟨w2.heap.size, 0, none⟩ = some (.int .i64 kap) ∧ w8.cell? ⟨w2.heap.size, 1, none⟩ = some (.bool cl) ∧ w8.cell? ⟨w2.heap.size, 2, none⟩ = some (.slice bo b.length bc) ∧ w8.cell? ⟨w2.heap.size, 3, none⟩ = some (.slice so s.length sc) ∧ w8.cell? ⟨w2.heap.size, 4, none⟩ = some (.slice ro r.length rc) := ⟨XA8.out.c 0 rfl, XA8.out.c 1 rfl, XA8.out.c 2 rfl, XA8.out.c 3 rfl, XA8.out.c 4 rfl⟩; clear hD hC8 hg hsz8))
        all_goals
          have HS1 := hid HS9.out
          clear HS9
          obtain ⟨w10, hV⟩ : ∃ V, V = (((((w9.setCell ⟨wr.heap.size, 0, none⟩ (.int .i64 kapv)).setCell ⟨wr.heap.size, 1, none⟩ (.bool clv)).setCell ⟨wr.heap.size, 2, none⟩ (.slice bov bv.length bcv)).setCell ⟨wr.heap.size, 3, none⟩ (.slice sov sv.length scv)).setCell ⟨wr.heap.size, 4, none⟩ (.slice rov rv.length rcv)) := ⟨_, rfl⟩
          have XR10 := hid ((((((XR9.out.other (a := ⟨wr.heap.size, 0, none⟩) (by dsimp only; omega) (.int .i64 kapv)).other (a := ⟨wr.heap.size, 1, none⟩) (by dsimp only; omega) (.bool clv)).other (a := ⟨wr.heap.size, 2, none⟩) (by dsimp only; omega) (.slice bov bv.length bcv)).other (a := ⟨wr.heap.size, 3, none⟩) (by dsimp only; omega) (.slice sov sv.length scv)).other (a := ⟨wr.heap.size, 4, none⟩) (by dsimp only; omega) (.slice rov rv.length rcv)))
          rw [← hV] at XR10
          have XA10 := hid ((((((XA9.out.other (a := ⟨wr.heap.size, 0, none⟩) (by dsimp only; omega) (.int .i64 kapv)).other (a := ⟨wr.heap.size, 1, none⟩) (by dsimp only; omega) (.bool clv)).other (a := ⟨wr.heap.size, 2, none⟩) (by dsimp only; omega) (.slice bov bv.length bcv)).other (a := ⟨wr.heap.size, 3, none⟩) (by dsimp only; omega) (.slice sov sv.length scv)).other (a := ⟨wr.heap.size, 4, none⟩) (by dsimp only; omega) (.slice rov rv.length rcv)))
          rw [← hV] at XA10
          have XX10 := hid ((((((XX9.out.set 0 (.int .i64 kapv)).set 1 (.bool clv)).set 2 (.slice bov bv.length bcv)).set 3 (.slice sov sv.length scv)).set 4 (.slice rov rv.length rcv)))
          rw [← hV] at XX10
          have D10 := hid ((((((D9.out.setOff (a := ⟨wr.heap.size, 0, none⟩) (by dsimp only; omega) (.int .i64 kapv)).setOff (a := ⟨wr.heap.size, 1, none⟩) (by dsimp only; omega) (.bool clv)).setOff (a := ⟨wr.heap.size, 2, none⟩) (by dsimp only; omega) (.slice bov bv.length bcv)).setOff (a := ⟨wr.heap.size, 3, none⟩) (by dsimp only; omega) (.slice sov sv.length scv)).setOff (a := ⟨wr.heap.size, 4, none⟩) (by dsimp only; omega) (.slice rov rv.length rcv)))
          rw [← hV] at D10
          have E10 := hid ((((((E9.out.setOff (a := ⟨wr.heap.size, 0, none⟩) (by dsimp only; omega) (.int .i64 kapv)).setOff (a := ⟨wr.heap.size, 1, none⟩) (by dsimp only; omega) (.bool clv)).setOff (a := ⟨wr.heap.size, 2, none⟩) (by dsimp only; omega) (.slice bov bv.length bcv)).setOff (a := ⟨wr.heap.size, 3, none⟩) (by dsimp only; omega) (.slice sov sv.length scv)).setOff (a := ⟨wr.heap.size, 4, none⟩) (by dsimp only; omega) (.slice rov rv.length rcv)))
          rw [← hV] at E10
          have C10 := hid ((((((C9.out.other (a := ⟨wr.heap.size, 0, none⟩) (by dsimp only; omega) (.int .i64 kapv)).other (a := ⟨wr.heap.size, 1, none⟩) (by dsimp only; omega) (.bool clv)).other (a := ⟨wr.heap.size, 2, none⟩) (by dsimp only; omega) (.slice bov bv.length bcv)).other (a := ⟨wr.heap.size, 3, none⟩) (by dsimp only; omega) (.slice sov sv.length scv)).other (a := ⟨wr.heap.size, 4, none⟩) (by dsimp only; omega) (.slice rov rv.length rcv)))
          rw [← hV] at C10
          have hR10 : Grew p w w10 := by rw [hV]; exact (((((hR9.set (a := ⟨wr.heap.size, 0, none⟩) (by dsimp only; omega) (.int .i64 kapv)).set (a := ⟨wr.heap.size, 1, none⟩) (by dsimp only; omega) (.bool clv)).set (a := ⟨wr.heap.size, 2, none⟩) (by dsimp only; omega) (.slice bov bv.length bcv)).set (a := ⟨wr.heap.size, 3, none⟩) (by dsimp only; omega) (.slice sov sv.length scv)).set (a := ⟨wr.heap.size, 4, none⟩) (by dsimp only; omega) (.slice rov rv.length rcv))
          have hz10 : w9.heap.size ≤ w10.heap.size := by rw [hV]; simp
          have H10 := hid hV
          clear hV XR9 XA9 XX9 D9 E9 C9
          go_upto_region 18 with fail
          clear rg0 rh0 rg1 rh1 rg2 rh2 rg3 rh3 rg4 rh4 ag0 ah0 ag1 ah1 ag2 ah2 ag3 ah3 ag4 ah4 xg0 xh0 xg1 xh1 xg2 xh2 xg3 xh3 xg4 xh4
          rw [← H10.out]
          clear H10
          by_cases hc : cv = 0
          · have S1 := hid (HS1.out hc)
            subst hc
            have r0 := XR10.out.c 0 rfl
            have rf0 := XR10.out.f 0 rfl
            have r1 := XR10.out.c 1 rfl
            have rf1 := XR10.out.f 1 rfl
            have r2 := XR10.out.c 2 rfl
            have rf2 := XR10.out.f 2 rfl
            have r3 := XR10.out.c 3 rfl
            have rf3 := XR10.out.f 3 rfl
            have r4 := XR10.out.c 4 rfl
            have rf4 := XR10.out.f 4 rfl
            have rz := XR10.out.size
            have a0 := XA10.out.c 0 rfl
            have af0 := XA10.out.f 0 rfl
            have a1 := XA10.out.c 1 rfl
            have af1 := XA10.out.f 1 rfl
            have a2 := XA10.out.c 2 rfl
            have af2 := XA10.out.f 2 rfl
            have a3 := XA10.out.c 3 rfl
            have af3 := XA10.out.f 3 rfl
            have a4 := XA10.out.c 4 rfl
            have af4 := XA10.out.f 4 rfl
            have az := XA10.out.size
            have x0 := XX10.out.c 0 rfl
            have xf0 := XX10.out.f 0 rfl
            have x1 := XX10.out.c 1 rfl
            have xf1 := XX10.out.f 1 rfl
            have x2 := XX10.out.c 2 rfl
            have xf2 := XX10.out.f 2 rfl
            have x3 := XX10.out.c 3 rfl
            have xf3 := XX10.out.f 3 rfl
            have x4 := XX10.out.c 4 rfl
            have xf4 := XX10.out.f 4 rfl
            have xz := XX10.out.size
            obtain ⟨w11, hV⟩ : ∃ V, V = (((((w10.setCell ⟨w2.heap.size, 0, none⟩ (.int .i64 kapv)).setCell ⟨w2.heap.size, 1, none⟩ (.bool clv)).setCell ⟨w2.heap.size, 2, none⟩ (.slice bov bv.length bcv)).setCell ⟨w2.heap.size, 3, none⟩ (.slice sov sv.length scv)).setCell ⟨w2.heap.size, 4, none⟩ (.slice rov rv.length rcv)) := ⟨_, rfl⟩
            have XR11 := hid ((((((XR10.out.other (a := ⟨w2.heap.size, 0, none⟩) (by dsimp only; omega) (.int .i64 kapv)).other (a := ⟨w2.heap.size, 1, none⟩) (by dsimp only; omega) (.bool clv)).other (a := ⟨w2.heap.size, 2, none⟩) (by dsimp only; omega) (.slice bov bv.length bcv)).other (a := ⟨w2.heap.size, 3, none⟩) (by dsimp only; omega) (.slice sov sv.length scv)).other (a := ⟨w2.heap.size, 4, none⟩) (by dsimp only; omega) (.slice rov rv.length rcv)))
            rw [← hV] at XR11
            have XA11 := hid ((((((XA10.out.set 0 (.int .i64 kapv)).set 1 (.bool clv)).set 2 (.slice bov bv.length bcv)).set 3 (.slice sov sv.length scv)).set 4 (.slice rov rv.length rcv)))
            rw [← hV] at XA11
            have XX11 := hid ((((((XX10.out.other (a := ⟨w2.heap.size, 0, none⟩) (by dsimp only; omega) (.int .i64 kapv)).other (a := ⟨w2.heap.size, 1, none⟩) (by dsimp only; omega) (.bool clv)).other (a := ⟨w2.heap.size, 2, none⟩) (by dsimp only; omega) (.slice bov bv.length bcv)).other (a := ⟨w2.heap.size, 3, none⟩) (by dsimp only; omega) (.slice sov sv.length scv)).other (a := ⟨w2.heap.size, 4, none⟩) (by dsimp only; omega) (.slice rov rv.length rcv)))
            rw [← hV] at XX11
            have D11 := hid ((((((D10.out.setOff (a := ⟨w2.heap.size, 0, none⟩) (by dsimp only; omega) (.int .i64 kapv)).setOff (a := ⟨w2.heap.size, 1, none⟩) (by dsimp only; omega) (.bool clv)).setOff (a := ⟨w2.heap.size, 2, none⟩) (by dsimp only; omega) (.slice bov bv.length bcv)).setOff (a := ⟨w2.heap.size, 3, none⟩) (by dsimp only; omega) (.slice sov sv.length scv)).setOff (a := ⟨w2.heap.size, 4, none⟩) (by dsimp only; omega) (.slice rov rv.length rcv)))
            rw [← hV] at D11
            have E11 := hid ((((((E10.out.setOff (a := ⟨w2.heap.size, 0, none⟩) (by dsimp only; omega) (.int .i64 kapv)).setOff (a := ⟨w2.heap.size, 1, none⟩) (by dsimp only; omega) (.bool clv)).setOff (a := ⟨w2.heap.size, 2, none⟩) (by dsimp only; omega) (.slice bov bv.length bcv)).setOff (a := ⟨w2.heap.size, 3, none⟩) (by dsimp only; omega) (.slice sov sv.length scv)).setOff (a := ⟨w2.heap.size, 4, none⟩) (by dsimp only; omega) (.slice rov rv.length rcv)))
            rw [← hV] at E11
            have C11 := hid ((((((C10.out.other (a := ⟨w2.heap.size, 0, none⟩) (by dsimp only; omega) (.int .i64 kapv)).other (a := ⟨w2.heap.size, 1, none⟩) (by dsimp only; omega) (.bool clv)).other (a := ⟨w2.heap.size, 2, none⟩) (by dsimp only; omega) (.slice bov bv.length bcv)).other (a := ⟨w2.heap.size, 3, none⟩) (by dsimp only; omega) (.slice sov sv.length scv)).other (a := ⟨w2.heap.size, 4, none⟩) (by dsimp only; omega) (.slice rov rv.length rcv)))
            rw [← hV] at C11
            have hR11 : Grew p w w11 := by rw [hV]; exact (((((hR10.set (a := ⟨w2.heap.size, 0, none⟩) (by dsimp only; omega) (.int .i64 kapv)).set (a := ⟨w2.heap.size, 1, none⟩) (by dsimp only; omega) (.bool clv)).set (a := ⟨w2.heap.size, 2, none⟩) (by dsimp only; omega) (.slice bov bv.length bcv)).set (a := ⟨w2.heap.size, 3, none⟩) (by dsimp only; omega) (.slice sov sv.length scv)).set (a := ⟨w2.heap.size, 4, none⟩) (by dsimp only; omega) (.slice rov rv.length rcv))
            have hz11 : w10.heap.size ≤ w11.heap.size := by rw [hV]; simp
            have H11 := hid hV
            clear hV XR10 XA10 XX10 D10 E10 C10
            go_wp2
            clear r0 rf0 r1 rf1 r2 rf2 r3 rf3 r4 rf4 rz a0 af0 a1 af1 a2 af2 a3 af3 a4 af4 az x0 xf0 x1 xf1 x2 xf2 x3 xf3 x4 xf4 xz
            rw [← H11.out]
            clear H11
            go_roundw
            case rel => exact ⟨m, k8, sd8, kapv, clv, bov, bcv, bv, sov, scv, sv, rov, rcv, rv, by go_num, by omega, by omega, XR11, XA11, hid (E11.out.wide (by omega) (by omega)), S1, C11, hR11, by omega⟩
            case measure => simp [intOf] <;> omega
          · have hc1 : (cv == 0) = false := by simpa using hc
            have hc2 : decide (cv = 0) = false := by simpa using hc
            have r0 := XR10.out.c 0 rfl
            have rf0 := XR10.out.f 0 rfl
            have r1 := XR10.out.c 1 rfl
            have rf1 := XR10.out.f 1 rfl
            have r2 := XR10.out.c 2 rfl
            have rf2 := XR10.out.f 2 rfl
            have r3 := XR10.out.c 3 rfl
            have rf3 := XR10.out.f 3 rfl
            have r4 := XR10.out.c 4 rfl
            have rf4 := XR10.out.f 4 rfl
            have rz := XR10.out.size
            have a0 := XA10.out.c 0 rfl
            have af0 := XA10.out.f 0 rfl
            have a1 := XA10.out.c 1 rfl
            have af1 := XA10.out.f 1 rfl
            have a2 := XA10.out.c 2 rfl
            have af2 := XA10.out.f 2 rfl
            have a3 := XA10.out.c 3 rfl
            have af3 := XA10.out.f 3 rfl
            have a4 := XA10.out.c 4 rfl
            have af4 := XA10.out.f 4 rfl
            have az := XA10.out.size
            have x0 := XX10.out.c 0 rfl
            have xf0 := XX10.out.f 0 rfl
            have x1 := XX10.out.c 1 rfl
            have xf1 := XX10.out.f 1 rfl
            have x2 := XX10.out.c 2 rfl
            have xf2 := XX10.out.f 2 rfl
            have x3 := XX10.out.c 3 rfl
            have xf3 := XX10.out.f 3 rfl
            have x4 := XX10.out.c 4 rfl
            have xf4 := XX10.out.f 4 rfl
            have xz := XX10.out.size
            go_wp2
            clear r0 rf0 r1 rf1 r2 rf2 r3 rf3 r4 rf4 rz a0 af0 a1 af1 a2 af2 a3 af3 a4 af4 az x0 xf0 x1 xf1 x2 xf2 x3 xf3 x4 xf4 xz
            go_roundw
            case rel => exact ⟨m, k8, sd8, kap, cl, bo, bc, b, so, sc, s, ro, rc, r, by go_num, by omega, by omega, XR10, XA10, hid (D10.out.wide (by omega) (by omega)), S0, C10, hR10, by omega⟩
            case measure => simp [intOf] <;> omega
      · have r0 := XR7.out.c 0 rfl
        have rf0 := XR7.out.f 0 rfl
        have r1 := XR7.out.c 1 rfl
        have rf1 := XR7.out.f 1 rfl
        have r2 := XR7.out.c 2 rfl
        have rf2 := XR7.out.f 2 rfl
        have r3 := XR7.out.c 3 rfl
        have rf3 := XR7.out.f 3 rfl
        have r4 := XR7.out.c 4 rfl
        have rf4 := XR7.out.f 4 rfl
        have rz := XR7.out.size
        have a0 := XA7.out.c 0 rfl
        have af0 := XA7.out.f 0 rfl
        have a1 := XA7.out.c 1 rfl
        have af1 := XA7.out.f 1 rfl
        have a2 := XA7.out.c 2 rfl
        have af2 := XA7.out.f 2 rfl
        have a3 := XA7.out.c 3 rfl
        have af3 := XA7.out.f 3 rfl
        have a4 := XA7.out.c 4 rfl
        have af4 := XA7.out.f 4 rfl
        have az := XA7.out.size
        have x0 := XX7.out.c 0 rfl
        have xf0 := XX7.out.f 0 rfl
        have x1 := XX7.out.c 1 rfl
        have xf1 := XX7.out.f 1 rfl
        have x2 := XX7.out.c 2 rfl
        have xf2 := XX7.out.f 2 rfl
        have x3 := XX7.out.c 3 rfl
        have xf3 := XX7.out.f 3 rfl
        have x4 := XX7.out.c 4 rfl
        have xf4 := XX7.out.f 4 rfl
        have xz := XX7.out.size
        go_wp2_with fail
        clear r0 rf0 r1 rf1 r2 rf2 r3 rf3 r4 rf4 rz a0 af0 a1 af1 a2 af2 a3 af3 a4 af4 az x0 xf0 x1 xf1 x2 xf2 x3 xf3 x4 xf4 xz
        refine (stepT kap cl bo bc b so sc s ro rc r w7 S0.out D7.out).mono ?_
        rintro e w8 ⟨⟨kapv, clv, bov, bcv, bv, sov, scv, sv, rov, rcv, rv, xv, yv1, yv2, yv3, cv, rfl, hS1, hW1⟩, hy⟩
        have XR8 := hid (XR7.out.later hy)
        have XA8 := hid (XA7.out.later hy)
        have XX8 := hid (XX7.out.later hy)
        have D8 := hid (D7.out.later hy)
        have C8 := hid (C7.out.later hy)
        have hR8 : Grew p w w8 := hR7.trans (Grew.of_below hy)
        have hz8 : w7.heap.size ≤ w8.heap.size := hy.size
        clear XR7 XA7 XX7 D7 C7 
        have E8 := hid hW1
        have HS1 := hid hS1
        clear hW1 hS1 hy
        have r0 := XR8.out.c 0 rfl
        have rf0 := XR8.out.f 0 rfl
        have r1 := XR8.out.c 1 rfl
        have rf1 := XR8.out.f 1 rfl
        have r2 := XR8.out.c 2 rfl
        have rf2 := XR8.out.f 2 rfl
        have r3 := XR8.out.c 3 rfl
        have rf3 := XR8.out.f 3 rfl
        have r4 := XR8.out.c 4 rfl
        have rf4 := XR8.out.f 4 rfl
        have rz := XR8.out.size
        have a0 := XA8.out.c 0 rfl
        have af0 := XA8.out.f 0 rfl
        have a1 := XA8.out.c 1 rfl
        have af1 := XA8.out.f 1 rfl
        have a2 := XA8.out.c 2 rfl
        have af2 := XA8.out.f 2 rfl
        have a3 := XA8.out.c 3 rfl
        have af3 := XA8.out.f 3 rfl
        have a4 := XA8.out.c 4 rfl
        have af4 := XA8.out.f 4 rfl
        have az := XA8.out.size
        have x0 := XX8.out.c 0 rfl
        have xf0 := XX8.out.f 0 rfl
        have x1 := XX8.out.c 1 rfl
        have xf1 := XX8.out.f 1 rfl
        have x2 := XX8.out.c 2 rfl
        have xf2 := XX8.out.f 2 rfl
        have x3 := XX8.out.c 3 rfl
        have xf3 := XX8.out.f 3 rfl
        have x4 := XX8.out.c 4 rfl
        have xf4 := XX8.out.f 4 rfl
        have xz := XX8.out.size
        obtain ⟨w9, hV⟩ : ∃ V, V = (((((w8.setCell ⟨wr.heap.size, 0, none⟩ (.int .i64 kapv)).setCell ⟨wr.heap.size, 1, none⟩ (.bool clv)).setCell ⟨wr.heap.size, 2, none⟩ (.slice bov bv.length bcv)).setCell ⟨wr.heap.size, 3, none⟩ (.slice sov sv.length scv)).setCell ⟨wr.heap.size, 4, none⟩ (.slice rov rv.length rcv)) := ⟨_, rfl⟩
        have XR9 := hid ((((((XR8.out.other (a := ⟨wr.heap.size, 0, none⟩) (by dsimp only; omega) (.int .i64 kapv)).other (a := ⟨wr.heap.size, 1, none⟩) (by dsimp only; omega) (.bool clv)).other (a := ⟨wr.heap.size, 2, none⟩) (by dsimp only; omega) (.slice bov bv.length bcv)).other (a := ⟨wr.heap.size, 3, none⟩) (by dsimp only; omega) (.slice sov sv.length scv)).other (a := ⟨wr.heap.size, 4, none⟩) (by dsimp only; omega) (.slice rov rv.length rcv)))
        rw [← hV] at XR9
        have XA9 := hid ((((((XA8.out.other (a := ⟨wr.heap.size, 0, none⟩) (by dsimp only; omega) (.int .i64 kapv)).other (a := ⟨wr.heap.size, 1, none⟩) (by dsimp only; omega) (.bool clv)).other (a := ⟨wr.heap.size, 2, none⟩) (by dsimp only; omega) (.slice bov bv.length bcv)).other (a := ⟨wr.heap.size, 3, none⟩) (by dsimp only; omega) (.slice sov sv.length scv)).other (a := ⟨wr.heap.size, 4, none⟩) (by dsimp only; omega) (.slice rov rv.length rcv)))
        rw [← hV] at XA9
        have XX9 := hid ((((((XX8.out.set 0 (.int .i64 kapv)).set 1 (.bool clv)).set 2 (.slice bov bv.length bcv)).set 3 (.slice sov sv.length scv)).set 4 (.slice rov rv.length rcv)))
        rw [← hV] at XX9
        have D9 := hid ((((((D8.out.setOff (a := ⟨wr.heap.size, 0, none⟩) (by dsimp only; omega) (.int .i64 kapv)).setOff (a := ⟨wr.heap.size, 1, none⟩) (by dsimp only; omega) (.bool clv)).setOff (a := ⟨wr.heap.size, 2, none⟩) (by dsimp only; omega) (.slice bov bv.length bcv)).setOff (a := ⟨wr.heap.size, 3, none⟩) (by dsimp only; omega) (.slice sov sv.length scv)).setOff (a := ⟨wr.heap.size, 4, none⟩) (by dsimp only; omega) (.slice rov rv.length rcv)))
        rw [← hV] at D9
        have E9 := hid ((((((E8.out.setOff (a := ⟨wr.heap.size, 0, none⟩) (by dsimp only; omega) (.int .i64 kapv)).setOff (a := ⟨wr.heap.size, 1, none⟩) (by dsimp only; omega) (.bool clv)).setOff (a := ⟨wr.heap.size, 2, none⟩) (by dsimp only; omega) (.slice bov bv.length bcv)).setOff (a := ⟨wr.heap.size, 3, none⟩) (by dsimp only; omega) (.slice sov sv.length scv)).setOff (a := ⟨wr.heap.size, 4, none⟩) (by dsimp only; omega) (.slice rov rv.length rcv)))
        rw [← hV] at E9
        have C9 := hid ((((((C8.out.other (a := ⟨wr.heap.size, 0, none⟩) (by dsimp only; omega) (.int .i64 kapv)).other (a := ⟨wr.heap.size, 1, none⟩) (by dsimp only; omega) (.bool clv)).other (a := ⟨wr.heap.size, 2, none⟩) (by dsimp only; omega) (.slice bov bv.length bcv)).other (a := ⟨wr.heap.size, 3, none⟩) (by dsimp only; omega) (.slice sov sv.length scv)).other (a := ⟨wr.heap.size, 4, none⟩) (by dsimp only; omega) (.slice rov rv.length rcv)))
        rw [← hV] at C9
        have hR9 : Grew p w w9 := by rw [hV]; exact (((((hR8.set (a := ⟨wr.heap.size, 0, none⟩) (by dsimp only; omega) (.int .i64 kapv)).set (a := ⟨wr.heap.size, 1, none⟩) (by dsimp only; omega) (.bool clv)).set (a := ⟨wr.heap.size, 2, none⟩) (by dsimp only; omega) (.slice bov bv.length bcv)).set (a := ⟨wr.heap.size, 3, none⟩) (by dsimp only; omega) (.slice sov sv.length scv)).set (a := ⟨wr.heap.size, 4, none⟩) (by dsimp only; omega) (.slice rov rv.length rcv))
        have hz9 : w8.heap.size ≤ w9.heap.size := by rw [hV]; simp
        have H9 := hid hV
        clear hV XR8 XA8 XX8 D8 E8 C8
        go_upto_region 18 with fail
        clear r0 rf0 r1 rf1 r2 rf2 r3 rf3 r4 rf4 rz a0 af0 a1 af1 a2 af2 a3 af3 a4 af4 az x0 xf0 x1 xf1 x2 xf2 x3 xf3 x4 xf4 xz
        rw [← H9.out]
        clear H9
        by_cases hc : cv = 0
        · have S1 := hid (HS1.out hc)
          subst hc
          have r0 := XR9.out.c 0 rfl
          have rf0 := XR9.out.f 0 rfl
          have r1 := XR9.out.c 1 rfl
          have rf1 := XR9.out.f 1 rfl
          have r2 := XR9.out.c 2 rfl
          have rf2 := XR9.out.f 2 rfl
          have r3 := XR9.out.c 3 rfl
          have rf3 := XR9.out.f 3 rfl
          have r4 := XR9.out.c 4 rfl
          have rf4 := XR9.out.f 4 rfl
          have rz := XR9.out.size
          have a0 := XA9.out.c 0 rfl
          have af0 := XA9.out.f 0 rfl
          have a1 := XA9.out.c 1 rfl
          have af1 := XA9.out.f 1 rfl
          have a2 := XA9.out.c 2 rfl
          have af2 := XA9.out.f 2 rfl
          have a3 := XA9.out.c 3 rfl
          have af3 := XA9.out.f 3 rfl
          have a4 := XA9.out.c 4 rfl
          have af4 := XA9.out.f 4 rfl
          have az := XA9.out.size
          have x0 := XX9.out.c 0 rfl
          have xf0 := XX9.out.f 0 rfl
          have x1 := XX9.out.c 1 rfl
          have xf1 := XX9.out.f 1 rfl
          have x2 := XX9.out.c 2 rfl
          have xf2 := XX9.out.f 2 rfl
          have x3 := XX9.out.c 3 rfl
          have xf3 := XX9.out.f 3 rfl
          have x4 := XX9.out.c 4 rfl
          have xf4 := XX9.out.f 4 rfl
          have xz := XX9.out.size
          obtain ⟨w10, hV⟩ : ∃ V, V = (((((w9.setCell ⟨w2.heap.size, 0, none⟩ (.int .i64 kapv)).setCell ⟨w2.heap.size, 1, none⟩ (.bool clv)).setCell ⟨w2.heap.size, 2, none⟩ (.slice bov bv.length bcv)).setCell ⟨w2.heap.size, 3, none⟩ (.slice sov sv.length scv)).setCell ⟨w2.heap.size, 4, none⟩ (.slice rov rv.length rcv)) := ⟨_, rfl⟩
          have XR10 := hid ((((((XR9.out.other (a := ⟨w2.heap.size, 0, none⟩) (by dsimp only; omega) (.int .i64 kapv)).other (a := ⟨w2.heap.size, 1, none⟩) (by dsimp only; omega) (.bool clv)).other (a := ⟨w2.heap.size, 2, none⟩) (by dsimp only; omega) (.slice bov bv.length bcv)).other (a := ⟨w2.heap.size, 3, none⟩) (by dsimp only; omega) (.slice sov sv.length scv)).other (a := ⟨w2.heap.size, 4, none⟩) (by dsimp only; omega) (.slice rov rv.length rcv)))
          rw [← hV] at XR10
          have XA10 := hid ((((((XA9.out.set 0 (.int .i64 kapv)).set 1 (.bool clv)).set 2 (.slice bov bv.length bcv)).set 3 (.slice sov sv.length scv)).set 4 (.slice rov rv.length rcv)))
          rw [← hV] at XA10
          have XX10 := hid ((((((XX9.out.other (a := ⟨w2.heap.size, 0, none⟩) (by dsimp only; omega) (.int .i64 kapv)).other (a := ⟨w2.heap.size, 1, none⟩) (by dsimp only; omega) (.bool clv)).other (a := ⟨w2.heap.size, 2, none⟩) (by dsimp only; omega) (.slice bov bv.length bcv)).other (a := ⟨w2.heap.size, 3, none⟩) (by dsimp only; omega) (.slice sov sv.length scv)).other (a := ⟨w2.heap.size, 4, none⟩) (by dsimp only; omega) (.slice rov rv.length rcv)))
          rw [← hV] at XX10
          have D10 := hid ((((((D9.out.setOff (a := ⟨w2.heap.size, 0, none⟩) (by dsimp only; omega) (.int .i64 kapv)).setOff (a := ⟨w2.heap.size, 1, none⟩) (by dsimp only; omega) (.bool clv)).setOff (a := ⟨w2.heap.size, 2, none⟩) (by dsimp only; omega) (.slice bov bv.length bcv)).setOff (a := ⟨w2.heap.size, 3, none⟩) (by dsimp only; omega) (.slice sov sv.length scv)).setOff (a := ⟨w2.heap.size, 4, none⟩) (by dsimp only; omega) (.slice rov rv.length rcv)))
          rw [← hV] at D10
          have E10 := hid ((((((E9.out.setOff (a := ⟨w2.heap.size, 0, none⟩) (by dsimp only; omega) (.int .i64 kapv)).setOff (a := ⟨w2.heap.size, 1, none⟩) (by dsimp only; omega) (.bool clv)).setOff (a := ⟨w2.heap.size, 2, none⟩) (by dsimp only; omega) (.slice bov bv.length bcv)).setOff (a := ⟨w2.heap.size, 3, none⟩) (by dsimp only; omega) (.slice sov sv.length scv)).setOff (a := ⟨w2.heap.size, 4, none⟩) (by dsimp only; omega) (.slice rov rv.length rcv)))
          rw [← hV] at E10
          have C10 := hid ((((((C9.out.other (a := ⟨w2.heap.size, 0, none⟩) (by dsimp only; omega) (.int .i64 kapv)).other (a := ⟨w2.heap.size, 1, none⟩) (by dsimp only; omega) (.bool clv)).other (a := ⟨w2.heap.size, 2, none⟩) (by dsimp only; omega) (.slice bov bv.length bcv)).other (a := ⟨w2.heap.size, 3, none⟩) (by dsimp only; omega) (.slice sov sv.length scv)).other (a := ⟨w2.heap.size, 4, none⟩) (by dsimp only; omega) (.slice rov rv.length rcv)))
          rw [← hV] at C10
          have hR10 : Grew p w w10 := by rw [hV]; exact (((((hR9.set (a := ⟨w2.heap.size, 0, none⟩) (by dsimp only; omega) (.int .i64 kapv)).set (a := ⟨w2.heap.size, 1, none⟩) (by dsimp only; omega) (.bool clv)).set (a := ⟨w2.heap.size, 2, none⟩) (by dsimp only; omega) (.slice bov bv.length bcv)).set (a := ⟨w2.heap.size, 3, none⟩) (by dsimp only; omega) (.slice sov sv.length scv)).set (a := ⟨w2.heap.size, 4, none⟩) (by dsimp only; omega) (.slice rov rv.length rcv))
          have hz10 : w9.heap.size ≤ w10.heap.size := by rw [hV]; simp
          have H10 := hid hV
          clear hV XR9 XA9 XX9 D9 E9 C9
          go_wp2
          clear r0 rf0 r1 rf1 r2 rf2 r3 rf3 r4 rf4 rz a0 af0 a1 af1 a2 af2 a3 af3 a4 af4 az x0 xf0 x1 xf1 x2 xf2 x3 xf3 x4 xf4 xz
          rw [← H10.out]
          clear H10
          go_roundw
          case rel => exact ⟨m, k7, sd7, kapv, clv, bov, bcv, bv, sov, scv, sv, rov, rcv, rv, by go_num, by omega, by omega, XR10, XA10, hid (E10.out.wide (by omega) (by omega)), S1, C10, hR10, by omega⟩
          case measure => simp [intOf] <;> omega
        · have hc1 : (cv == 0) = false := by simpa using hc
          have hc2 : decide (cv = 0) = false := by simpa using hc
          have r0 := XR9.out.c 0 rfl
          have rf0 := XR9.out.f 0 rfl
          have r1 := XR9.out.c 1 rfl
          have rf1 := XR9.out.f 1 rfl
          have r2 := XR9.out.c 2 rfl
          have rf2 := XR9.out.f 2 rfl
          have r3 := XR9.out.c 3 rfl
          have rf3 := XR9.out.f 3 rfl
          have r4 := XR9.out.c 4 rfl
          have rf4 := XR9.out.f 4 rfl
          have rz := XR9.out.size
          have a0 := XA9.out.c 0 rfl
          have af0 := XA9.out.f 0 rfl
          have a1 := XA9.out.c 1 rfl
          have af1 := XA9.out.f 1 rfl
          have a2 := XA9.out.c 2 rfl
          have af2 := XA9.out.f 2 rfl
          have a3 := XA9.out.c 3 rfl
          have af3 := XA9.out.f 3 rfl
          have a4 := XA9.out.c 4 rfl
          have af4 := XA9.out.f 4 rfl
          have az := XA9.out.size
          have x0 := XX9.out.c 0 rfl
          have xf0 := XX9.out.f 0 rfl
          have x1 := XX9.out.c 1 rfl
          have xf1 := XX9.out.f 1 rfl
          have x2 := XX9.out.c 2 rfl
          have xf2 := XX9.out.f 2 rfl
          have x3 := XX9.out.c 3 rfl
          have xf3 := XX9.out.f 3 rfl
          have x4 := XX9.out.c 4 rfl
          have xf4 := XX9.out.f 4 rfl
          have xz := XX9.out.size
          go_wp2
          clear r0 rf0 r1 rf1 r2 rf2 r3 rf3 r4 rf4 rz a0 af0 a1 af1 a2 af2 a3 af3 a4 af4 az x0 xf0 x1 xf1 x2 xf2 x3 xf3 x4 xf4 xz
          go_roundw
          case rel => exact ⟨m, k7, sd7, kap, cl, bo, bc, b, so, sc, s, ro, rc, r, by go_num, by omega, by omega, XR9, XA9, hid (D9.out.wide (by omega) (by omega)), S0, C9, hR9, by omega⟩
          case measure => simp [intOf] <;> omega
      · have r0 := XR7.out.c 0 rfl
        have rf0 := XR7.out.f 0 rfl
        have r1 := XR7.out.c 1 rfl
        have rf1 := XR7.out.f 1 rfl
        have r2 := XR7.out.c 2 rfl
        have rf2 := XR7.out.f 2 rfl
        have r3 := XR7.out.c 3 rfl
        have rf3 := XR7.out.f 3 rfl
        have r4 := XR7.out.c 4 rfl
        have rf4 := XR7.out.f 4 rfl
        have rz := XR7.out.size
        have a0 := XA7.out.c 0 rfl
        have af0 := XA7.out.f 0 rfl
        have a1 := XA7.out.c 1 rfl
        have af1 := XA7.out.f 1 rfl
        have a2 := XA7.out.c 2 rfl
        have af2 := XA7.out.f 2 rfl
        have a3 := XA7.out.c 3 rfl
        have af3 := XA7.out.f 3 rfl
        have a4 := XA7.out.c 4 rfl
        have af4 := XA7.out.f 4 rfl
        have az := XA7.out.size
        have x0 := XX7.out.c 0 rfl
        have xf0 := XX7.out.f 0 rfl
        have x1 := XX7.out.c 1 rfl
        have xf1 := XX7.out.f 1 rfl
        have x2 := XX7.out.c 2 rfl
        have xf2 := XX7.out.f 2 rfl
        have x3 := XX7.out.c 3 rfl
        have xf3 := XX7.out.f 3 rfl
        have x4 := XX7.out.c 4 rfl
        have xf4 := XX7.out.f 4 rfl
        have xz := XX7.out.size
        go_wp2_with fail
        clear r0 rf0 r1 rf1 r2 rf2 r3 rf3 r4 rf4 rz a0 af0 a1 af1 a2 af2 a3 af3 a4 af4 az x0 xf0 x1 xf1 x2 xf2 x3 xf3 x4 xf4 xz
        refine (stepT kap cl bo bc b so sc s ro rc r w7 S0.out D7.out).mono ?_
        rintro e w8 ⟨⟨kapv, clv, bov, bcv, bv, sov, scv, sv, rov, rcv, rv, xv, yv1, yv2, yv3, cv, rfl, hS1, hW1⟩, hy⟩
        have XR8 := hid (XR7.out.later hy)
        have XA8 := hid (XA7.out.later hy)
        have XX8 := hid (XX7.out.later hy)
        have D8 := hid (D7.out.later hy)
        have C8 := hid (C7.out.later hy)
        have hR8 : Grew p w w8 := hR7.trans (Grew.of_below hy)
        have hz8 : w7.heap.size ≤ w8.heap.size := hy.size
        clear XR7 XA7 XX7 D7 C7 
        have E8 := hid hW1
        have HS1 := hid hS1
        clear hW1 hS1 hy
        have r0 := XR8.out.c 0 rfl
        have rf0 := XR8.out.f 0 rfl
        have r1 := XR8.out.c 1 rfl
        have rf1 := XR8.out.f 1 rfl
        have r2 := XR8.out.c 2 rfl
        have rf2 := XR8.out.f 2 rfl
        have r3 := XR8.out.c 3 rfl
        have rf3 := XR8.out.f 3 rfl
        have r4 := XR8.out.c 4 rfl
        have rf4 := XR8.out.f 4 rfl
        have rz := XR8.out.size
        have a0 := XA8.out.c 0 rfl
        have af0 := XA8.out.f 0 rfl
        have a1 := XA8.out.c 1 rfl
        have af1 := XA8.out.f 1 rfl
        have a2 := XA8.out.c 2 rfl
        have af2 := XA8.out.f 2 rfl
        have a3 := XA8.out.c 3 rfl
        have af3 := XA8.out.f 3 rfl
        have a4 := XA8.out.c 4 rfl
        have af4 := XA8.out.f 4 rfl
        have az := XA8.out.size
        have x0 := XX8.out.c 0 rfl
        have xf0 := XX8.out.f 0 rfl
        have x1 := XX8.out.c 1 rfl
        have xf1 := XX8.out.f 1 rfl
        have x2 := XX8.out.c 2 rfl
        have xf2 := XX8.out.f 2 rfl
        have x3 := XX8.out.c 3 rfl
        have xf3 := XX8.out.f 3 rfl
        have x4 := XX8.out.c 4 rfl
        have xf4 := XX8.out.f 4 rfl
        have xz := XX8.out.size
        obtain ⟨w9, hV⟩ : ∃ V, V = (((((w8.setCell ⟨wr.heap.size, 0, none⟩ (.int .i64 kapv)).setCell ⟨wr.heap.size, 1, none⟩ (.bool clv)).setCell ⟨wr.heap.size, 2, none⟩ (.slice bov bv.length bcv)).setCell ⟨wr.heap.size, 3, none⟩ (.slice sov sv.length scv)).setCell ⟨wr.heap.size, 4, none⟩ (.slice rov rv.length rcv)) := ⟨_, rfl⟩
        have XR9 := hid ((((((XR8.out.other (a := ⟨wr.heap.size, 0, none⟩) (by dsimp only; omega) (.int .i64 kapv)).other (a := ⟨wr.heap.size, 1, none⟩) (by dsimp only; omega) (.bool clv)).other (a := ⟨wr.heap.size, 2, none⟩) (by dsimp only; omega) (.slice bov bv.length bcv)).other (a := ⟨wr.heap.size, 3, none⟩) (by dsimp only; omega) (.slice sov sv.length scv)).other (a := ⟨wr.heap.size, 4, none⟩) (by dsimp only; omega) (.slice rov rv.length rcv)))
        rw [← hV] at XR9
        have XA9 := hid ((((((XA8.out.other (a := ⟨wr.heap.size, 0, none⟩) (by dsimp only; omega) (.int .i64 kapv)).other (a := ⟨wr.heap.size, 1, none⟩) (by dsimp only; omega) (.bool clv)).other (a := ⟨wr.heap.size, 2, none⟩) (by dsimp only; omega) (.slice bov bv.length bcv)).other (a := ⟨wr.heap.size, 3, none⟩) (by dsimp only; omega) (.slice sov sv.length scv)).other (a := ⟨wr.heap.size, 4, none⟩) (by dsimp only; omega) (.slice rov rv.length rcv)))
        rw [← hV] at XA9
        have XX9 := hid ((((((XX8.out.set 0 (.int .i64 kapv)).set 1 (.bool clv)).set 2 (.slice bov bv.length bcv)).set 3 (.slice sov sv.length scv)).set 4 (.slice rov rv.length rcv)))
        rw [← hV] at XX9
        have D9 := hid ((((((D8.out.setOff (a := ⟨wr.heap.size, 0, none⟩) (by dsimp only; omega) (.int .i64 kapv)).setOff (a := ⟨wr.heap.size, 1, none⟩) (by dsimp only; omega) (.bool clv)).setOff (a := ⟨wr.heap.size, 2, none⟩) (by dsimp only; omega) (.slice bov bv.length bcv)).setOff (a := ⟨wr.heap.size, 3, none⟩) (by dsimp only; omega) (.slice sov sv.length scv)).setOff (a := ⟨wr.heap.size, 4, none⟩) (by dsimp only; omega) (.slice rov rv.length rcv)))
        rw [← hV] at D9
        have E9 := hid ((((((E8.out.setOff (a := ⟨wr.heap.size, 0, none⟩) (by dsimp only; omega) (.int .i64 kapv)).setOff (a := ⟨wr.heap.size, 1, none⟩) (by dsimp only; omega) (.bool clv)).setOff (a := ⟨wr.heap.size, 2, none⟩) (by dsimp only; omega) (.slice bov bv.length bcv)).setOff (a := ⟨wr.heap.size, 3, none⟩) (by dsimp only; omega) (.slice sov sv.length scv)).setOff (a := ⟨wr.heap.size, 4, none⟩) (by dsimp only; omega) (.slice rov rv.length rcv)))
        rw [← hV] at E9
        have C9 := hid ((((((C8.out.other (a := ⟨wr.heap.size, 0, none⟩) (by dsimp only; omega) (.int .i64 kapv)).other (a := ⟨wr.heap.size, 1, none⟩) (by dsimp only; omega) (.bool clv)).other (a := ⟨wr.heap.size, 2, none⟩) (by dsimp only; omega) (.slice bov bv.length bcv)).other (a := ⟨wr.heap.size, 3, none⟩) (by dsimp only; omega) (.slice sov sv.length scv)).other (a := ⟨wr.heap.size, 4, none⟩) (by dsimp only; omega) (.slice rov rv.length rcv)))
        rw [← hV] at C9
        have hR9 : Grew p w w9 := by rw [hV]; exact (((((hR8.set (a := ⟨wr.heap.size, 0, none⟩) (by dsimp only; omega) (.int .i64 kapv)).set (a := ⟨wr.heap.size, 1, none⟩) (by dsimp only; omega) (.bool clv)).set (a := ⟨wr.heap.size, 2, none⟩) (by dsimp only; omega) (.slice bov bv.length bcv)).set (a := ⟨wr.heap.size, 3, none⟩) (by dsimp only; omega) (.slice sov sv.length scv)).set (a := ⟨wr.heap.size, 4, none⟩) (by dsimp only; omega) (.slice rov rv.length rcv))
        have hz9 : w8.heap.size ≤ w9.heap.size := by rw [hV]; simp
        have H9 := hid hV
        clear hV XR8 XA8 XX8 D8 E8 C8
        go_upto_region 18 with fail
        clear r0 rf0 r1 rf1 r2 rf2 r3 rf3 r4 rf4 rz a0 af0 a1 af1 a2 af2 a3 af3 a4 af4 az x0 xf0 x1 xf1 x2 xf2 x3 xf3 x4 xf4 xz
        rw [← H9.out]
        clear H9
        by_cases hc : cv = 0
        · have S1 := hid (HS1.out hc)
          subst hc
          have r0 := XR9.out.c 0 rfl
          have rf0 := XR9.out.f 0 rfl
          have r1 := XR9.out.c 1 rfl
          have rf1 := XR9.out.f 1 rfl
          have r2 := XR9.out.c 2 rfl
          have rf2 := XR9.out.f 2 rfl
          have r3 := XR9.out.c 3 rfl
          have rf3 := XR9.out.f 3 rfl
          have r4 := XR9.out.c 4 rfl
          have rf4 := XR9.out.f 4 rfl
          have rz := XR9.out.size
          have a0 := XA9.out.c 0 rfl
          have af0 := XA9.out.f 0 rfl
          have a1 := XA9.out.c 1 rfl
          have af1 := XA9.out.f 1 rfl
          have a2 := XA9.out.c 2 rfl
          have af2 := XA9.out.f 2 rfl
          have a3 := XA9.out.c 3 rfl
          have af3 := XA9.out.f 3 rfl
          have a4 := XA9.out.c 4 rfl
          have af4 := XA9.out.f 4 rfl
          have az := XA9.out.size
          have x0 := XX9.out.c 0 rfl
          have xf0 := XX9.out.f 0 rfl
          have x1 := XX9.out.c 1 rfl
          have xf1 := XX9.out.f 1 rfl
          have x2 := XX9.out.c 2 rfl
          have xf2 := XX9.out.f 2 rfl
          have x3 := XX9.out.c 3 rfl
          have xf3 := XX9.out.f 3 rfl
          have x4 := XX9.out.c 4 rfl
          have xf4 := XX9.out.f 4 rfl
          have xz := XX9.out.size
          obtain ⟨w10, hV⟩ : ∃ V, V = (((((w9.setCell ⟨w2.heap.size, 0, none⟩ (.int .i64 kapv)).setCell ⟨w2.heap.size, 1, none⟩ (.bool clv)).setCell ⟨w2.heap.size, 2, none⟩ (.slice bov bv.length bcv)).setCell ⟨w2.heap.size, 3, none⟩ (.slice sov sv.length scv)).setCell ⟨w2.heap.size, 4, none⟩ (.slice rov rv.length rcv)) := ⟨_, rfl⟩
          have XR10 := hid ((((((XR9.out.other (a := ⟨w2.heap.size, 0, none⟩) (by dsimp only; omega) (.int .i64 kapv)).other (a := ⟨w2.heap.size, 1, none⟩) (by dsimp only; omega) (.bool clv)).other (a := ⟨w2.heap.size, 2, none⟩) (by dsimp only; omega) (.slice bov bv.length bcv)).other (a := ⟨w2.heap.size, 3, none⟩) (by dsimp only; omega) (.slice sov sv.length scv)).other (a := ⟨w2.heap.size, 4, none⟩) (by dsimp only; omega) (.slice rov rv.length rcv)))
          rw [← hV] at XR10
          have XA10 := hid ((((((XA9.out.set 0 (.int .i64 kapv)).set 1 (.bool clv)).set 2 (.slice bov bv.length bcv)).set 3 (.slice sov sv.length scv)).set 4 (.slice rov rv.length rcv)))
          rw [← hV] at XA10
          have XX10 := hid ((((((XX9.out.other (a := ⟨w2.heap.size, 0, none⟩) (by dsimp only; omega) (.int .i64 kapv)).other (a := ⟨w2.heap.size, 1, none⟩) (by dsimp only; omega) (.bool clv)).other (a := ⟨w2.heap.size, 2, none⟩) (by dsimp only; omega) (.slice bov bv.length bcv)).other (a := ⟨w2.heap.size, 3, none⟩) (by dsimp only; omega) (.slice sov sv.length scv)).other (a := ⟨w2.heap.size, 4, none⟩) (by dsimp only; omega) (.slice rov rv.length rcv)))
          rw [← hV] at XX10
          have D10 := hid ((((((D9.out.setOff (a := ⟨w2.heap.size, 0, none⟩) (by dsimp only; omega) (.int .i64 kapv)).setOff (a := ⟨w2.heap.size, 1, none⟩) (by dsimp only; omega) (.bool clv)).setOff (a := ⟨w2.heap.size, 2, none⟩) (by dsimp only; omega) (.slice bov bv.length bcv)).setOff (a := ⟨w2.heap.size, 3, none⟩) (by dsimp only; omega) (.slice sov sv.length scv)).setOff (a := ⟨w2.heap.size, 4, none⟩) (by dsimp only; omega) (.slice rov rv.length rcv)))
          rw [← hV] at D10
          have E10 := hid ((((((E9.out.setOff (a := ⟨w2.heap.size, 0, none⟩) (by dsimp only; omega) (.int .i64 kapv)).setOff (a := ⟨w2.heap.size, 1, none⟩) (by dsimp only; omega) (.bool clv)).setOff (a := ⟨w2.heap.size, 2, none⟩) (by dsimp only; omega) (.slice bov bv.length bcv)).setOff (a := ⟨w2.heap.size, 3, none⟩) (by dsimp only; omega) (.slice sov sv.length scv)).setOff (a := ⟨w2.heap.size, 4, none⟩) (by dsimp only; omega) (.slice rov rv.length rcv)))
          rw [← hV] at E10
          have C10 := hid ((((((C9.out.other (a := ⟨w2.heap.size, 0, none⟩) (by dsimp only; omega) (.int .i64 kapv)).other (a := ⟨w2.heap.size, 1, none⟩) (by dsimp only; omega) (.bool clv)).other (a := ⟨w2.heap.size, 2, none⟩) (by dsimp only; omega) (.slice bov bv.length bcv)).other (a := ⟨w2.heap.size, 3, none⟩) (by dsimp only; omega) (.slice sov sv.length scv)).other (a := ⟨w2.heap.size, 4, none⟩) (by dsimp only; omega) (.slice rov rv.length rcv)))
          rw [← hV] at C10
          have hR10 : Grew p w w10 := by rw [hV]; exact (((((hR9.set (a := ⟨w2.heap.size, 0, none⟩) (by dsimp only; omega) (.int .i64 kapv)).set (a := ⟨w2.heap.size, 1, none⟩) (by dsimp only; omega) (.bool clv)).set (a := ⟨w2.heap.size, 2, none⟩) (by dsimp only; omega) (.slice bov bv.length bcv)).set (a := ⟨w2.heap.size, 3, none⟩) (by dsimp only; omega) (.slice sov sv.length scv)).set (a := ⟨w2.heap.size, 4, none⟩) (by dsimp only; omega) (.slice rov rv.length rcv))
          have hz10 : w9.heap.size ≤ w10.heap.size := by rw [hV]; simp
          have H10 := hid hV
          clear hV XR9 XA9 XX9 D9 E9 C9
          go_wp2
          clear r0 rf0 r1 rf1 r2 rf2 r3 rf3 r4 rf4 rz a0 af0 a1 af1 a2 af2 a3 af3 a4 af4 az x0 xf0 x1 xf1 x2 xf2 x3 xf3 x4 xf4 xz
          rw [← H10.out]
          clear H10
          go_roundw
          case rel => exact ⟨m, k7, sd7, kapv, clv, bov, bcv, bv, sov, scv, sv, rov, rcv, rv, by go_num, by omega, by omega, XR10, XA10, hid (E10.out.wide (by omega) (by omega)), S1, C10, hR10, by omega⟩
          case measure => simp [intOf] <;> omega
        · have hc1 : (cv == 0) = false := by simpa using hc
          have hc2 : decide (cv = 0) = false := by simpa using hc
          have r0 := XR9.out.c 0 rfl
          have rf0 := XR9.out.f 0 rfl
          have r1 := XR9.out.c 1 rfl
          have rf1 := XR9.out.f 1 rfl
          have r2 := XR9.out.c 2 rfl
          have rf2 := XR9.out.f 2 rfl
          have r3 := XR9.out.c 3 rfl
          have rf3 := XR9.out.f 3 rfl
          have r4 := XR9.out.c 4 rfl
          have rf4 := XR9.out.f 4 rfl
          have rz := XR9.out.size
          have a0 := XA9.out.c 0 rfl
          have af0 := XA9.out.f 0 rfl
          have a1 := XA9.out.c 1 rfl
          have af1 := XA9.out.f 1 rfl
          have a2 := XA9.out.c 2 rfl
          have af2 := XA9.out.f 2 rfl
          have a3 := XA9.out.c 3 rfl
          have af3 := XA9.out.f 3 rfl
          have a4 := XA9.out.c 4 rfl
          have af4 := XA9.out.f 4 rfl
          have az := XA9.out.size
          have x0 := XX9.out.c 0 rfl
          have xf0 := XX9.out.f 0 rfl
          have x1 := XX9.out.c 1 rfl
          have xf1 := XX9.out.f 1 rfl
          have x2 := XX9.out.c 2 rfl
          have xf2 := XX9.out.f 2 rfl
          have x3 := XX9.out.c 3 rfl
          have xf3 := XX9.out.f 3 rfl
          have x4 := XX9.out.c 4 rfl
          have xf4 := XX9.out.f 4 rfl
          have xz := XX9.out.size
          go_wp2
          clear r0 rf0 r1 rf1 r2 rf2 r3 rf3 r4 rf4 rz a0 af0 a1 af1 a2 af2 a3 af3 a4 af4 az x0 xf0 x1 xf1 x2 xf2 x3 xf3 x4 xf4 xz
          go_roundw
          case rel => exact ⟨m, k7, sd7, kap, cl, bo, bc, b, so, sc, s, ro, rc, r, by go_num, by omega, by omega, XR9, XA9, hid (D9.out.wide (by omega) (by omega)), S0, C9, hR9, by omega⟩
          case measure => simp [intOf] <;> omega
      · have r0 := XR7.out.c 0 rfl
        have rf0 := XR7.out.f 0 rfl
        have r1 := XR7.out.c 1 rfl
        have rf1 := XR7.out.f 1 rfl
        have r2 := XR7.out.c 2 rfl
        have rf2 := XR7.out.f 2 rfl
        have r3 := XR7.out.c 3 rfl
        have rf3 := XR7.out.f 3 rfl
        have r4 := XR7.out.c 4 rfl
        have rf4 := XR7.out.f 4 rfl
        have rz := XR7.out.size
        have a0 := XA7.out.c 0 rfl
        have af0 := XA7.out.f 0 rfl
        have a1 := XA7.out.c 1 rfl
        have af1 := XA7.out.f 1 rfl
        have a2 := XA7.out.c 2 rfl
        have af2 := XA7.out.f 2 rfl
        have a3 := XA7.out.c 3 rfl
        have af3 := XA7.out.f 3 rfl
        have a4 := XA7.out.c 4 rfl
        have af4 := XA7.out.f 4 rfl
        have az := XA7.out.size
        have x0 := XX7.out.c 0 rfl
        have xf0 := XX7.out.f 0 rfl
        have x1 := XX7.out.c 1 rfl
        have xf1 := XX7.out.f 1 rfl
        have x2 := XX7.out.c 2 rfl
        have xf2 := XX7.out.f 2 rfl
        have x3 := XX7.out.c 3 rfl
        have xf3 := XX7.out.f 3 rfl
        have x4 := XX7.out.c 4 rfl
        have xf4 := XX7.out.f 4 rfl
        have xz := XX7.out.size
        go_wp2
        have PD : w7.drew.cell? ⟨w2.heap.size, 0, none⟩ = some (.int .i64 kap) ∧ w7.drew.cell? ⟨w2.heap.size, 1, none⟩ = some (.bool cl) ∧ w7.drew.cell? ⟨w2.heap.size, 2, none⟩ = some (.slice bo b.length bc) ∧ w7.drew.cell? ⟨w2.heap.size, 3, none⟩ = some (.slice so s.length sc) ∧ w7.drew.cell? ⟨w2.heap.size, 4, none⟩ = some (.slice ro r.length rc) := ⟨a0, a1, a2, a3, a4⟩
        go_region_held3 (fun Y => Y.cell? ⟨w2.heap.size, 0, none⟩ = some (.int .i64 kap) ∧ Y.cell? ⟨w2.heap.size, 1, none⟩ = some (.bool cl) ∧ Y.cell? ⟨w2.heap.size, 2, none⟩ = some (.slice bo b.length bc) ∧ Y.cell? ⟨w2.heap.size, 3, none⟩ = some (.slice so s.length sc) ∧ Y.cell? ⟨w2.heap.size, 4, none⟩ = some (.slice ro r.length rc))
          (first | ((refine ⟨?_, ?_, ?_, ?_, ?_⟩ <;> (rw [World.cell?_setCell_other _ _ _ _ (by simp <;> omega), World.cell?_setCell_other _ _ _ _ (by simp <;> omega), World.cell?_setCell_other _ _ _ _ (by simp <;> omega), World.cell?_setCell_other _ _ _ _ (by simp <;> omega), World.cell?_setCell_other _ _ _ _ (by simp <;> omega)])); with_reducible exact P9.1; with_reducible exact P9.2.1; with_reducible exact P9.2.2.1; with_reducible exact P9.2.2.2.1; with_reducible exact P9.2.2.2.2) | (with_reducible exact ⟨a0, a1, a2, a3, a4⟩) | (with_reducible exact PD) | (with_reducible exact P8) | (with_reducible exact P9))
          (first
            | (go_at_call 38; refine (stepD kap cl bo bc b so sc s ro rc r z w8 S0.out D8.out).mono ?_; rintro e w9 ⟨⟨kapv, clv, bov, bcv, bv, sov, scv, sv, rov, rcv, rv, cv, rfl, hS1, hW1⟩, hy⟩; have hb9 : Below w8.heap.size w8 w9 := hy; have XR9 := hid (XR8.out.grew (Grew.of_below (p := p) hb9) (by omega)); have XA9 := hid (XA8.out.grew (Grew.of_below (p := p) hb9) (by omega)); have XX9 := hid (XX8.out.grew (Grew.of_below (p := p) hb9) (by omega)); have D9 := hid (D8.out.grew (Grew.of_below (p := p) hb9) (by omega)); have C9 := hid (C8.out.later hb9); have hR9 : Grew p w w9 := hR8.trans (Grew.of_below (p := p) hb9); have hz9 : w8.heap.size ≤ w9.heap.size := hb9.size; have E9 := hid (hW1); have HS9 := hid (hS1); have P9 : w9.cell? ⟨w2.heap.size, 0, none⟩ = some (.int .i64 kap) ∧ w9.cell? ⟨w2.heap.size, 1, none⟩ = some (.bool cl) ∧ w9.cell? ⟨w2.heap.size, 2, none⟩ = some (.slice bo b.length bc) ∧ w9.cell? ⟨w2.heap.size, 3, none⟩ = some (.slice so s.length sc) ∧ w9.cell? ⟨w2.heap.size, 4, none⟩ = some (.slice ro r.length rc) := ⟨XA9.out.c 0 rfl, XA9.out.c 1 rfl, XA9.out.c 2 rfl, XA9.out.c 3 rfl, XA9.out.c 4 rfl⟩; have rg0 := XR9.out.c 0 rfl; have rh0 := XR9.out.f 0 rfl; have rg1 := XR9.out.c 1 rfl; have rh1 := XR9.out.f 1 rfl; have rg2 := XR9.out.c 2 rfl; have rh2 := XR9.out.f 2 rfl; have rg3 := XR9.out.c 3 rfl; have rh3 := XR9.out.f 3 rfl; have rg4 := XR9.out.c 4 rfl; have rh4 := XR9.out.f 4 rfl; have ag0 := XA9.out.c 0 rfl; have ah0 := XA9.out.f 0 rfl; have ag1 := XA9.out.c 1 rfl; have ah1 := XA9.out.f 1 rfl; have ag2 := XA9.out.c 2 rfl; have ah2 := XA9.out.f 2 rfl; have ag3 := XA9.out.c 3 rfl; have ah3 := XA9.out.f 3 rfl; have ag4 := XA9.out.c 4 rfl; have ah4 := XA9.out.f 4 rfl; have xg0 := XX9.out.c 0 rfl; have xh0 := XX9.out.f 0 rfl; have xg1 := XX9.out.c 1 rfl; have xh1 := XX9.out.f 1 rfl; have xg2 := XX9.out.c 2 rfl; have xh2 := XX9.out.f 2 rfl; have xg3 := XX9.out.c 3 rfl; have xh3 := XX9.out.f 3 rfl; have xg4 := XX9.out.c 4 rfl; have xh4 := XX9.out.f 4 rfl; clear hy)
            | (go_at_call 36; refine (pick_any 7 p co cap bs k7 sd7 w7.drew hl (by omega) C7.out.drew).mono ?_; rintro e w8 ⟨⟨z, rfl, h0z, h1z⟩, hD⟩; obtain ⟨k8, sd8, hk8, hC8, hg, hsz8⟩ := hD.grew; have hg8 : Grew p w7 w8 := hg.from; have XR8 := hid (XR7.out.grew hg8 (by omega)); have XA8 := hid (XA7.out.grew hg8 (by omega)); have XX8 := hid (XX7.out.grew hg8 (by omega)); have D8 := hid (D7.out.grew hg8 (by omega)); have C8 := hid hC8; have hR8 : Grew p w w8 := hR7.trans hg8; have hz8 : w7.heap.size ≤ w8.heap.size := hg8.size; have P8 : w8.cell? ⟨w2.heap.size, 0, none⟩ = some (.int .i64 kap) ∧ w8.cell? ⟨w2.heap.size, 1, none⟩ = some (.bool cl) ∧ w8.cell? ⟨w2.heap.size, 2, none⟩ = some (.slice bo b.length bc) ∧ w8.cell? ⟨w2.heap.size, 3, none⟩ = some (.slice so s.length sc) ∧ w8.cell? ⟨w2.heap.size, 4, none⟩ = some (.slice ro r.length rc) := ⟨XA8.out.c 0 rfl, XA8.out.c 1 rfl, XA8.out.c 2 rfl, XA8.out.c 3 rfl, XA8.out.c 4 rfl⟩; clear hD hC8 hg hsz8))
        all_goals
          have HS1 := hid HS9.out
          clear HS9
          obtain ⟨w10, hV⟩ : ∃ V, V = (((((w9.setCell ⟨wr.heap.size, 0, none⟩ (.int .i64 kapv)).setCell ⟨wr.heap.size, 1, none⟩ (.bool clv)).setCell ⟨wr.heap.size, 2, none⟩ (.slice bov bv.length bcv)).setCell ⟨wr.heap.size, 3, none⟩ (.slice sov sv.length scv)).setCell ⟨wr.heap.size, 4, none⟩ (.slice rov rv.length rcv)) := ⟨_, rfl⟩
          have XR10 := hid ((((((XR9.out.other (a := ⟨wr.heap.size, 0, none⟩) (by dsimp only; omega) (.int .i64 kapv)).other (a := ⟨wr.heap.size, 1, none⟩) (by dsimp only; omega) (.bool clv)).other (a := ⟨wr.heap.size, 2, none⟩) (by dsimp only; omega) (.slice bov bv.length bcv)).other (a := ⟨wr.heap.size, 3, none⟩) (by dsimp only; omega) (.slice sov sv.length scv)).other (a := ⟨wr.heap.size, 4, none⟩) (by dsimp only; omega) (.slice rov rv.length rcv)))
          rw [← hV] at XR10
          have XA10 := hid ((((((XA9.out.other (a := ⟨wr.heap.size, 0, none⟩) (by dsimp only; omega) (.int .i64 kapv)).other (a := ⟨wr.heap.size, 1, none⟩) (by dsimp only; omega) (.bool clv)).other (a := ⟨wr.heap.size, 2, none⟩) (by dsimp only; omega) (.slice bov bv.length bcv)).other (a := ⟨wr.heap.size, 3, none⟩) (by dsimp only; omega) (.slice sov sv.length scv)).other (a := ⟨wr.heap.size, 4, none⟩) (by dsimp only; omega) (.slice rov rv.length rcv)))
          rw [← hV] at XA10
          have XX10 := hid ((((((XX9.out.set 0 (.int .i64 kapv)).set 1 (.bool clv)).set 2 (.slice bov bv.length bcv)).set 3 (.slice sov sv.length scv)).set 4 (.slice rov rv.length rcv)))
          rw [← hV] at XX10
          have D10 := hid ((((((D9.out.setOff (a := ⟨wr.heap.size, 0, none⟩) (by dsimp only; omega) (.int .i64 kapv)).setOff (a := ⟨wr.heap.size, 1, none⟩) (by dsimp only; omega) (.bool clv)).setOff (a := ⟨wr.heap.size, 2, none⟩) (by dsimp only; omega) (.slice bov bv.length bcv)).setOff (a := ⟨wr.heap.size, 3, none⟩) (by dsimp only; omega) (.slice sov sv.length scv)).setOff (a := ⟨wr.heap.size, 4, none⟩) (by dsimp only; omega) (.slice rov rv.length rcv)))
          rw [← hV] at D10
          have E10 := hid ((((((E9.out.setOff (a := ⟨wr.heap.size, 0, none⟩) (by dsimp only; omega) (.int .i64 kapv)).setOff (a := ⟨wr.heap.size, 1, none⟩) (by dsimp only; omega) (.bool clv)).setOff (a := ⟨wr.heap.size, 2, none⟩) (by dsimp only; omega) (.slice bov bv.length bcv)).setOff (a := ⟨wr.heap.size, 3, none⟩) (by dsimp only; omega) (.slice sov sv.length scv)).setOff (a := ⟨wr.heap.size, 4, none⟩) (by dsimp only; omega) (.slice rov rv.length rcv)))
          rw [← hV] at E10
          have C10 := hid ((((((C9.out.other (a := ⟨wr.heap.size, 0, none⟩) (by dsimp only; omega) (.int .i64 kapv)).other (a := ⟨wr.heap.size, 1, none⟩) (by dsimp only; omega) (.bool clv)).other (a := ⟨wr.heap.size, 2, none⟩) (by dsimp only; omega) (.slice bov bv.length bcv)).other (a := ⟨wr.heap.size, 3, none⟩) (by dsimp only; omega) (.slice sov sv.length scv)).other (a := ⟨wr.heap.size, 4, none⟩) (by dsimp only; omega) (.slice rov rv.length rcv)))
          rw [← hV] at C10
          have hR10 : Grew p w w10 := by rw [hV]; exact (((((hR9.set (a := ⟨wr.heap.size, 0, none⟩) (by dsimp only; omega) (.int .i64 kapv)).set (a := ⟨wr.heap.size, 1, none⟩) (by dsimp only; omega) (.bool clv)).set (a := ⟨wr.heap.size, 2, none⟩) (by dsimp only; omega) (.slice bov bv.length bcv)).set (a := ⟨wr.heap.size, 3, none⟩) (by dsimp only; omega) (.slice sov sv.length scv)).set (a := ⟨wr.heap.size, 4, none⟩) (by dsimp only; omega) (.slice rov rv.length rcv))
          have hz10 : w9.heap.size ≤ w10.heap.size := by rw [hV]; simp
          have H10 := hid hV
          clear hV XR9 XA9 XX9 D9 E9 C9
          go_upto_region 18 with fail
          clear rg0 rh0 rg1 rh1 rg2 rh2 rg3 rh3 rg4 rh4 ag0 ah0 ag1 ah1 ag2 ah2 ag3 ah3 ag4 ah4 xg0 xh0 xg1 xh1 xg2 xh2 xg3 xh3 xg4 xh4
          rw [← H10.out]
          clear H10
          by_cases hc : cv = 0
          · have S1 := hid (HS1.out hc)
            subst hc
            have r0 := XR10.out.c 0 rfl
            have rf0 := XR10.out.f 0 rfl
            have r1 := XR10.out.c 1 rfl
            have rf1 := XR10.out.f 1 rfl
            have r2 := XR10.out.c 2 rfl
            have rf2 := XR10.out.f 2 rfl
            have r3 := XR10.out.c 3 rfl
            have rf3 := XR10.out.f 3 rfl
            have r4 := XR10.out.c 4 rfl
            have rf4 := XR10.out.f 4 rfl
            have rz := XR10.out.size
            have a0 := XA10.out.c 0 rfl
            have af0 := XA10.out.f 0 rfl
            have a1 := XA10.out.c 1 rfl
            have af1 := XA10.out.f 1 rfl
            have a2 := XA10.out.c 2 rfl
            have af2 := XA10.out.f 2 rfl
            have a3 := XA10.out.c 3 rfl
            have af3 := XA10.out.f 3 rfl
            have a4 := XA10.out.c 4 rfl
            have af4 := XA10.out.f 4 rfl
            have az := XA10.out.size
            have x0 := XX10.out.c 0 rfl
            have xf0 := XX10.out.f 0 rfl
            have x1 := XX10.out.c 1 rfl
            have xf1 := XX10.out.f 1 rfl
            have x2 := XX10.out.c 2 rfl
            have xf2 := XX10.out.f 2 rfl
            have x3 := XX10.out.c 3 rfl
            have xf3 := XX10.out.f 3 rfl
            have x4 := XX10.out.c 4 rfl
            have xf4 := XX10.out.f 4 rfl
            have xz := XX10.out.size
            obtain ⟨w11, hV⟩ : ∃ V, V = (((((w10.setCell ⟨w2.heap.size, 0, none⟩ (.int .i64 kapv)).setCell ⟨w2.heap.size, 1, none⟩ (.bool clv)).setCell ⟨w2.heap.size, 2, none⟩ (.slice bov bv.length bcv)).setCell ⟨w2.heap.size, 3, none⟩ (.slice sov sv.length scv)).setCell ⟨w2.heap.size, 4, none⟩ (.slice rov rv.length rcv)) := ⟨_, rfl⟩
            have XR11 := hid ((((((XR10.out.other (a := ⟨w2.heap.size, 0, none⟩) (by dsimp only; omega) (.int .i64 kapv)).other (a := ⟨w2.heap.size, 1, none⟩) (by dsimp only; omega) (.bool clv)).other (a := ⟨w2.heap.size, 2, none⟩) (by dsimp only; omega) (.slice bov bv.length bcv)).other (a := ⟨w2.heap.size, 3, none⟩) (by dsimp only; omega) (.slice sov sv.length scv)).other (a := ⟨w2.heap.size, 4, none⟩) (by dsimp only; omega) (.slice rov rv.length rcv)))
            rw [← hV] at XR11
            have XA11 := hid ((((((XA10.out.set 0 (.int .i64 kapv)).set 1 (.bool clv)).set 2 (.slice bov bv.length bcv)).set 3 (.slice sov sv.length scv)).set 4 (.slice rov rv.length rcv)))
            rw [← hV] at XA11
            have XX11 := hid ((((((XX10.out.other (a := ⟨w2.heap.size, 0, none⟩) (by dsimp only; omega) (.int .i64 kapv)).other (a := ⟨w2.heap.size, 1, none⟩) (by dsimp only; omega) (.bool clv)).other (a := ⟨w2.heap.size, 2, none⟩) (by dsimp only; omega) (.slice bov bv.length bcv)).other (a := ⟨w2.heap.size, 3, none⟩) (by dsimp only; omega) (.slice sov sv.length scv)).other (a := ⟨w2.heap.size, 4, none⟩) (by dsimp only; omega) (.slice rov rv.length rcv)))
            rw [← hV] at XX11
            have D11 := hid ((((((D10.out.setOff (a := ⟨w2.heap.size, 0, none⟩) (by dsimp only; omega) (.int .i64 kapv)).setOff (a := ⟨w2.heap.size, 1, none⟩) (by dsimp only; omega) (.bool clv)).setOff (a := ⟨w2.heap.size, 2, none⟩) (by dsimp only; omega) (.slice bov bv.length bcv)).setOff (a := ⟨w2.heap.size, 3, none⟩) (by dsimp only; omega) (.slice sov sv.length scv)).setOff (a := ⟨w2.heap.size, 4, none⟩) (by dsimp only; omega) (.slice rov rv.length rcv)))
            rw [← hV] at D11
            have E11 := hid ((((((E10.out.setOff (a := ⟨w2.heap.size, 0, none⟩) (by dsimp only; omega) (.int .i64 kapv)).setOff (a := ⟨w2.heap.size, 1, none⟩) (by dsimp only; omega) (.bool clv)).setOff (a := ⟨w2.heap.size, 2, none⟩) (by dsimp only; omega) (.slice bov bv.length bcv)).setOff (a := ⟨w2.heap.size, 3, none⟩) (by dsimp only; omega) (.slice sov sv.length scv)).setOff (a := ⟨w2.heap.size, 4, none⟩) (by dsimp only; omega) (.slice rov rv.length rcv)))
            rw [← hV] at E11
            have C11 := hid ((((((C10.out.other (a := ⟨w2.heap.size, 0, none⟩) (by dsimp only; omega) (.int .i64 kapv)).other (a := ⟨w2.heap.size, 1, none⟩) (by dsimp only; omega) (.bool clv)).other (a := ⟨w2.heap.size, 2, none⟩) (by dsimp only; omega) (.slice bov bv.length bcv)).other (a := ⟨w2.heap.size, 3, none⟩) (by dsimp only; omega) (.slice sov sv.length scv)).other (a := ⟨w2.heap.size, 4, none⟩) (by dsimp only; omega) (.slice rov rv.length rcv)))
            rw [← hV] at C11
            have hR11 : Grew p w w11 := by rw [hV]; exact (((((hR10.set (a := ⟨w2.heap.size, 0, none⟩) (by dsimp only; omega) (.int .i64 kapv)).set (a := ⟨w2.heap.size, 1, none⟩) (by dsimp only; omega) (.bool clv)).set (a := ⟨w2.heap.size, 2, none⟩) (by dsimp only; omega) (.slice bov bv.length bcv)).set (a := ⟨w2.heap.size, 3, none⟩) (by dsimp only; omega) (.slice sov sv.length scv)).set (a := ⟨w2.heap.size, 4, none⟩) (by dsimp only; omega) (.slice rov rv.length rcv))
            have hz11 : w10.heap.size ≤ w11.heap.size := by rw [hV]; simp
            have H11 := hid hV
            clear hV XR10 XA10 XX10 D10 E10 C10
            go_wp2
            clear r0 rf0 r1 rf1 r2 rf2 r3 rf3 r4 rf4 rz a0 af0 a1 af1 a2 af2 a3 af3 a4 af4 az x0 xf0 x1 xf1 x2 xf2 x3 xf3 x4 xf4 xz
            rw [← H11.out]
            clear H11
            go_roundw
            case rel => exact ⟨m, k8, sd8, kapv, clv, bov, bcv, bv, sov, scv, sv, rov, rcv, rv, by go_num, by omega, by omega, XR11, XA11, hid (E11.out.wide (by omega) (by omega)), S1, C11, hR11, by omega⟩
            case measure => simp [intOf] <;> omega
          · have hc1 : (cv == 0) = false := by simpa using hc
            have hc2 : decide (cv = 0) = false := by simpa using hc
            have r0 := XR10.out.c 0 rfl
            have rf0 := XR10.out.f 0 rfl
            have r1 := XR10.out.c 1 rfl
            have rf1 := XR10.out.f 1 rfl
            have r2 := XR10.out.c 2 rfl
            have rf2 := XR10.out.f 2 rfl
            have r3 := XR10.out.c 3 rfl
            have rf3 := XR10.out.f 3 rfl
            have r4 := XR10.out.c 4 rfl
            have rf4 := XR10.out.f 4 rfl
            have rz := XR10.out.size
            have a0 := XA10.out.c 0 rfl
            have af0 := XA10.out.f 0 rfl
            have a1 := XA10.out.c 1 rfl
            have af1 := XA10.out.f 1 rfl
            have a2 := XA10.out.c 2 rfl
            have af2 := XA10.out.f 2 rfl
            have a3 := XA10.out.c 3 rfl
            have af3 := XA10.out.f 3 rfl
            have a4 := XA10.out.c 4 rfl
            have af4 := XA10.out.f 4 rfl
            have az := XA10.out.size
            have x0 := XX10.out.c 0 rfl
            have xf0 := XX10.out.f 0 rfl
            have x1 := XX10.out.c 1 rfl
            have xf1 := XX10.out.f 1 rfl
            have x2 := XX10.out.c 2 rfl
            have xf2 := XX10.out.f 2 rfl
            have x3 := XX10.out.c 3 rfl
            have xf3 := XX10.out.f 3 rfl
            have x4 := XX10.out.c 4 rfl
            have xf4 := XX10.out.f 4 rfl
            have xz := XX10.out.size
            go_wp2
            clear r0 rf0 r1 rf1 r2 rf2 r3 rf3 r4 rf4 rz a0 af0 a1 af1 a2 af2 a3 af3 a4 af4 az x0 xf0 x1 xf1 x2 xf2 x3 xf3 x4 xf4 xz
            go_roundw
            case rel => exact ⟨m, k8, sd8, kap, cl, bo, bc, b, so, sc, s, ro, rc, r, by go_num, by omega, by omega, XR10, XA10, hid (D10.out.wide (by omega) (by omega)), S0, C10, hR10, by omega⟩
            case measure => simp [intOf] <;> omega
      · have r0 := XR7.out.c 0 rfl
        have rf0 := XR7.out.f 0 rfl
        have r1 := XR7.out.c 1 rfl
        have rf1 := XR7.out.f 1 rfl
        have r2 := XR7.out.c 2 rfl
        have rf2 := XR7.out.f 2 rfl
        have r3 := XR7.out.c 3 rfl
        have rf3 := XR7.out.f 3 rfl
        have r4 := XR7.out.c 4 rfl
        have rf4 := XR7.out.f 4 rfl
        have rz := XR7.out.size
        have a0 := XA7.out.c 0 rfl
        have af0 := XA7.out.f 0 rfl
        have a1 := XA7.out.c 1 rfl
        have af1 := XA7.out.f 1 rfl
        have a2 := XA7.out.c 2 rfl
        have af2 := XA7.out.f 2 rfl
        have a3 := XA7.out.c 3 rfl
        have af3 := XA7.out.f 3 rfl
        have a4 := XA7.out.c 4 rfl
        have af4 := XA7.out.f 4 rfl
        have az := XA7.out.size
        have x0 := XX7.out.c 0 rfl
        have xf0 := XX7.out.f 0 rfl
        have x1 := XX7.out.c 1 rfl
        have xf1 := XX7.out.f 1 rfl
        have x2 := XX7.out.c 2 rfl
        have xf2 := XX7.out.f 2 rfl
        have x3 := XX7.out.c 3 rfl
        have xf3 := XX7.out.f 3 rfl
        have x4 := XX7.out.c 4 rfl
        have xf4 := XX7.out.f 4 rfl
        have xz := XX7.out.size
        go_wp2_with fail
        clear r0 rf0 r1 rf1 r2 rf2 r3 rf3 r4 rf4 rz a0 af0 a1 af1 a2 af2 a3 af3 a4 af4 az x0 xf0 x1 xf1 x2 xf2 x3 xf3 x4 xf4 xz
        refine (stepG kap cl bo bc b so sc s ro rc r w7 S0.out D7.out).mono ?_
        rintro e w8 ⟨⟨kapv, clv, bov, bcv, bv, sov, scv, sv, rov, rcv, rv, cv, rfl, hS1, hW1⟩, hy⟩
        have XR8 := hid (XR7.out.later hy)
        have XA8 := hid (XA7.out.later hy)
        have XX8 := hid (XX7.out.later hy)
        have D8 := hid (D7.out.later hy)
        have C8 := hid (C7.out.later hy)
        have hR8 : Grew p w w8 := hR7.trans (Grew.of_below hy)
        have hz8 : w7.heap.size ≤ w8.heap.size := hy.size
        clear XR7 XA7 XX7 D7 C7 
        have E8 := hid hW1
        have HS1 := hid hS1
        clear hW1 hS1 hy
        have r0 := XR8.out.c 0 rfl
        have rf0 := XR8.out.f 0 rfl
        have r1 := XR8.out.c 1 rfl
        have rf1 := XR8.out.f 1 rfl
        have r2 := XR8.out.c 2 rfl
        have rf2 := XR8.out.f 2 rfl
        have r3 := XR8.out.c 3 rfl
        have rf3 := XR8.out.f 3 rfl
        have r4 := XR8.out.c 4 rfl
        have rf4 := XR8.out.f 4 rfl
        have rz := XR8.out.size
        have a0 := XA8.out.c 0 rfl
        have af0 := XA8.out.f 0 rfl
        have a1 := XA8.out.c 1 rfl
        have af1 := XA8.out.f 1 rfl
        have a2 := XA8.out.c 2 rfl
        have af2 := XA8.out.f 2 rfl
        have a3 := XA8.out.c 3 rfl
        have af3 := XA8.out.f 3 rfl
        have a4 := XA8.out.c 4 rfl
        have af4 := XA8.out.f 4 rfl
        have az := XA8.out.size
        have x0 := XX8.out.c 0 rfl
        have xf0 := XX8.out.f 0 rfl
        have x1 := XX8.out.c 1 rfl
        have xf1 := XX8.out.f 1 rfl
        have x2 := XX8.out.c 2 rfl
        have xf2 := XX8.out.f 2 rfl
        have x3 := XX8.out.c 3 rfl
        have xf3 := XX8.out.f 3 rfl
        have x4 := XX8.out.c 4 rfl
        have xf4 := XX8.out.f 4 rfl
        have xz := XX8.out.size
        obtain ⟨w9, hV⟩ : ∃ V, V = (((((w8.setCell ⟨wr.heap.size, 0, none⟩ (.int .i64 kapv)).setCell ⟨wr.heap.size, 1, none⟩ (.bool clv)).setCell ⟨wr.heap.size, 2, none⟩ (.slice bov bv.length bcv)).setCell ⟨wr.heap.size, 3, none⟩ (.slice sov sv.length scv)).setCell ⟨wr.heap.size, 4, none⟩ (.slice rov rv.length rcv)) := ⟨_, rfl⟩
        have XR9 := hid ((((((XR8.out.other (a := ⟨wr.heap.size, 0, none⟩) (by dsimp only; omega) (.int .i64 kapv)).other (a := ⟨wr.heap.size, 1, none⟩) (by dsimp only; omega) (.bool clv)).other (a := ⟨wr.heap.size, 2, none⟩) (by dsimp only; omega) (.slice bov bv.length bcv)).other (a := ⟨wr.heap.size, 3, none⟩) (by dsimp only; omega) (.slice sov sv.length scv)).other (a := ⟨wr.heap.size, 4, none⟩) (by dsimp only; omega) (.slice rov rv.length rcv)))
        rw [← hV] at XR9
        have XA9 := hid ((((((XA8.out.other (a := ⟨wr.heap.size, 0, none⟩) (by dsimp only; omega) (.int .i64 kapv)).other (a := ⟨wr.heap.size, 1, none⟩) (by dsimp only; omega) (.bool clv)).other (a := ⟨wr.heap.size, 2, none⟩) (by dsimp only; omega) (.slice bov bv.length bcv)).other (a := ⟨wr.heap.size, 3, none⟩) (by dsimp only; omega) (.slice sov sv.length scv)).other (a := ⟨wr.heap.size, 4, none⟩) (by dsimp only; omega) (.slice rov rv.length rcv)))
        rw [← hV] at XA9
        have XX9 := hid ((((((XX8.out.set 0 (.int .i64 kapv)).set 1 (.bool clv)).set 2 (.slice bov bv.length bcv)).set 3 (.slice sov sv.length scv)).set 4 (.slice rov rv.length rcv)))
        rw [← hV] at XX9
        have D9 := hid ((((((D8.out.setOff (a := ⟨wr.heap.size, 0, none⟩) (by dsimp only; omega) (.int .i64 kapv)).setOff (a := ⟨wr.heap.size, 1, none⟩) (by dsimp only; omega) (.bool clv)).setOff (a := ⟨wr.heap.size, 2, none⟩) (by dsimp only; omega) (.slice bov bv.length bcv)).setOff (a := ⟨wr.heap.size, 3, none⟩) (by dsimp only; omega) (.slice sov sv.length scv)).setOff (a := ⟨wr.heap.size, 4, none⟩) (by dsimp only; omega) (.slice rov rv.length rcv)))
        rw [← hV] at D9
        have E9 := hid ((((((E8.out.setOff (a := ⟨wr.heap.size, 0, none⟩) (by dsimp only; omega) (.int .i64 kapv)).setOff (a := ⟨wr.heap.size, 1, none⟩) (by dsimp only; omega) (.bool clv)).setOff (a := ⟨wr.heap.size, 2, none⟩) (by dsimp only; omega) (.slice bov bv.length bcv)).setOff (a := ⟨wr.heap.size, 3, none⟩) (by dsimp only; omega) (.slice sov sv.length scv)).setOff (a := ⟨wr.heap.size, 4, none⟩) (by dsimp only; omega) (.slice rov rv.length rcv)))
        rw [← hV] at E9
        have C9 := hid ((((((C8.out.other (a := ⟨wr.heap.size, 0, none⟩) (by dsimp only; omega) (.int .i64 kapv)).other (a := ⟨wr.heap.size, 1, none⟩) (by dsimp only; omega) (.bool clv)).other (a := ⟨wr.heap.size, 2, none⟩) (by dsimp only; omega) (.slice bov bv.length bcv)).other (a := ⟨wr.heap.size, 3, none⟩) (by dsimp only; omega) (.slice sov sv.length scv)).other (a := ⟨wr.heap.size, 4, none⟩) (by dsimp only; omega) (.slice rov rv.length rcv)))
        rw [← hV] at C9
        have hR9 : Grew p w w9 := by rw [hV]; exact (((((hR8.set (a := ⟨wr.heap.size, 0, none⟩) (by dsimp only; omega) (.int .i64 kapv)).set (a := ⟨wr.heap.size, 1, none⟩) (by dsimp only; omega) (.bool clv)).set (a := ⟨wr.heap.size, 2, none⟩) (by dsimp only; omega) (.slice bov bv.length bcv)).set (a := ⟨wr.heap.size, 3, none⟩) (by dsimp only; omega) (.slice sov sv.length scv)).set (a := ⟨wr.heap.size, 4, none⟩) (by dsimp only; omega) (.slice rov rv.length rcv))
        have hz9 : w8.heap.size ≤ w9.heap.size := by rw [hV]; simp
        have H9 := hid hV
        clear hV XR8 XA8 XX8 D8 E8 C8
        go_upto_region 18 with fail
        clear r0 rf0 r1 rf1 r2 rf2 r3 rf3 r4 rf4 rz a0 af0 a1 af1 a2 af2 a3 af3 a4 af4 az x0 xf0 x1 xf1 x2 xf2 x3 xf3 x4 xf4 xz
        rw [← H9.out]
        clear H9
        by_cases hc : cv = 0
        · have S1 := hid (HS1.out hc)
          subst hc
          have r0 := XR9.out.c 0 rfl
          have rf0 := XR9.out.f 0 rfl
          have r1 := XR9.out.c 1 rfl
          have rf1 := XR9.out.f 1 rfl
          have r2 := XR9.out.c 2 rfl
          have rf2 := XR9.out.f 2 rfl
          have r3 := XR9.out.c 3 rfl
          have rf3 := XR9.out.f 3 rfl
          have r4 := XR9.out.c 4 rfl
          have rf4 := XR9.out.f 4 rfl
          have rz := XR9.out.size
          have a0 := XA9.out.c 0 rfl
          have af0 := XA9.out.f 0 rfl
          have a1 := XA9.out.c 1 rfl
          have af1 := XA9.out.f 1 rfl
          have a2 := XA9.out.c 2 rfl
          have af2 := XA9.out.f 2 rfl
          have a3 := XA9.out.c 3 rfl
          have af3 := XA9.out.f 3 rfl
          have a4 := XA9.out.c 4 rfl
          have af4 := XA9.out.f 4 rfl
          have az := XA9.out.size
          have x0 := XX9.out.c 0 rfl
          have xf0 := XX9.out.f 0 rfl
          have x1 := XX9.out.c 1 rfl
          have xf1 := XX9.out.f 1 rfl
          have x2 := XX9.out.c 2 rfl
          have xf2 := XX9.out.f 2 rfl
          have x3 := XX9.out.c 3 rfl
          have xf3 := XX9.out.f 3 rfl
          have x4 := XX9.out.c 4 rfl
          have xf4 := XX9.out.f 4 rfl
          have xz := XX9.out.size
          obtain ⟨w10, hV⟩ : ∃ V, V = (((((w9.setCell ⟨w2.heap.size, 0, none⟩ (.int .i64 kapv)).setCell ⟨w2.heap.size, 1, none⟩ (.bool clv)).setCell ⟨w2.heap.size, 2, none⟩ (.slice bov bv.length bcv)).setCell ⟨w2.heap.size, 3, none⟩ (.slice sov sv.length scv)).setCell ⟨w2.heap.size, 4, none⟩ (.slice rov rv.length rcv)) := ⟨_, rfl⟩
          have XR10 := hid ((((((XR9.out.other (a := ⟨w2.heap.size, 0, none⟩) (by dsimp only; omega) (.int .i64 kapv)).other (a := ⟨w2.heap.size, 1, none⟩) (by dsimp only; omega) (.bool clv)).other (a := ⟨w2.heap.size, 2, none⟩) (by dsimp only; omega) (.slice bov bv.length bcv)).other (a := ⟨w2.heap.size, 3, none⟩) (by dsimp only; omega) (.slice sov sv.length scv)).other (a := ⟨w2.heap.size, 4, none⟩) (by dsimp only; omega) (.slice rov rv.length rcv)))
          rw [← hV] at XR10
          have XA10 := hid ((((((XA9.out.set 0 (.int .i64 kapv)).set 1 (.bool clv)).set 2 (.slice bov bv.length bcv)).set 3 (.slice sov sv.length scv)).set 4 (.slice rov rv.length rcv)))
          rw [← hV] at XA10
          have XX10 := hid ((((((XX9.out.other (a := ⟨w2.heap.size, 0, none⟩) (by dsimp only; omega) (.int .i64 kapv)).other (a := ⟨w2.heap.size, 1, none⟩) (by dsimp only; omega) (.bool clv)).other (a := ⟨w2.heap.size, 2, none⟩) (by dsimp only; omega) (.slice bov bv.length bcv)).other (a := ⟨w2.heap.size, 3, none⟩) (by dsimp only; omega) (.slice sov sv.length scv)).other (a := ⟨w2.heap.size, 4, none⟩) (by dsimp only; omega) (.slice rov rv.length rcv)))
          rw [← hV] at XX10
          have D10 := hid ((((((D9.out.setOff (a := ⟨w2.heap.size, 0, none⟩) (by dsimp only; omega) (.int .i64 kapv)).setOff (a := ⟨w2.heap.size, 1, none⟩) (by dsimp only; omega) (.bool clv)).setOff (a := ⟨w2.heap.size, 2, none⟩) (by dsimp only; omega) (.slice bov bv.length bcv)).setOff (a := ⟨w2.heap.size, 3, none⟩) (by dsimp only; omega) (.slice sov sv.length scv)).setOff (a := ⟨w2.heap.size, 4, none⟩) (by dsimp only; omega) (.slice rov rv.length rcv)))
          rw [← hV] at D10
          have E10 := hid ((((((E9.out.setOff (a := ⟨w2.heap.size, 0, none⟩) (by dsimp only; omega) (.int .i64 kapv)).setOff (a := ⟨w2.heap.size, 1, none⟩) (by dsimp only; omega) (.bool clv)).setOff (a := ⟨w2.heap.size, 2, none⟩) (by dsimp only; omega) (.slice bov bv.length bcv)).setOff (a := ⟨w2.heap.size, 3, none⟩) (by dsimp only; omega) (.slice sov sv.length scv)).setOff (a := ⟨w2.heap.size, 4, none⟩) (by dsimp only; omega) (.slice rov rv.length rcv)))
          rw [← hV] at E10
          have C10 := hid ((((((C9.out.other (a := ⟨w2.heap.size, 0, none⟩) (by dsimp only; omega) (.int .i64 kapv)).other (a := ⟨w2.heap.size, 1, none⟩) (by dsimp only; omega) (.bool clv)).other (a := ⟨w2.heap.size, 2, none⟩) (by dsimp only; omega) (.slice bov bv.length bcv)).other (a := ⟨w2.heap.size, 3, none⟩) (by dsimp only; omega) (.slice sov sv.length scv)).other (a := ⟨w2.heap.size, 4, none⟩) (by dsimp only; omega) (.slice rov rv.length rcv)))
          rw [← hV] at C10
          have hR10 : Grew p w w10 := by rw [hV]; exact (((((hR9.set (a := ⟨w2.heap.size, 0, none⟩) (by dsimp only; omega) (.int .i64 kapv)).set (a := ⟨w2.heap.size, 1, none⟩) (by dsimp only; omega) (.bool clv)).set (a := ⟨w2.heap.size, 2, none⟩) (by dsimp only; omega) (.slice bov bv.length bcv)).set (a := ⟨w2.heap.size, 3, none⟩) (by dsimp only; omega) (.slice sov sv.length scv)).set (a := ⟨w2.heap.size, 4, none⟩) (by dsimp only; omega) (.slice rov rv.length rcv))
          have hz10 : w9.heap.size ≤ w10.heap.size := by rw [hV]; simp
          have H10 := hid hV
          clear hV XR9 XA9 XX9 D9 E9 C9
          go_wp2
          clear r0 rf0 r1 rf1 r2 rf2 r3 rf3 r4 rf4 rz a0 af0 a1 af1 a2 af2 a3 af3 a4 af4 az x0 xf0 x1 xf1 x2 xf2 x3 xf3 x4 xf4 xz
          rw [← H10.out]
          clear H10
          go_roundw
          case rel => exact ⟨m, k7, sd7, kapv, clv, bov, bcv, bv, sov, scv, sv, rov, rcv, rv, by go_num, by omega, by omega, XR10, XA10, hid (E10.out.wide (by omega) (by omega)), S1, C10, hR10, by omega⟩
          case measure => simp [intOf] <;> omega
        · have hc1 : (cv == 0) = false := by simpa using hc
          have hc2 : decide (cv = 0) = false := by simpa using hc
          have r0 := XR9.out.c 0 rfl
          have rf0 := XR9.out.f 0 rfl
          have r1 := XR9.out.c 1 rfl
          have rf1 := XR9.out.f 1 rfl
          have r2 := XR9.out.c 2 rfl
          have rf2 := XR9.out.f 2 rfl
          have r3 := XR9.out.c 3 rfl
          have rf3 := XR9.out.f 3 rfl
          have r4 := XR9.out.c 4 rfl
          have rf4 := XR9.out.f 4 rfl
          have rz := XR9.out.size
          have a0 := XA9.out.c 0 rfl
          have af0 := XA9.out.f 0 rfl
          have a1 := XA9.out.c 1 rfl
          have af1 := XA9.out.f 1 rfl
          have a2 := XA9.out.c 2 rfl
          have af2 := XA9.out.f 2 rfl
          have a3 := XA9.out.c 3 rfl
          have af3 := XA9.out.f 3 rfl
          have a4 := XA9.out.c 4 rfl
          have af4 := XA9.out.f 4 rfl
          have az := XA9.out.size
          have x0 := XX9.out.c 0 rfl
          have xf0 := XX9.out.f 0 rfl
          have x1 := XX9.out.c 1 rfl
          have xf1 := XX9.out.f 1 rfl
          have x2 := XX9.out.c 2 rfl
          have xf2 := XX9.out.f 2 rfl
          have x3 := XX9.out.c 3 rfl
          have xf3 := XX9.out.f 3 rfl
          have x4 := XX9.out.c 4 rfl
          have xf4 := XX9.out.f 4 rfl
          have xz := XX9.out.size
          go_wp2
          clear r0 rf0 r1 rf1 r2 rf2 r3 rf3 r4 rf4 rz a0 af0 a1 af1 a2 af2 a3 af3 a4 af4 az x0 xf0 x1 xf1 x2 xf2 x3 xf3 x4 xf4 xz
          go_roundw
          case rel => exact ⟨m, k7, sd7, kap, cl, bo, bc, b, so, sc, s, ro, rc, r, by go_num, by omega, by omega, XR9, XA9, hid (D9.out.wide (by omega) (by omega)), S0, C9, hR9, by omega⟩
          case measure => simp [intOf] <;> omega
      · have r0 := XR7.out.c 0 rfl
        have rf0 := XR7.out.f 0 rfl
        have r1 := XR7.out.c 1 rfl
        have rf1 := XR7.out.f 1 rfl
        have r2 := XR7.out.c 2 rfl
        have rf2 := XR7.out.f 2 rfl
        have r3 := XR7.out.c 3 rfl
        have rf3 := XR7.out.f 3 rfl
        have r4 := XR7.out.c 4 rfl
        have rf4 := XR7.out.f 4 rfl
        have rz := XR7.out.size
        have a0 := XA7.out.c 0 rfl
        have af0 := XA7.out.f 0 rfl
        have a1 := XA7.out.c 1 rfl
        have af1 := XA7.out.f 1 rfl
        have a2 := XA7.out.c 2 rfl
        have af2 := XA7.out.f 2 rfl
        have a3 := XA7.out.c 3 rfl
        have af3 := XA7.out.f 3 rfl
        have a4 := XA7.out.c 4 rfl
        have af4 := XA7.out.f 4 rfl
        have az := XA7.out.size
        have x0 := XX7.out.c 0 rfl
        have xf0 := XX7.out.f 0 rfl
        have x1 := XX7.out.c 1 rfl
        have xf1 := XX7.out.f 1 rfl
        have x2 := XX7.out.c 2 rfl
        have xf2 := XX7.out.f 2 rfl
        have x3 := XX7.out.c 3 rfl
        have xf3 := XX7.out.f 3 rfl
        have x4 := XX7.out.c 4 rfl
        have xf4 := XX7.out.f 4 rfl
        have xz := XX7.out.size
        go_wp2
        have PD : w7.drew.cell? ⟨w2.heap.size, 0, none⟩ = some (.int .i64 kap) ∧ w7.drew.cell? ⟨w2.heap.size, 1, none⟩ = some (.bool cl) ∧ w7.drew.cell? ⟨w2.heap.size, 2, none⟩ = some (.slice bo b.length bc) ∧ w7.drew.cell? ⟨w2.heap.size, 3, none⟩ = some (.slice so s.length sc) ∧ w7.drew.cell? ⟨w2.heap.size, 4, none⟩ = some (.slice ro r.length rc) := ⟨a0, a1, a2, a3, a4⟩
        go_region_held3 (fun Y => Y.cell? ⟨w2.heap.size, 0, none⟩ = some (.int .i64 kap) ∧ Y.cell? ⟨w2.heap.size, 1, none⟩ = some (.bool cl) ∧ Y.cell? ⟨w2.heap.size, 2, none⟩ = some (.slice bo b.length bc) ∧ Y.cell? ⟨w2.heap.size, 3, none⟩ = some (.slice so s.length sc) ∧ Y.cell? ⟨w2.heap.size, 4, none⟩ = some (.slice ro r.length rc))
          (first | ((refine ⟨?_, ?_, ?_, ?_, ?_⟩ <;> (rw [World.cell?_setCell_other _ _ _ _ (by simp <;> omega), World.cell?_setCell_other _ _ _ _ (by simp <;> omega), World.cell?_setCell_other _ _ _ _ (by simp <;> omega), World.cell?_setCell_other _ _ _ _ (by simp <;> omega), World.cell?_setCell_other _ _ _ _ (by simp <;> omega)])); with_reducible exact P10.1; with_reducible exact P10.2.1; with_reducible exact P10.2.2.1; with_reducible exact P10.2.2.2.1; with_reducible exact P10.2.2.2.2) | (with_reducible exact ⟨a0, a1, a2, a3, a4⟩) | (with_reducible exact PD) | (with_reducible exact P8) | (with_reducible exact P9) | (with_reducible exact P10))
          (first
            | (go_at_call 40; refine (stepL kap cl bo bc b so sc s ro rc r z z2 w9 S0.out D9.out).mono ?_; rintro e w10 ⟨⟨kapv, clv, bov, bcv, bv, sov, scv, sv, rov, rcv, rv, cv, rfl, hS1, hW1⟩, hy⟩; have hb10 : Below w9.heap.size w9 w10 := hy; have XR10 := hid (XR9.out.grew (Grew.of_below (p := p) hb10) (by omega)); have XA10 := hid (XA9.out.grew (Grew.of_below (p := p) hb10) (by omega)); have XX10 := hid (XX9.out.grew (Grew.of_below (p := p) hb10) (by omega)); have D10 := hid (D9.out.grew (Grew.of_below (p := p) hb10) (by omega)); have C10 := hid (C9.out.later hb10); have hR10 : Grew p w w10 := hR9.trans (Grew.of_below (p := p) hb10); have hz10 : w9.heap.size ≤ w10.heap.size := hb10.size; have E10 := hid (hW1); have HS10 := hid (hS1); have P10 : w10.cell? ⟨w2.heap.size, 0, none⟩ = some (.int .i64 kap) ∧ w10.cell? ⟨w2.heap.size, 1, none⟩ = some (.bool cl) ∧ w10.cell? ⟨w2.heap.size, 2, none⟩ = some (.slice bo b.length bc) ∧ w10.cell? ⟨w2.heap.size, 3, none⟩ = some (.slice so s.length sc) ∧ w10.cell? ⟨w2.heap.size, 4, none⟩ = some (.slice ro r.length rc) := ⟨XA10.out.c 0 rfl, XA10.out.c 1 rfl, XA10.out.c 2 rfl, XA10.out.c 3 rfl, XA10.out.c 4 rfl⟩; have rg0 := XR10.out.c 0 rfl; have rh0 := XR10.out.f 0 rfl; have rg1 := XR10.out.c 1 rfl; have rh1 := XR10.out.f 1 rfl; have rg2 := XR10.out.c 2 rfl; have rh2 := XR10.out.f 2 rfl; have rg3 := XR10.out.c 3 rfl; have rh3 := XR10.out.f 3 rfl; have rg4 := XR10.out.c 4 rfl; have rh4 := XR10.out.f 4 rfl; have ag0 := XA10.out.c 0 rfl; have ah0 := XA10.out.f 0 rfl; have ag1 := XA10.out.c 1 rfl; have ah1 := XA10.out.f 1 rfl; have ag2 := XA10.out.c 2 rfl; have ah2 := XA10.out.f 2 rfl; have ag3 := XA10.out.c 3 rfl; have ah3 := XA10.out.f 3 rfl; have ag4 := XA10.out.c 4 rfl; have ah4 := XA10.out.f 4 rfl; have xg0 := XX10.out.c 0 rfl; have xh0 := XX10.out.f 0 rfl; have xg1 := XX10.out.c 1 rfl; have xh1 := XX10.out.f 1 rfl; have xg2 := XX10.out.c 2 rfl; have xh2 := XX10.out.f 2 rfl; have xg3 := XX10.out.c 3 rfl; have xh3 := XX10.out.f 3 rfl; have xg4 := XX10.out.c 4 rfl; have xh4 := XX10.out.f 4 rfl; clear hy)
            | (go_at_call 36; refine (pick_any 40 p co cap bs k8 sd8 w8 hl (by omega) C8.out).mono ?_; rintro e w9 ⟨⟨z2, rfl, h0z2, h1z2⟩, hD⟩; obtain ⟨k9, sd9, hk9, hC9, hg, hsz9⟩ := hD.grew; have hg9 : Grew p w8 w9 := hg; have XR9 := hid (XR8.out.grew hg9 (by omega)); have XA9 := hid (XA8.out.grew hg9 (by omega)); have XX9 := hid (XX8.out.grew hg9 (by omega)); have D9 := hid (D8.out.grew hg9 (by omega)); have C9 := hid hC9; have hR9 : Grew p w w9 := hR8.trans hg9; have hz9 : w8.heap.size ≤ w9.heap.size := hg9.size; have P9 : w9.cell? ⟨w2.heap.size, 0, none⟩ = some (.int .i64 kap) ∧ w9.cell? ⟨w2.heap.size, 1, none⟩ = some (.bool cl) ∧ w9.cell? ⟨w2.heap.size, 2, none⟩ = some (.slice bo b.length bc) ∧ w9.cell? ⟨w2.heap.size, 3, none⟩ = some (.slice so s.length sc) ∧ w9.cell? ⟨w2.heap.size, 4, none⟩ = some (.slice ro r.length rc) := ⟨XA9.out.c 0 rfl, XA9.out.c 1 rfl, XA9.out.c 2 rfl, XA9.out.c 3 rfl, XA9.out.c 4 rfl⟩; clear hD hC9 hg hsz9)
            | (go_at_call 36; refine (pick_any 9 p co cap bs k7 sd7 w7.drew hl (by omega) C7.out.drew).mono ?_; rintro e w8 ⟨⟨z, rfl, h0z, h1z⟩, hD⟩; obtain ⟨k8, sd8, hk8, hC8, hg, hsz8⟩ := hD.grew; have hg8 : Grew p w7 w8 := hg.from; have XR8 := hid (XR7.out.grew hg8 (by omega)); have XA8 := hid (XA7.out.grew hg8 (by omega)); have XX8 := hid (XX7.out.grew hg8 (by omega)); have D8 := hid (D7.out.grew hg8 (by omega)); have C8 := hid hC8; have hR8 : Grew p w w8 := hR7.trans hg8; have hz8 : w7.heap.size ≤ w8.heap.size := hg8.size; have P8 : w8.cell? ⟨w2.heap.size, 0, none⟩ = some (.int .i64 kap) ∧ w8.cell? ⟨w2.heap.size, 1, none⟩ = some (.bool cl) ∧ w8.cell? ⟨w2.heap.size, 2, none⟩ = some (.slice bo b.length bc) ∧ w8.cell? ⟨w2.heap.size, 3, none⟩ = some (.slice so s.length sc) ∧ w8.cell? ⟨w2.heap.size, 4, none⟩ = some (.slice ro r.length rc) := ⟨XA8.out.c 0 rfl, XA8.out.c 1 rfl, XA8.out.c 2 rfl, XA8.out.c 3 rfl, XA8.out.c 4 rfl⟩; clear hD hC8 hg hsz8))
        all_goals
          have HS1 := hid HS10.out
          clear HS10
          obtain ⟨w11, hV⟩ : ∃ V, V = (((((w10.setCell ⟨wr.heap.size, 0, none⟩ (.int .i64 kapv)).setCell ⟨wr.heap.size, 1, none⟩ (.bool clv)).setCell ⟨wr.heap.size, 2, none⟩ (.slice bov bv.length bcv)).setCell ⟨wr.heap.size, 3, none⟩ (.slice sov sv.length scv)).setCell ⟨wr.heap.size, 4, none⟩ (.slice rov rv.length rcv)) := ⟨_, rfl⟩
          have XR11 := hid ((((((XR10.out.other (a := ⟨wr.heap.size, 0, none⟩) (by dsimp only; omega) (.int .i64 kapv)).other (a := ⟨wr.heap.size, 1, none⟩) (by dsimp only; omega) (.bool clv)).other (a := ⟨wr.heap.size, 2, none⟩) (by dsimp only; omega) (.slice bov bv.length bcv)).other (a := ⟨wr.heap.size, 3, none⟩) (by dsimp only; omega) (.slice sov sv.length scv)).other (a := ⟨wr.heap.size, 4, none⟩) (by dsimp only; omega) (.slice rov rv.length rcv)))
          rw [← hV] at XR11
          have XA11 := hid ((((((XA10.out.other (a := ⟨wr.heap.size, 0, none⟩) (by dsimp only; omega) (.int .i64 kapv)).other (a := ⟨wr.heap.size, 1, none⟩) (by dsimp only; omega) (.bool clv)).other (a := ⟨wr.heap.size, 2, none⟩) (by dsimp only; omega) (.slice bov bv.length bcv)).other (a := ⟨wr.heap.size, 3, none⟩) (by dsimp only; omega) (.slice sov sv.length scv)).other (a := ⟨wr.heap.size, 4, none⟩) (by dsimp only; omega) (.slice rov rv.length rcv)))
          rw [← hV] at XA11
          have XX11 := hid ((((((XX10.out.set 0 (.int .i64 kapv)).set 1 (.bool clv)).set 2 (.slice bov bv.length bcv)).set 3 (.slice sov sv.length scv)).set 4 (.slice rov rv.length rcv)))
          rw [← hV] at XX11
          have D11 := hid ((((((D10.out.setOff (a := ⟨wr.heap.size, 0, none⟩) (by dsimp only; omega) (.int .i64 kapv)).setOff (a := ⟨wr.heap.size, 1, none⟩) (by dsimp only; omega) (.bool clv)).setOff (a := ⟨wr.heap.size, 2, none⟩) (by dsimp only; omega) (.slice bov bv.length bcv)).setOff (a := ⟨wr.heap.size, 3, none⟩) (by dsimp only; omega) (.slice sov sv.length scv)).setOff (a := ⟨wr.heap.size, 4, none⟩) (by dsimp only; omega) (.slice rov rv.length rcv)))
          rw [← hV] at D11
          have E11 := hid ((((((E10.out.setOff (a := ⟨wr.heap.size, 0, none⟩) (by dsimp only; omega) (.int .i64 kapv)).setOff (a := ⟨wr.heap.size, 1, none⟩) (by dsimp only; omega) (.bool clv)).setOff (a := ⟨wr.heap.size, 2, none⟩) (by dsimp only; omega) (.slice bov bv.length bcv)).setOff (a := ⟨wr.heap.size, 3, none⟩) (by dsimp only; omega) (.slice sov sv.length scv)).setOff (a := ⟨wr.heap.size, 4, none⟩) (by dsimp only; omega) (.slice rov rv.length rcv)))
          rw [← hV] at E11
          have C11 := hid ((((((C10.out.other (a := ⟨wr.heap.size, 0, none⟩) (by dsimp only; omega) (.int .i64 kapv)).other (a := ⟨wr.heap.size, 1, none⟩) (by dsimp only; omega) (.bool clv)).other (a := ⟨wr.heap.size, 2, none⟩) (by dsimp only; omega) (.slice bov bv.length bcv)).other (a := ⟨wr.heap.size, 3, none⟩) (by dsimp only; omega) (.slice sov sv.length scv)).other (a := ⟨wr.heap.size, 4, none⟩) (by dsimp only; omega) (.slice rov rv.length rcv)))
          rw [← hV] at C11
          have hR11 : Grew p w w11 := by rw [hV]; exact (((((hR10.set (a := ⟨wr.heap.size, 0, none⟩) (by dsimp only; omega) (.int .i64 kapv)).set (a := ⟨wr.heap.size, 1, none⟩) (by dsimp only; omega) (.bool clv)).set (a := ⟨wr.heap.size, 2, none⟩) (by dsimp only; omega) (.slice bov bv.length bcv)).set (a := ⟨wr.heap.size, 3, none⟩) (by dsimp only; omega) (.slice sov sv.length scv)).set (a := ⟨wr.heap.size, 4, none⟩) (by dsimp only; omega) (.slice rov rv.length rcv))
          have hz11 : w10.heap.size ≤ w11.heap.size := by rw [hV]; simp
          have H11 := hid hV
          clear hV XR10 XA10 XX10 D10 E10 C10
          go_upto_region 18 with fail
          clear rg0 rh0 rg1 rh1 rg2 rh2 rg3 rh3 rg4 rh4 ag0 ah0 ag1 ah1 ag2 ah2 ag3 ah3 ag4 ah4 xg0 xh0 xg1 xh1 xg2 xh2 xg3 xh3 xg4 xh4
          rw [← H11.out]
          clear H11
          by_cases hc : cv = 0
          · have S1 := hid (HS1.out hc)
            subst hc
            have r0 := XR11.out.c 0 rfl
            have rf0 := XR11.out.f 0 rfl
            have r1 := XR11.out.c 1 rfl
            have rf1 := XR11.out.f 1 rfl
            have r2 := XR11.out.c 2 rfl
            have rf2 := XR11.out.f 2 rfl
            have r3 := XR11.out.c 3 rfl
            have rf3 := XR11.out.f 3 rfl
            have r4 := XR11.out.c 4 rfl
            have rf4 := XR11.out.f 4 rfl
            have rz := XR11.out.size
            have a0 := XA11.out.c 0 rfl
            have af0 := XA11.out.f 0 rfl
            have a1 := XA11.out.c 1 rfl
            have af1 := XA11.out.f 1 rfl
            have a2 := XA11.out.c 2 rfl
            have af2 := XA11.out.f 2 rfl
            have a3 := XA11.out.c 3 rfl
            have af3 := XA11.out.f 3 rfl
            have a4 := XA11.out.c 4 rfl
            have af4 := XA11.out.f 4 rfl
            have az := XA11.out.size
            have x0 := XX11.out.c 0 rfl
            have xf0 := XX11.out.f 0 rfl
            have x1 := XX11.out.c 1 rfl
            have xf1 := XX11.out.f 1 rfl
            have x2 := XX11.out.c 2 rfl
            have xf2 := XX11.out.f 2 rfl
            have x3 := XX11.out.c 3 rfl
            have xf3 := XX11.out.f 3 rfl
            have x4 := XX11.out.c 4 rfl
            have xf4 := XX11.out.f 4 rfl
            have xz := XX11.out.size
            obtain ⟨w12, hV⟩ : ∃ V, V = (((((w11.setCell ⟨w2.heap.size, 0, none⟩ (.int .i64 kapv)).setCell ⟨w2.heap.size, 1, none⟩ (.bool clv)).setCell ⟨w2.heap.size, 2, none⟩ (.slice bov bv.length bcv)).setCell ⟨w2.heap.size, 3, none⟩ (.slice sov sv.length scv)).setCell ⟨w2.heap.size, 4, none⟩ (.slice rov rv.length rcv)) := ⟨_, rfl⟩
            have XR12 := hid ((((((XR11.out.other (a := ⟨w2.heap.size, 0, none⟩) (by dsimp only; omega) (.int .i64 kapv)).other (a := ⟨w2.heap.size, 1, none⟩) (by dsimp only; omega) (.bool clv)).other (a := ⟨w2.heap.size, 2, none⟩) (by dsimp only; omega) (.slice bov bv.length bcv)).other (a := ⟨w2.heap.size, 3, none⟩) (by dsimp only; omega) (.slice sov sv.length scv)).other (a := ⟨w2.heap.size, 4, none⟩) (by dsimp only; omega) (.slice rov rv.length rcv)))
            rw [← hV] at XR12
            have XA12 := hid ((((((XA11.out.set 0 (.int .i64 kapv)).set 1 (.bool clv)).set 2 (.slice bov bv.length bcv)).set 3 (.slice sov sv.length scv)).set 4 (.slice rov rv.length rcv)))
            rw [← hV] at XA12
            have XX12 := hid ((((((XX11.out.other (a := ⟨w2.heap.size, 0, none⟩) (by dsimp only; omega) (.int .i64 kapv)).other (a := ⟨w2.heap.size, 1, none⟩) (by dsimp only; omega) (.bool clv)).other (a := ⟨w2.heap.size, 2, none⟩) (by dsimp only; omega) (.slice bov bv.length bcv)).other (a := ⟨w2.heap.size, 3, none⟩) (by dsimp only; omega) (.slice sov sv.length scv)).other (a := ⟨w2.heap.size, 4, none⟩) (by dsimp only; omega) (.slice rov rv.length rcv)))
            rw [← hV] at XX12
            have D12 := hid ((((((D11.out.setOff (a := ⟨w2.heap.size, 0, none⟩) (by dsimp only; omega) (.int .i64 kapv)).setOff (a := ⟨w2.heap.size, 1, none⟩) (by dsimp only; omega) (.bool clv)).setOff (a := ⟨w2.heap.size, 2, none⟩) (by dsimp only; omega) (.slice bov bv.length bcv)).setOff (a := ⟨w2.heap.size, 3, none⟩) (by dsimp only; omega) (.slice sov sv.length scv)).setOff (a := ⟨w2.heap.size, 4, none⟩) (by dsimp only; omega) (.slice rov rv.length rcv)))
            rw [← hV] at D12
            have E12 := hid ((((((E11.out.setOff (a := ⟨w2.heap.size, 0, none⟩) (by dsimp only; omega) (.int .i64 kapv)).setOff (a := ⟨w2.heap.size, 1, none⟩) (by dsimp only; omega) (.bool clv)).setOff (a := ⟨w2.heap.size, 2, none⟩) (by dsimp only; omega) (.slice bov bv.length bcv)).setOff (a := ⟨w2.heap.size, 3, none⟩) (by dsimp only; omega) (.slice sov sv.length scv)).setOff (a := ⟨w2.heap.size, 4, none⟩) (by dsimp only; omega) (.slice rov rv.length rcv)))
            rw [← hV] at E12
            have C12 := hid ((((((C11.out.other (a := ⟨w2.heap.size, 0, none⟩) (by dsimp only; omega) (.int .i64 kapv)).other (a := ⟨w2.heap.size, 1, none⟩) (by dsimp only; omega) (.bool clv)).other (a := ⟨w2.heap.size, 2, none⟩) (by dsimp only; omega) (.slice bov bv.length bcv)).other (a := ⟨w2.heap.size, 3, none⟩) (by dsimp only; omega) (.slice sov sv.length scv)).other (a := ⟨w2.heap.size, 4, none⟩) (by dsimp only; omega) (.slice rov rv.length rcv)))
            rw [← hV] at C12
            have hR12 : Grew p w w12 := by rw [hV]; exact (((((hR11.set (a := ⟨w2.heap.size, 0, none⟩) (by dsimp only; omega) (.int .i64 kapv)).set (a := ⟨w2.heap.size, 1, none⟩) (by dsimp only; omega) (.bool clv)).set (a := ⟨w2.heap.size, 2, none⟩) (by dsimp only; omega) (.slice bov bv.length bcv)).set (a := ⟨w2.heap.size, 3, none⟩) (by dsimp only; omega) (.slice sov sv.length scv)).set (a := ⟨w2.heap.size, 4, none⟩) (by dsimp only; omega) (.slice rov rv.length rcv))
            have hz12 : w11.heap.size ≤ w12.heap.size := by rw [hV]; simp
            have H12 := hid hV
            clear hV XR11 XA11 XX11 D11 E11 C11
            go_wp2
            clear r0 rf0 r1 rf1 r2 rf2 r3 rf3 r4 rf4 rz a0 af0 a1 af1 a2 af2 a3 af3 a4 af4 az x0 xf0 x1 xf1 x2 xf2 x3 xf3 x4 xf4 xz
            rw [← H12.out]
            clear H12
            go_roundw
            case rel => exact ⟨m, k9, sd9, kapv, clv, bov, bcv, bv, sov, scv, sv, rov, rcv, rv, by go_num, by omega, by omega, XR12, XA12, hid (E12.out.wide (by omega) (by omega)), S1, C12, hR12, by omega⟩
            case measure => simp [intOf] <;> omega
          · have hc1 : (cv == 0) = false := by simpa using hc
            have hc2 : decide (cv = 0) = false := by simpa using hc
            have r0 := XR11.out.c 0 rfl
            have rf0 := XR11.out.f 0 rfl
            have r1 := XR11.out.c 1 rfl
            have rf1 := XR11.out.f 1 rfl
            have r2 := XR11.out.c 2 rfl
            have rf2 := XR11.out.f 2 rfl
            have r3 := XR11.out.c 3 rfl
            have rf3 := XR11.out.f 3 rfl
            have r4 := XR11.out.c 4 rfl
            have rf4 := XR11.out.f 4 rfl
            have rz := XR11.out.size
            have a0 := XA11.out.c 0 rfl
            have af0 := XA11.out.f 0 rfl
            have a1 := XA11.out.c 1 rfl
            have af1 := XA11.out.f 1 rfl
            have a2 := XA11.out.c 2 rfl
            have af2 := XA11.out.f 2 rfl
            have a3 := XA11.out.c 3 rfl
            have af3 := XA11.out.f 3 rfl
            have a4 := XA11.out.c 4 rfl
            have af4 := XA11.out.f 4 rfl
            have az := XA11.out.size
            have x0 := XX11.out.c 0 rfl
            have xf0 := XX11.out.f 0 rfl
            have x1 := XX11.out.c 1 rfl
            have xf1 := XX11.out.f 1 rfl
            have x2 := XX11.out.c 2 rfl
            have xf2 := XX11.out.f 2 rfl
            have x3 := XX11.out.c 3 rfl
            have xf3 := XX11.out.f 3 rfl
            have x4 := XX11.out.c 4 rfl
            have xf4 := XX11.out.f 4 rfl
            have xz := XX11.out.size
            go_wp2
            clear r0 rf0 r1 rf1 r2 rf2 r3 rf3 r4 rf4 rz a0 af0 a1 af1 a2 af2 a3 af3 a4 af4 az x0 xf0 x1 xf1 x2 xf2 x3 xf3 x4 xf4 xz
            go_roundw
            case rel => exact ⟨m, k9, sd9, kap, cl, bo, bc, b, so, sc, s, ro, rc, r, by go_num, by omega, by omega, XR11, XA11, hid (D11.out.wide (by omega) (by omega)), S0, C11, hR11, by omega⟩
            case measure => simp [intOf] <;> omega
      · have r0 := XR7.out.c 0 rfl
        have rf0 := XR7.out.f 0 rfl
        have r1 := XR7.out.c 1 rfl
        have rf1 := XR7.out.f 1 rfl
        have r2 := XR7.out.c 2 rfl
        have rf2 := XR7.out.f 2 rfl
        have r3 := XR7.out.c 3 rfl
        have rf3 := XR7.out.f 3 rfl
        have r4 := XR7.out.c 4 rfl
        have rf4 := XR7.out.f 4 rfl
        have rz := XR7.out.size
        have a0 := XA7.out.c 0 rfl
        have af0 := XA7.out.f 0 rfl
        have a1 := XA7.out.c 1 rfl
        have af1 := XA7.out.f 1 rfl
        have a2 := XA7.out.c 2 rfl
        have af2 := XA7.out.f 2 rfl
        have a3 := XA7.out.c 3 rfl
        have af3 := XA7.out.f 3 rfl
        have a4 := XA7.out.c 4 rfl
        have af4 := XA7.out.f 4 rfl
        have az := XA7.out.size
        have x0 := XX7.out.c 0 rfl
        have xf0 := XX7.out.f 0 rfl
        have x1 := XX7.out.c 1 rfl
        have xf1 := XX7.out.f 1 rfl
        have x2 := XX7.out.c 2 rfl
        have xf2 := XX7.out.f 2 rfl
        have x3 := XX7.out.c 3 rfl
        have xf3 := XX7.out.f 3 rfl
        have x4 := XX7.out.c 4 rfl
        have xf4 := XX7.out.f 4 rfl
        have xz := XX7.out.size
        go_wp2
        have PD : w7.drew.cell? ⟨w2.heap.size, 0, none⟩ = some (.int .i64 kap) ∧ w7.drew.cell? ⟨w2.heap.size, 1, none⟩ = some (.bool cl) ∧ w7.drew.cell? ⟨w2.heap.size, 2, none⟩ = some (.slice bo b.length bc) ∧ w7.drew.cell? ⟨w2.heap.size, 3, none⟩ = some (.slice so s.length sc) ∧ w7.drew.cell? ⟨w2.heap.size, 4, none⟩ = some (.slice ro r.length rc) := ⟨a0, a1, a2, a3, a4⟩
        go_region_held3 (fun Y => Y.cell? ⟨w2.heap.size, 0, none⟩ = some (.int .i64 kap) ∧ Y.cell? ⟨w2.heap.size, 1, none⟩ = some (.bool cl) ∧ Y.cell? ⟨w2.heap.size, 2, none⟩ = some (.slice bo b.length bc) ∧ Y.cell? ⟨w2.heap.size, 3, none⟩ = some (.slice so s.length sc) ∧ Y.cell? ⟨w2.heap.size, 4, none⟩ = some (.slice ro r.length rc))
          (first | ((refine ⟨?_, ?_, ?_, ?_, ?_⟩ <;> (rw [World.cell?_setCell_other _ _ _ _ (by simp <;> omega), World.cell?_setCell_other _ _ _ _ (by simp <;> omega), World.cell?_setCell_other _ _ _ _ (by simp <;> omega), World.cell?_setCell_other _ _ _ _ (by simp <;> omega), World.cell?_setCell_other _ _ _ _ (by simp <;> omega)])); with_reducible exact P10.1; with_reducible exact P10.2.1; with_reducible exact P10.2.2.1; with_reducible exact P10.2.2.2.1; with_reducible exact P10.2.2.2.2) | (with_reducible exact ⟨a0, a1, a2, a3, a4⟩) | (with_reducible exact PD) | (with_reducible exact P8) | (with_reducible exact P9) | (with_reducible exact P10))
          (first
            | (go_at_call 40; refine (stepL kap cl bo bc b so sc s ro rc r z z2 w9 S0.out D9.out).mono ?_; rintro e w10 ⟨⟨kapv, clv, bov, bcv, bv, sov, scv, sv, rov, rcv, rv, cv, rfl, hS1, hW1⟩, hy⟩; have hb10 : Below w9.heap.size w9 w10 := hy; have XR10 := hid (XR9.out.grew (Grew.of_below (p := p) hb10) (by omega)); have XA10 := hid (XA9.out.grew (Grew.of_below (p := p) hb10) (by omega)); have XX10 := hid (XX9.out.grew (Grew.of_below (p := p) hb10) (by omega)); have D10 := hid (D9.out.grew (Grew.of_below (p := p) hb10) (by omega)); have C10 := hid (C9.out.later hb10); have hR10 : Grew p w w10 := hR9.trans (Grew.of_below (p := p) hb10); have hz10 : w9.heap.size ≤ w10.heap.size := hb10.size; have E10 := hid (hW1); have HS10 := hid (hS1); have P10 : w10.cell? ⟨w2.heap.size, 0, none⟩ = some (.int .i64 kap) ∧ w10.cell? ⟨w2.heap.size, 1, none⟩ = some (.bool cl) ∧ w10.cell? ⟨w2.heap.size, 2, none⟩ = some (.slice bo b.length bc) ∧ w10.cell? ⟨w2.heap.size, 3, none⟩ = some (.slice so s.length sc) ∧ w10.cell? ⟨w2.heap.size, 4, none⟩ = some (.slice ro r.length rc) := ⟨XA10.out.c 0 rfl, XA10.out.c 1 rfl, XA10.out.c 2 rfl, XA10.out.c 3 rfl, XA10.out.c 4 rfl⟩; have rg0 := XR10.out.c 0 rfl; have rh0 := XR10.out.f 0 rfl; have rg1 := XR10.out.c 1 rfl; have rh1 := XR10.out.f 1 rfl; have rg2 := XR10.out.c 2 rfl; have rh2 := XR10.out.f 2 rfl; have rg3 := XR10.out.c 3 rfl; have rh3 := XR10.out.f 3 rfl; have rg4 := XR10.out.c 4 rfl; have rh4 := XR10.out.f 4 rfl; have ag0 := XA10.out.c 0 rfl; have ah0 := XA10.out.f 0 rfl; have ag1 := XA10.out.c 1 rfl; have ah1 := XA10.out.f 1 rfl; have ag2 := XA10.out.c 2 rfl; have ah2 := XA10.out.f 2 rfl; have ag3 := XA10.out.c 3 rfl; have ah3 := XA10.out.f 3 rfl; have ag4 := XA10.out.c 4 rfl; have ah4 := XA10.out.f 4 rfl; have xg0 := XX10.out.c 0 rfl; have xh0 := XX10.out.f 0 rfl; have xg1 := XX10.out.c 1 rfl; have xh1 := XX10.out.f 1 rfl; have xg2 := XX10.out.c 2 rfl; have xh2 := XX10.out.f 2 rfl; have xg3 := XX10.out.c 3 rfl; have xh3 := XX10.out.f 3 rfl; have xg4 := XX10.out.c 4 rfl; have xh4 := XX10.out.f 4 rfl; clear hy)
            | (go_at_call 36; refine (pick_any 40 p co cap bs k8 sd8 w8 hl (by omega) C8.out).mono ?_; rintro e w9 ⟨⟨z2, rfl, h0z2, h1z2⟩, hD⟩; obtain ⟨k9, sd9, hk9, hC9, hg, hsz9⟩ := hD.grew; have hg9 : Grew p w8 w9 := hg; have XR9 := hid (XR8.out.grew hg9 (by omega)); have XA9 := hid (XA8.out.grew hg9 (by omega)); have XX9 := hid (XX8.out.grew hg9 (by omega)); have D9 := hid (D8.out.grew hg9 (by omega)); have C9 := hid hC9; have hR9 : Grew p w w9 := hR8.trans hg9; have hz9 : w8.heap.size ≤ w9.heap.size := hg9.size; have P9 : w9.cell? ⟨w2.heap.size, 0, none⟩ = some (.int .i64 kap) ∧ w9.cell? ⟨w2.heap.size, 1, none⟩ = some (.bool cl) ∧ w9.cell? ⟨w2.heap.size, 2, none⟩ = some (.slice bo b.length bc) ∧ w9.cell? ⟨w2.heap.size, 3, none⟩ = some (.slice so s.length sc) ∧ w9.cell? ⟨w2.heap.size, 4, none⟩ = some (.slice ro r.length rc) := ⟨XA9.out.c 0 rfl, XA9.out.c 1 rfl, XA9.out.c 2 rfl, XA9.out.c 3 rfl, XA9.out.c 4 rfl⟩; clear hD hC9 hg hsz9)
            | (go_at_call 36; refine (pick_any 9 p co cap bs k7 sd7 w7.drew hl (by omega) C7.out.drew).mono ?_; rintro e w8 ⟨⟨z, rfl, h0z, h1z⟩, hD⟩; obtain ⟨k8, sd8, hk8, hC8, hg, hsz8⟩ := hD.grew; have hg8 : Grew p w7 w8 := hg.from; have XR8 := hid (XR7.out.grew hg8 (by omega)); have XA8 := hid (XA7.out.grew hg8 (by omega)); have XX8 := hid (XX7.out.grew hg8 (by omega)); have D8 := hid (D7.out.grew hg8 (by omega)); have C8 := hid hC8; have hR8 : Grew p w w8 := hR7.trans hg8; have hz8 : w7.heap.size ≤ w8.heap.size := hg8.size; have P8 : w8.cell? ⟨w2.heap.size, 0, none⟩ = some (.int .i64 kap) ∧ w8.cell? ⟨w2.heap.size, 1, none⟩ = some (.bool cl) ∧ w8.cell? ⟨w2.heap.size, 2, none⟩ = some (.slice bo b.length bc) ∧ w8.cell? ⟨w2.heap.size, 3, none⟩ = some (.slice so s.length sc) ∧ w8.cell? ⟨w2.heap.size, 4, none⟩ = some (.slice ro r.length rc) := ⟨XA8.out.c 0 rfl, XA8.out.c 1 rfl, XA8.out.c 2 rfl, XA8.out.c 3 rfl, XA8.out.c 4 rfl⟩; clear hD hC8 hg hsz8))
        all_goals
          have HS1 := hid HS10.out
          clear HS10
          obtain ⟨w11, hV⟩ : ∃ V, V = (((((w10.setCell ⟨wr.heap.size, 0, none⟩ (.int .i64 kapv)).setCell ⟨wr.heap.size, 1, none⟩ (.bool clv)).setCell ⟨wr.heap.size, 2, none⟩ (.slice bov bv.length bcv)).setCell ⟨wr.heap.size, 3, none⟩ (.slice sov sv.length scv)).setCell ⟨wr.heap.size, 4, none⟩ (.slice rov rv.length rcv)) := ⟨_, rfl⟩
          have XR11 := hid ((((((XR10.out.other (a := ⟨wr.heap.size, 0, none⟩) (by dsimp only; omega) (.int .i64 kapv)).other (a := ⟨wr.heap.size, 1, none⟩) (by dsimp only; omega) (.bool clv)).other (a := ⟨wr.heap.size, 2, none⟩) (by dsimp only; omega) (.slice bov bv.length bcv)).other (a := ⟨wr.heap.size, 3, none⟩) (by dsimp only; omega) (.slice sov sv.length scv)).other (a := ⟨wr.heap.size, 4, none⟩) (by dsimp only; omega) (.slice rov rv.length rcv)))
          rw [← hV] at XR11
          have XA11 := hid ((((((XA10.out.other (a := ⟨wr.heap.size, 0, none⟩) (by dsimp only; omega) (.int .i64 kapv)).other (a := ⟨wr.heap.size, 1, none⟩) (by dsimp only; omega) (.bool clv)).other (a := ⟨wr.heap.size, 2, none⟩) (by dsimp only; omega) (.slice bov bv.length bcv)).other (a := ⟨wr.heap.size, 3, none⟩) (by dsimp only; omega) (.slice sov sv.length scv)).other (a := ⟨wr.heap.size, 4, none⟩) (by dsimp only; omega) (.slice rov rv.length rcv)))
          rw [← hV] at XA11
          have XX11 := hid ((((((XX10.out.set 0 (.int .i64 kapv)).set 1 (.bool clv)).set 2 (.slice bov bv.length bcv)).set 3 (.slice sov sv.length scv)).set 4 (.slice rov rv.length rcv)))
          rw [← hV] at XX11
          have D11 := hid ((((((D10.out.setOff (a := ⟨wr.heap.size, 0, none⟩) (by dsimp only; omega) (.int .i64 kapv)).setOff (a := ⟨wr.heap.size, 1, none⟩) (by dsimp only; omega) (.bool clv)).setOff (a := ⟨wr.heap.size, 2, none⟩) (by dsimp only; omega) (.slice bov bv.length bcv)).setOff (a := ⟨wr.heap.size, 3, none⟩) (by dsimp only; omega) (.slice sov sv.length scv)).setOff (a := ⟨wr.heap.size, 4, none⟩) (by dsimp only; omega) (.slice rov rv.length rcv)))
          rw [← hV] at D11
          have E11 := hid ((((((E10.out.setOff (a := ⟨wr.heap.size, 0, none⟩) (by dsimp only; omega) (.int .i64 kapv)).setOff (a := ⟨wr.heap.size, 1, none⟩) (by dsimp only; omega) (.bool clv)).setOff (a := ⟨wr.heap.size, 2, none⟩) (by dsimp only; omega) (.slice bov bv.length bcv)).setOff (a := ⟨wr.heap.size, 3, none⟩) (by dsimp only; omega) (.slice sov sv.length scv)).setOff (a := ⟨wr.heap.size, 4, none⟩) (by dsimp only; omega) (.slice rov rv.length rcv)))
          rw [← hV] at E11
          have C11 := hid ((((((C10.out.other (a := ⟨wr.heap.size, 0, none⟩) (by dsimp only; omega) (.int .i64 kapv)).other (a := ⟨wr.heap.size, 1, none⟩) (by dsimp only; omega) (.bool clv)).other (a := ⟨wr.heap.size, 2, none⟩) (by dsimp only; omega) (.slice bov bv.length bcv)).other (a := ⟨wr.heap.size, 3, none⟩) (by dsimp only; omega) (.slice sov sv.length scv)).other (a := ⟨wr.heap.size, 4, none⟩) (by dsimp only; omega) (.slice rov rv.length rcv)))
          rw [← hV] at C11
          have hR11 : Grew p w w11 := by rw [hV]; exact (((((hR10.set (a := ⟨wr.heap.size, 0, none⟩) (by dsimp only; omega) (.int .i64 kapv)).set (a := ⟨wr.heap.size, 1, none⟩) (by dsimp only; omega) (.bool clv)).set (a := ⟨wr.heap.size, 2, none⟩) (by dsimp only; omega) (.slice bov bv.length bcv)).set (a := ⟨wr.heap.size, 3, none⟩) (by dsimp only; omega) (.slice sov sv.length scv)).set (a := ⟨wr.heap.size, 4, none⟩) (by dsimp only; omega) (.slice rov rv.length rcv))
          have hz11 : w10.heap.size ≤ w11.heap.size := by rw [hV]; simp
          have H11 := hid hV
          clear hV XR10 XA10 XX10 D10 E10 C10
          go_upto_region 18 with fail
          clear rg0 rh0 rg1 rh1 rg2 rh2 rg3 rh3 rg4 rh4 ag0 ah0 ag1 ah1 ag2 ah2 ag3 ah3 ag4 ah4 xg0 xh0 xg1 xh1 xg2 xh2 xg3 xh3 xg4 xh4
          rw [← H11.out]
          clear H11
          by_cases hc : cv = 0
          · have S1 := hid (HS1.out hc)
            subst hc
            have r0 := XR11.out.c 0 rfl
            have rf0 := XR11.out.f 0 rfl
            have r1 := XR11.out.c 1 rfl
            have rf1 := XR11.out.f 1 rfl
            have r2 := XR11.out.c 2 rfl
            have rf2 := XR11.out.f 2 rfl
            have r3 := XR11.out.c 3 rfl
            have rf3 := XR11.out.f 3 rfl
            have r4 := XR11.out.c 4 rfl
            have rf4 := XR11.out.f 4 rfl
            have rz := XR11.out.size
            have a0 := XA11.out.c 0 rfl
            have af0 := XA11.out.f 0 rfl
            have a1 := XA11.out.c 1 rfl
            have af1 := XA11.out.f 1 rfl
            have a2 := XA11.out.c 2 rfl
            have af2 := XA11.out.f 2 rfl
            have a3 := XA11.out.c 3 rfl
            have af3 := XA11.out.f 3 rfl
            have a4 := XA11.out.c 4 rfl
            have af4 := XA11.out.f 4 rfl
            have az := XA11.out.size
            have x0 := XX11.out.c 0 rfl
            have xf0 := XX11.out.f 0 rfl
            have x1 := XX11.out.c 1 rfl
            have xf1 := XX11.out.f 1 rfl
            have x2 := XX11.out.c 2 rfl
            have xf2 := XX11.out.f 2 rfl
            have x3 := XX11.out.c 3 rfl
            have xf3 := XX11.out.f 3 rfl
            have x4 := XX11.out.c 4 rfl
            have xf4 := XX11.out.f 4 rfl
            have xz := XX11.out.size
            obtain ⟨w12, hV⟩ : ∃ V, V = (((((w11.setCell ⟨w2.heap.size, 0, none⟩ (.int .i64 kapv)).setCell ⟨w2.heap.size, 1, none⟩ (.bool clv)).setCell ⟨w2.heap.size, 2, none⟩ (.slice bov bv.length bcv)).setCell ⟨w2.heap.size, 3, none⟩ (.slice sov sv.length scv)).setCell ⟨w2.heap.size, 4, none⟩ (.slice rov rv.length rcv)) := ⟨_, rfl⟩
            have XR12 := hid ((((((XR11.out.other (a := ⟨w2.heap.size, 0, none⟩) (by dsimp only; omega) (.int .i64 kapv)).other (a := ⟨w2.heap.size, 1, none⟩) (by dsimp only; omega) (.bool clv)).other (a := ⟨w2.heap.size, 2, none⟩) (by dsimp only; omega) (.slice bov bv.length bcv)).other (a := ⟨w2.heap.size, 3, none⟩) (by dsimp only; omega) (.slice sov sv.length scv)).other (a := ⟨w2.heap.size, 4, none⟩) (by dsimp only; omega) (.slice rov rv.length rcv)))
            rw [← hV] at XR12
            have XA12 := hid ((((((XA11.out.set 0 (.int .i64 kapv)).set 1 (.bool clv)).set 2 (.slice bov bv.length bcv)).set 3 (.slice sov sv.length scv)).set 4 (.slice rov rv.length rcv)))
            rw [← hV] at XA12
            have XX12 := hid ((((((XX11.out.other (a := ⟨w2.heap.size, 0, none⟩) (by dsimp only; omega) (.int .i64 kapv)).other (a := ⟨w2.heap.size, 1, none⟩) (by dsimp only; omega) (.bool clv)).other (a := ⟨w2.heap.size, 2, none⟩) (by dsimp only; omega) (.slice bov bv.length bcv)).other (a := ⟨w2.heap.size, 3, none⟩) (by dsimp only; omega) (.slice sov sv.length scv)).other (a := ⟨w2.heap.size, 4, none⟩) (by dsimp only; omega) (.slice rov rv.length rcv)))
            rw [← hV] at XX12
            have D12 := hid ((((((D11.out.setOff (a := ⟨w2.heap.size, 0, none⟩) (by dsimp only; omega) (.int .i64 kapv)).setOff (a := ⟨w2.heap.size, 1, none⟩) (by dsimp only; omega) (.bool clv)).setOff (a := ⟨w2.heap.size, 2, none⟩) (by dsimp only; omega) (.slice bov bv.length bcv)).setOff (a := ⟨w2.heap.size, 3, none⟩) (by dsimp only; omega) (.slice sov sv.length scv)).setOff (a := ⟨w2.heap.size, 4, none⟩) (by dsimp only; omega) (.slice rov rv.length rcv)))
            rw [← hV] at D12
            have E12 := hid ((((((E11.out.setOff (a := ⟨w2.heap.size, 0, none⟩) (by dsimp only; omega) (.int .i64 kapv)).setOff (a := ⟨w2.heap.size, 1, none⟩) (by dsimp only; omega) (.bool clv)).setOff (a := ⟨w2.heap.size, 2, none⟩) (by dsimp only; omega) (.slice bov bv.length bcv)).setOff (a := ⟨w2.heap.size, 3, none⟩) (by dsimp only; omega) (.slice sov sv.length scv)).setOff (a := ⟨w2.heap.size, 4, none⟩) (by dsimp only; omega) (.slice rov rv.length rcv)))
            rw [← hV] at E12
            have C12 := hid ((((((C11.out.other (a := ⟨w2.heap.size, 0, none⟩) (by dsimp only; omega) (.int .i64 kapv)).other (a := ⟨w2.heap.size, 1, none⟩) (by dsimp only; omega) (.bool clv)).other (a := ⟨w2.heap.size, 2, none⟩) (by dsimp only; omega) (.slice bov bv.length bcv)).other (a := ⟨w2.heap.size, 3, none⟩) (by dsimp only; omega) (.slice sov sv.length scv)).other (a := ⟨w2.heap.size, 4, none⟩) (by dsimp only; omega) (.slice rov rv.length rcv)))
            rw [← hV] at C12
            have hR12 : Grew p w w12 := by rw [hV]; exact (((((hR11.set (a := ⟨w2.heap.size, 0, none⟩) (by dsimp only; omega) (.int .i64 kapv)).set (a := ⟨w2.heap.size, 1, none⟩) (by dsimp only; omega) (.bool clv)).set (a := ⟨w2.heap.size, 2, none⟩) (by dsimp only; omega) (.slice bov bv.length bcv)).set (a := ⟨w2.heap.size, 3, none⟩) (by dsimp only; omega) (.slice sov sv.length scv)).set (a := ⟨w2.heap.size, 4, none⟩) (by dsimp only; omega) (.slice rov rv.length rcv))
            have hz12 : w11.heap.size ≤ w12.heap.size := by rw [hV]; simp
            have H12 := hid hV
            clear hV XR11 XA11 XX11 D11 E11 C11
            go_wp2
            clear r0 rf0 r1 rf1 r2 rf2 r3 rf3 r4 rf4 rz a0 af0 a1 af1 a2 af2 a3 af3 a4 af4 az x0 xf0 x1 xf1 x2 xf2 x3 xf3 x4 xf4 xz
            rw [← H12.out]
            clear H12
            go_roundw
            case rel => exact ⟨m, k9, sd9, kapv, clv, bov, bcv, bv, sov, scv, sv, rov, rcv, rv, by go_num, by omega, by omega, XR12, XA12, hid (E12.out.wide (by omega) (by omega)), S1, C12, hR12, by omega⟩
            case measure => simp [intOf] <;> omega
          · have hc1 : (cv == 0) = false := by simpa using hc
            have hc2 : decide (cv = 0) = false := by simpa using hc
            have r0 := XR11.out.c 0 rfl
            have rf0 := XR11.out.f 0 rfl
            have r1 := XR11.out.c 1 rfl
            have rf1 := XR11.out.f 1 rfl
            have r2 := XR11.out.c 2 rfl
            have rf2 := XR11.out.f 2 rfl
            have r3 := XR11.out.c 3 rfl
            have rf3 := XR11.out.f 3 rfl
            have r4 := XR11.out.c 4 rfl
            have rf4 := XR11.out.f 4 rfl
            have rz := XR11.out.size
            have a0 := XA11.out.c 0 rfl
            have af0 := XA11.out.f 0 rfl
            have a1 := XA11.out.c 1 rfl
            have af1 := XA11.out.f 1 rfl
            have a2 := XA11.out.c 2 rfl
            have af2 := XA11.out.f 2 rfl
            have a3 := XA11.out.c 3 rfl
            have af3 := XA11.out.f 3 rfl
            have a4 := XA11.out.c 4 rfl
            have af4 := XA11.out.f 4 rfl
            have az := XA11.out.size
            have x0 := XX11.out.c 0 rfl
            have xf0 := XX11.out.f 0 rfl
            have x1 := XX11.out.c 1 rfl
            have xf1 := XX11.out.f 1 rfl
            have x2 := XX11.out.c 2 rfl
            have xf2 := XX11.out.f 2 rfl
            have x3 := XX11.out.c 3 rfl
            have xf3 := XX11.out.f 3 rfl
            have x4 := XX11.out.c 4 rfl
            have xf4 := XX11.out.f 4 rfl
            have xz := XX11.out.size
            go_wp2
            clear r0 rf0 r1 rf1 r2 rf2 r3 rf3 r4 rf4 rz a0 af0 a1 af1 a2 af2 a3 af3 a4 af4 az x0 xf0 x1 xf1 x2 xf2 x3 xf3 x4 xf4 xz
            go_roundw
            case rel => exact ⟨m, k9, sd9, kap, cl, bo, bc, b, so, sc, s, ro, rc, r, by go_num, by omega, by omega, XR11, XA11, hid (D11.out.wide (by omega) (by omega)), S0, C11, hR11, by omega⟩
            case measure => simp [intOf] <;> omega
    | zero =>
      have hS0 := S0.out
      obtain ⟨l1, l2, l3⟩ := hS0
      clear S0
      have r0 := XR5.out.c 0 rfl
      have rf0 := XR5.out.f 0 rfl
      have r1 := XR5.out.c 1 rfl
      have rf1 := XR5.out.f 1 rfl
      have r2 := XR5.out.c 2 rfl
      have rf2 := XR5.out.f 2 rfl
      have r3 := XR5.out.c 3 rfl
      have rf3 := XR5.out.f 3 rfl
      have r4 := XR5.out.c 4 rfl
      have rf4 := XR5.out.f 4 rfl
      have rz := XR5.out.size
      have a0 := XA5.out.c 0 rfl
      have af0 := XA5.out.f 0 rfl
      have a1 := XA5.out.c 1 rfl
      have af1 := XA5.out.f 1 rfl
      have a2 := XA5.out.c 2 rfl
      have af2 := XA5.out.f 2 rfl
      have a3 := XA5.out.c 3 rfl
      have af3 := XA5.out.f 3 rfl
      have a4 := XA5.out.c 4 rfl
      have af4 := XA5.out.f 4 rfl
      have az := XA5.out.size
      go_wp2_with fail
      clear r0 rf0 r1 rf1 r2 rf2 r3 rf3 r4 rf4 rz a0 af0 a1 af1 a2 af2 a3 af3 a4 af4 az
      refine (pick_any 30 p co cap bs k0 sd0 wr hl (by omega) C5.out).mono ?_
      rintro e w8 ⟨⟨y, rfl, h0y, h1y⟩, hD⟩
      obtain ⟨k8, sd8, hk8, hC8, hg8, hsz8⟩ := hD.grew
      have XR8 := hid (XR5.out.grew hg8 (by omega))
      have XA8 := hid (XA5.out.grew hg8 (by omega))
      have D8 := hid (D5.out.grew hg8 (by omega))
      have C8 := hid hC8
      have hR8 : Grew p w w8 := hR5.trans hg8
      have hz8 : wr.heap.size ≤ w8.heap.size := hg8.size
      clear XR5 XA5 D5 C5 hD hg8 hC8 hsz8
      have hy4 : y = 0 ∨ y = 1 ∨ y = 2 ∨ y = 3 ∨ (y ≠ 0 ∧ y ≠ 1 ∧ y ≠ 2 ∧ y ≠ 3) := by omega
      clear h0y h1y
      rcases hy4 with rfl | rfl | rfl | rfl | ⟨y0, y1, y2, y3⟩
      · have Dr := hid D8.out.rb
        clear D8
        have D8 := Dr
        clear Dr
        have r0 := XR8.out.c 0 rfl
        have rf0 := XR8.out.f 0 rfl
        have r1 := XR8.out.c 1 rfl
        have rf1 := XR8.out.f 1 rfl
        have r2 := XR8.out.c 2 rfl
        have rf2 := XR8.out.f 2 rfl
        have r3 := XR8.out.c 3 rfl
        have rf3 := XR8.out.f 3 rfl
        have r4 := XR8.out.c 4 rfl
        have rf4 := XR8.out.f 4 rfl
        have rz := XR8.out.size
        have a0 := XA8.out.c 0 rfl
        have af0 := XA8.out.f 0 rfl
        have a1 := XA8.out.c 1 rfl
        have af1 := XA8.out.f 1 rfl
        have a2 := XA8.out.c 2 rfl
        have af2 := XA8.out.f 2 rfl
        have a3 := XA8.out.c 3 rfl
        have af3 := XA8.out.f 3 rfl
        have a4 := XA8.out.c 4 rfl
        have af4 := XA8.out.f 4 rfl
        have az := XA8.out.size
        obtain ⟨w9, hV⟩ : ∃ V, V = (w8.setCell ⟨w2.heap.size, 1, none⟩ (.bool true)) := ⟨_, rfl⟩
        have XR9 := hid ((XR8.out.other (a := ⟨w2.heap.size, 1, none⟩) (by dsimp only; omega) (.bool true)))
        rw [← hV] at XR9
        have XA9 := hid ((XA8.out.set 1 (.bool true)))
        rw [← hV] at XA9
        have D9 := hid ((D8.out.setOff (a := ⟨w2.heap.size, 1, none⟩) (by dsimp only; omega) (.bool true)))
        rw [← hV] at D9
        have C9 := hid ((C8.out.other (a := ⟨w2.heap.size, 1, none⟩) (by dsimp only; omega) (.bool true)))
        rw [← hV] at C9
        have hR9 : Grew p w w9 := by rw [hV]; exact (hR8.set (a := ⟨w2.heap.size, 1, none⟩) (by dsimp only; omega) (.bool true))
        have hz9 : w8.heap.size ≤ w9.heap.size := by rw [hV]; simp
        have H9 := hid hV
        clear hV XR8 XA8 D8 C8
        go_upto_region 32 with fail
        clear r0 rf0 r1 rf1 r2 rf2 r3 rf3 r4 rf4 rz a0 af0 a1 af1 a2 af2 a3 af3 a4 af4 az
        rw [← H9.out]
        clear H9
        have r0 := XR9.out.c 0 rfl
        have rf0 := XR9.out.f 0 rfl
        have r1 := XR9.out.c 1 rfl
        have rf1 := XR9.out.f 1 rfl
        have r2 := XR9.out.c 2 rfl
        have rf2 := XR9.out.f 2 rfl
        have r3 := XR9.out.c 3 rfl
        have rf3 := XR9.out.f 3 rfl
        have r4 := XR9.out.c 4 rfl
        have rf4 := XR9.out.f 4 rfl
        have rz := XR9.out.size
        have a0 := XA9.out.c 0 rfl
        have af0 := XA9.out.f 0 rfl
        have a1 := XA9.out.c 1 rfl
        have af1 := XA9.out.f 1 rfl
        have a2 := XA9.out.c 2 rfl
        have af2 := XA9.out.f 2 rfl
        have a3 := XA9.out.c 3 rfl
        have af3 := XA9.out.f 3 rfl
        have a4 := XA9.out.c 4 rfl
        have af4 := XA9.out.f 4 rfl
        have az := XA9.out.size
        obtain ⟨w10, hV⟩ : ∃ V, V = (((((w9.setCell ⟨w.heap.size, 0, none⟩ (.int .i64 kap)).setCell ⟨w.heap.size, 1, none⟩ (.bool true)).setCell ⟨w.heap.size, 2, none⟩ (.slice bo b.length bc)).setCell ⟨w.heap.size, 3, none⟩ (.slice so s.length sc)).setCell ⟨w.heap.size, 4, none⟩ (.slice ro r.length rc)) := ⟨_, rfl⟩
        have XR10 := hid ((((((XR9.out.set 0 (.int .i64 kap)).set 1 (.bool true)).set 2 (.slice bo b.length bc)).set 3 (.slice so s.length sc)).set 4 (.slice ro r.length rc)))
        rw [← hV] at XR10
        have XA10 := hid ((((((XA9.out.other (a := ⟨w.heap.size, 0, none⟩) (by dsimp only; omega) (.int .i64 kap)).other (a := ⟨w.heap.size, 1, none⟩) (by dsimp only; omega) (.bool true)).other (a := ⟨w.heap.size, 2, none⟩) (by dsimp only; omega) (.slice bo b.length bc)).other (a := ⟨w.heap.size, 3, none⟩) (by dsimp only; omega) (.slice so s.length sc)).other (a := ⟨w.heap.size, 4, none⟩) (by dsimp only; omega) (.slice ro r.length rc)))
        rw [← hV] at XA10
        have D10 := hid ((((((D9.out.setOff (a := ⟨w.heap.size, 0, none⟩) (by dsimp only; omega) (.int .i64 kap)).setOff (a := ⟨w.heap.size, 1, none⟩) (by dsimp only; omega) (.bool true)).setOff (a := ⟨w.heap.size, 2, none⟩) (by dsimp only; omega) (.slice bo b.length bc)).setOff (a := ⟨w.heap.size, 3, none⟩) (by dsimp only; omega) (.slice so s.length sc)).setOff (a := ⟨w.heap.size, 4, none⟩) (by dsimp only; omega) (.slice ro r.length rc)))
        rw [← hV] at D10
        have C10 := hid ((((((C9.out.other (a := ⟨w.heap.size, 0, none⟩) (by dsimp only; omega) (.int .i64 kap)).other (a := ⟨w.heap.size, 1, none⟩) (by dsimp only; omega) (.bool true)).other (a := ⟨w.heap.size, 2, none⟩) (by dsimp only; omega) (.slice bo b.length bc)).other (a := ⟨w.heap.size, 3, none⟩) (by dsimp only; omega) (.slice so s.length sc)).other (a := ⟨w.heap.size, 4, none⟩) (by dsimp only; omega) (.slice ro r.length rc)))
        rw [← hV] at C10
        have hR10 : Grew p w w10 := by rw [hV]; exact (((((hR9.set (a := ⟨w.heap.size, 0, none⟩) (by dsimp only; omega) (.int .i64 kap)).set (a := ⟨w.heap.size, 1, none⟩) (by dsimp only; omega) (.bool true)).set (a := ⟨w.heap.size, 2, none⟩) (by dsimp only; omega) (.slice bo b.length bc)).set (a := ⟨w.heap.size, 3, none⟩) (by dsimp only; omega) (.slice so s.length sc)).set (a := ⟨w.heap.size, 4, none⟩) (by dsimp only; omega) (.slice ro r.length rc))
        have hz10 : w9.heap.size ≤ w10.heap.size := by rw [hV]; simp
        have H10 := hid hV
        clear hV XR9 XA9 D9 C9
        go_wp2
        clear r0 rf0 r1 rf1 r2 rf2 r3 rf3 r4 rf4 rz a0 af0 a1 af1 a2 af2 a3 af3 a4 af4 az
        rw [← H10.out]
        clear H10
        have r0 := XR10.out.c 0 rfl
        have rf0 := XR10.out.f 0 rfl
        have r1 := XR10.out.c 1 rfl
        have rf1 := XR10.out.f 1 rfl
        have r2 := XR10.out.c 2 rfl
        have rf2 := XR10.out.f 2 rfl
        have r3 := XR10.out.c 3 rfl
        have rf3 := XR10.out.f 3 rfl
        have r4 := XR10.out.c 4 rfl
        have rf4 := XR10.out.f 4 rfl
        have rz := XR10.out.size
        have a0 := XA10.out.c 0 rfl
        have af0 := XA10.out.f 0 rfl
        have a1 := XA10.out.c 1 rfl
        have af1 := XA10.out.f 1 rfl
        have a2 := XA10.out.c 2 rfl
        have af2 := XA10.out.f 2 rfl
        have a3 := XA10.out.c 3 rfl
        have af3 := XA10.out.f 3 rfl
        have a4 := XA10.out.c 4 rfl
        have af4 := XA10.out.f 4 rfl
        have az := XA10.out.size
        refine bodyPost_ret (v := .agg #[.int .i64 kap, .bool true, .slice bo b.length bc, .slice so s.length sc, .slice ro r.length rc]) (by simp [results, Try.results26, go_sem, r0, r1, r2, r3, r4]) rfl ?_
        exact ⟨⟨kap, true, bo, bc, b, so, sc, s, ro, rc, r, rfl, ⟨by omega, by omega, by omega⟩, D10.out.low (by omega)⟩, k8, sd8, by omega, C10.out, hR10⟩
      · have Dr := hid D8.out.rb
        clear D8
        have D8 := Dr
        clear Dr
        have r0 := XR8.out.c 0 rfl
        have rf0 := XR8.out.f 0 rfl
        have r1 := XR8.out.c 1 rfl
        have rf1 := XR8.out.f 1 rfl
        have r2 := XR8.out.c 2 rfl
        have rf2 := XR8.out.f 2 rfl
        have r3 := XR8.out.c 3 rfl
        have rf3 := XR8.out.f 3 rfl
        have r4 := XR8.out.c 4 rfl
        have rf4 := XR8.out.f 4 rfl
        have rz := XR8.out.size
        have a0 := XA8.out.c 0 rfl
        have af0 := XA8.out.f 0 rfl
        have a1 := XA8.out.c 1 rfl
        have af1 := XA8.out.f 1 rfl
        have a2 := XA8.out.c 2 rfl
        have af2 := XA8.out.f 2 rfl
        have a3 := XA8.out.c 3 rfl
        have af3 := XA8.out.f 3 rfl
        have a4 := XA8.out.c 4 rfl
        have af4 := XA8.out.f 4 rfl
        have az := XA8.out.size
        obtain ⟨w9, hV⟩ : ∃ V, V = w8.alloc (.cells #[.int .i64 0, .int .i64 30, .int .i64 31, .int .i64 1] 3) := ⟨_, rfl⟩
        have XR9 := hid (XR8.out.alloc (.cells #[.int .i64 0, .int .i64 30, .int .i64 31, .int .i64 1] 3))
        rw [← hV] at XR9
        have XA9 := hid (XA8.out.alloc (.cells #[.int .i64 0, .int .i64 30, .int .i64 31, .int .i64 1] 3))
        rw [← hV] at XA9
        have D9 := hid (D8.out.later (below1 w8 (.cells #[.int .i64 0, .int .i64 30, .int .i64 31, .int .i64 1] 3)))
        rw [← hV] at D9
        have C9 := hid (C8.out.later (below1 w8 (.cells #[.int .i64 0, .int .i64 30, .int .i64 31, .int .i64 1] 3)))
        rw [← hV] at C9
        have hR9 : Grew p w w9 := by rw [hV]; exact hR8.trans (Grew.alloc p _ _)
        have hz9 : w8.heap.size ≤ w9.heap.size := by rw [hV]; simp
        have H9 := hid hV
        clear hV XR8 XA8 D8 C8
        have XU9 : Hid (Bx w9 w8.heap.size [.int .i64 0, .int .i64 30, .int .i64 31, .int .i64 1]) := by rw [H9.out]; exact Bx.new [.int .i64 0, .int .i64 30, .int .i64 31, .int .i64 1] _ rfl
        have hy9 : w8.heap.size < w9.heap.size := XU9.out.size
        go_wp2_with fail
        clear r0 rf0 r1 rf1 r2 rf2 r3 rf3 r4 rf4 rz a0 af0 a1 af1 a2 af2 a3 af3 a4 af4 az
        rw [← H9.out]
        clear H9
        refine (among_some [0, 30, 31, 1] w8.heap.size p co cap bs k8 sd8 w9 hl (by omega) C9.out (by simp) (by simp) XU9.out (by omega)).mono ?_
        rintro e w10 ⟨⟨z, rfl⟩, hD⟩
        obtain ⟨k10, sd10, hk10, hC10, hg10, hsz10⟩ := hD.grew
        have XR10 := hid (XR9.out.grew hg10 (by omega))
        have XA10 := hid (XA9.out.grew hg10 (by omega))
        have XU10 := hid (XU9.out.grew hg10 (by omega))
        have D10 := hid (D9.out.grew hg10 (by omega))
        have C10 := hid hC10
        have hR10 : Grew p w w10 := hR9.trans hg10
        have hz10 : w9.heap.size ≤ w10.heap.size := hg10.size
        clear XR9 XA9 XU9 D9 C9 hD hg10 hC10 hsz10
        have r0 := XR10.out.c 0 rfl
        have rf0 := XR10.out.f 0 rfl
        have r1 := XR10.out.c 1 rfl
        have rf1 := XR10.out.f 1 rfl
        have r2 := XR10.out.c 2 rfl
        have rf2 := XR10.out.f 2 rfl
        have r3 := XR10.out.c 3 rfl
        have rf3 := XR10.out.f 3 rfl
        have r4 := XR10.out.c 4 rfl
        have rf4 := XR10.out.f 4 rfl
        have rz := XR10.out.size
        have a0 := XA10.out.c 0 rfl
        have af0 := XA10.out.f 0 rfl
        have a1 := XA10.out.c 1 rfl
        have af1 := XA10.out.f 1 rfl
        have a2 := XA10.out.c 2 rfl
        have af2 := XA10.out.f 2 rfl
        have a3 := XA10.out.c 3 rfl
        have af3 := XA10.out.f 3 rfl
        have a4 := XA10.out.c 4 rfl
        have af4 := XA10.out.f 4 rfl
        have az := XA10.out.size
        have u0 := XU10.out.c 0 rfl
        have uf0 := XU10.out.f 0 rfl
        have u1 := XU10.out.c 1 rfl
        have uf1 := XU10.out.f 1 rfl
        have u2 := XU10.out.c 2 rfl
        have uf2 := XU10.out.f 2 rfl
        have u3 := XU10.out.c 3 rfl
        have uf3 := XU10.out.f 3 rfl
        have uz := XU10.out.size
        obtain ⟨w11, hV⟩ : ∃ V, V = (w10.setCell ⟨w2.heap.size, 0, none⟩ (.int .i64 z)) := ⟨_, rfl⟩
        have XR11 := hid ((XR10.out.other (a := ⟨w2.heap.size, 0, none⟩) (by dsimp only; omega) (.int .i64 z)))
        rw [← hV] at XR11
        have XA11 := hid ((XA10.out.set 0 (.int .i64 z)))
        rw [← hV] at XA11
        have XU11 := hid ((XU10.out.other (a := ⟨w2.heap.size, 0, none⟩) (by dsimp only; omega) (.int .i64 z)))
        rw [← hV] at XU11
        have D11 := hid ((D10.out.setOff (a := ⟨w2.heap.size, 0, none⟩) (by dsimp only; omega) (.int .i64 z)))
        rw [← hV] at D11
        have C11 := hid ((C10.out.other (a := ⟨w2.heap.size, 0, none⟩) (by dsimp only; omega) (.int .i64 z)))
        rw [← hV] at C11
        have hR11 : Grew p w w11 := by rw [hV]; exact (hR10.set (a := ⟨w2.heap.size, 0, none⟩) (by dsimp only; omega) (.int .i64 z))
        have hz11 : w10.heap.size ≤ w11.heap.size := by rw [hV]; simp
        have H11 := hid hV
        clear hV XR10 XA10 XU10 D10 C10
        go_upto_region 32 with fail
        clear r0 rf0 r1 rf1 r2 rf2 r3 rf3 r4 rf4 rz a0 af0 a1 af1 a2 af2 a3 af3 a4 af4 az u0 uf0 u1 uf1 u2 uf2 u3 uf3 uz
        rw [← H11.out]
        clear H11
        have r0 := XR11.out.c 0 rfl
        have rf0 := XR11.out.f 0 rfl
        have r1 := XR11.out.c 1 rfl
        have rf1 := XR11.out.f 1 rfl
        have r2 := XR11.out.c 2 rfl
        have rf2 := XR11.out.f 2 rfl
        have r3 := XR11.out.c 3 rfl
        have rf3 := XR11.out.f 3 rfl
        have r4 := XR11.out.c 4 rfl
        have rf4 := XR11.out.f 4 rfl
        have rz := XR11.out.size
        have a0 := XA11.out.c 0 rfl
        have af0 := XA11.out.f 0 rfl
        have a1 := XA11.out.c 1 rfl
        have af1 := XA11.out.f 1 rfl
        have a2 := XA11.out.c 2 rfl
        have af2 := XA11.out.f 2 rfl
        have a3 := XA11.out.c 3 rfl
        have af3 := XA11.out.f 3 rfl
        have a4 := XA11.out.c 4 rfl
        have af4 := XA11.out.f 4 rfl
        have az := XA11.out.size
        have u0 := XU11.out.c 0 rfl
        have uf0 := XU11.out.f 0 rfl
        have u1 := XU11.out.c 1 rfl
        have uf1 := XU11.out.f 1 rfl
        have u2 := XU11.out.c 2 rfl
        have uf2 := XU11.out.f 2 rfl
        have u3 := XU11.out.c 3 rfl
        have uf3 := XU11.out.f 3 rfl
        have uz := XU11.out.size
        obtain ⟨w12, hV⟩ : ∃ V, V = (((((w11.setCell ⟨w.heap.size, 0, none⟩ (.int .i64 z)).setCell ⟨w.heap.size, 1, none⟩ (.bool cl)).setCell ⟨w.heap.size, 2, none⟩ (.slice bo b.length bc)).setCell ⟨w.heap.size, 3, none⟩ (.slice so s.length sc)).setCell ⟨w.heap.size, 4, none⟩ (.slice ro r.length rc)) := ⟨_, rfl⟩
        have XR12 := hid ((((((XR11.out.set 0 (.int .i64 z)).set 1 (.bool cl)).set 2 (.slice bo b.length bc)).set 3 (.slice so s.length sc)).set 4 (.slice ro r.length rc)))
        rw [← hV] at XR12
        have XA12 := hid ((((((XA11.out.other (a := ⟨w.heap.size, 0, none⟩) (by dsimp only; omega) (.int .i64 z)).other (a := ⟨w.heap.size, 1, none⟩) (by dsimp only; omega) (.bool cl)).other (a := ⟨w.heap.size, 2, none⟩) (by dsimp only; omega) (.slice bo b.length bc)).other (a := ⟨w.heap.size, 3, none⟩) (by dsimp only; omega) (.slice so s.length sc)).other (a := ⟨w.heap.size, 4, none⟩) (by dsimp only; omega) (.slice ro r.length rc)))
        rw [← hV] at XA12
        have XU12 := hid ((((((XU11.out.other (a := ⟨w.heap.size, 0, none⟩) (by dsimp only; omega) (.int .i64 z)).other (a := ⟨w.heap.size, 1, none⟩) (by dsimp only; omega) (.bool cl)).other (a := ⟨w.heap.size, 2, none⟩) (by dsimp only; omega) (.slice bo b.length bc)).other (a := ⟨w.heap.size, 3, none⟩) (by dsimp only; omega) (.slice so s.length sc)).other (a := ⟨w.heap.size, 4, none⟩) (by dsimp only; omega) (.slice ro r.length rc)))
        rw [← hV] at XU12
        have D12 := hid ((((((D11.out.setOff (a := ⟨w.heap.size, 0, none⟩) (by dsimp only; omega) (.int .i64 z)).setOff (a := ⟨w.heap.size, 1, none⟩) (by dsimp only; omega) (.bool cl)).setOff (a := ⟨w.heap.size, 2, none⟩) (by dsimp only; omega) (.slice bo b.length bc)).setOff (a := ⟨w.heap.size, 3, none⟩) (by dsimp only; omega) (.slice so s.length sc)).setOff (a := ⟨w.heap.size, 4, none⟩) (by dsimp only; omega) (.slice ro r.length rc)))
        rw [← hV] at D12
        have C12 := hid ((((((C11.out.other (a := ⟨w.heap.size, 0, none⟩) (by dsimp only; omega) (.int .i64 z)).other (a := ⟨w.heap.size, 1, none⟩) (by dsimp only; omega) (.bool cl)).other (a := ⟨w.heap.size, 2, none⟩) (by dsimp only; omega) (.slice bo b.length bc)).other (a := ⟨w.heap.size, 3, none⟩) (by dsimp only; omega) (.slice so s.length sc)).other (a := ⟨w.heap.size, 4, none⟩) (by dsimp only; omega) (.slice ro r.length rc)))
        rw [← hV] at C12
        have hR12 : Grew p w w12 := by rw [hV]; exact (((((hR11.set (a := ⟨w.heap.size, 0, none⟩) (by dsimp only; omega) (.int .i64 z)).set (a := ⟨w.heap.size, 1, none⟩) (by dsimp only; omega) (.bool cl)).set (a := ⟨w.heap.size, 2, none⟩) (by dsimp only; omega) (.slice bo b.length bc)).set (a := ⟨w.heap.size, 3, none⟩) (by dsimp only; omega) (.slice so s.length sc)).set (a := ⟨w.heap.size, 4, none⟩) (by dsimp only; omega) (.slice ro r.length rc))
        have hz12 : w11.heap.size ≤ w12.heap.size := by rw [hV]; simp
        have H12 := hid hV
        clear hV XR11 XA11 XU11 D11 C11
        go_wp2
        clear r0 rf0 r1 rf1 r2 rf2 r3 rf3 r4 rf4 rz a0 af0 a1 af1 a2 af2 a3 af3 a4 af4 az u0 uf0 u1 uf1 u2 uf2 u3 uf3 uz
        rw [← H12.out]
        clear H12
        have r0 := XR12.out.c 0 rfl
        have rf0 := XR12.out.f 0 rfl
        have r1 := XR12.out.c 1 rfl
        have rf1 := XR12.out.f 1 rfl
        have r2 := XR12.out.c 2 rfl
        have rf2 := XR12.out.f 2 rfl
        have r3 := XR12.out.c 3 rfl
        have rf3 := XR12.out.f 3 rfl
        have r4 := XR12.out.c 4 rfl
        have rf4 := XR12.out.f 4 rfl
        have rz := XR12.out.size
        have a0 := XA12.out.c 0 rfl
        have af0 := XA12.out.f 0 rfl
        have a1 := XA12.out.c 1 rfl
        have af1 := XA12.out.f 1 rfl
        have a2 := XA12.out.c 2 rfl
        have af2 := XA12.out.f 2 rfl
        have a3 := XA12.out.c 3 rfl
        have af3 := XA12.out.f 3 rfl
        have a4 := XA12.out.c 4 rfl
        have af4 := XA12.out.f 4 rfl
        have az := XA12.out.size
        have u0 := XU12.out.c 0 rfl
        have uf0 := XU12.out.f 0 rfl
        have u1 := XU12.out.c 1 rfl
        have uf1 := XU12.out.f 1 rfl
        have u2 := XU12.out.c 2 rfl
        have uf2 := XU12.out.f 2 rfl
        have u3 := XU12.out.c 3 rfl
        have uf3 := XU12.out.f 3 rfl
        have uz := XU12.out.size
        refine bodyPost_ret (v := .agg #[.int .i64 z, .bool cl, .slice bo b.length bc, .slice so s.length sc, .slice ro r.length rc]) (by simp [results, Try.results26, go_sem, r0, r1, r2, r3, r4]) rfl ?_
        exact ⟨⟨z, cl, bo, bc, b, so, sc, s, ro, rc, r, rfl, ⟨by omega, by omega, by omega⟩, D12.out.low (by omega)⟩, k10, sd10, by omega, C12.out, hR12⟩
      · have r0 := XR8.out.c 0 rfl
        have rf0 := XR8.out.f 0 rfl
        have r1 := XR8.out.c 1 rfl
        have rf1 := XR8.out.f 1 rfl
        have r2 := XR8.out.c 2 rfl
        have rf2 := XR8.out.f 2 rfl
        have r3 := XR8.out.c 3 rfl
        have rf3 := XR8.out.f 3 rfl
        have r4 := XR8.out.c 4 rfl
        have rf4 := XR8.out.f 4 rfl
        have rz := XR8.out.size
        have a0 := XA8.out.c 0 rfl
        have af0 := XA8.out.f 0 rfl
        have a1 := XA8.out.c 1 rfl
        have af1 := XA8.out.f 1 rfl
        have a2 := XA8.out.c 2 rfl
        have af2 := XA8.out.f 2 rfl
        have a3 := XA8.out.c 3 rfl
        have af3 := XA8.out.f 3 rfl
        have a4 := XA8.out.c 4 rfl
        have af4 := XA8.out.f 4 rfl
        have az := XA8.out.size
        go_wp2
        have PD : w8.drew.cell? ⟨w2.heap.size, 4, none⟩ = some (.slice ro r.length rc) := a4
        have PB : (w8.alloc (.cells #[.int .i64 0, .int .i64 1, .int .i64 1000, .int .i64 1001] 3)).drew.cell? ⟨w2.heap.size, 4, none⟩ = some (.slice ro r.length rc) := (XA8.out.alloc (.cells #[.int .i64 0, .int .i64 1, .int .i64 1000, .int .i64 1001] 3)).c 4 rfl
        go_region_law (first
            | (refine Kind.appS kL_ok (w10.alloc (.cells #[.int .i64 z, .int .i64 0, .int .i64 z2] 29)) (by rfl) (.tmp 82) (.tmp 89) (by rfl) (w2.heap.size + 1) (.slice ro r.length rc) r (by rfl) Dl.out.rb.2.2 (by simp <;> omega) (some ⟨w10.heap.size, 0, none⟩) [(z, 0, z2)] 1 1 (by rfl) rfl (by simp) _ HN.out (by simp <;> omega) ?_; intro v' w11 hO hB hG hn; rw [← HZ.out] at hO; obtain ⟨ro3, rc3, rfl, hO3⟩ := hO.as; have hz11 : w10.heap.size + 1 ≤ w11.heap.size := (by have := hB.size; simpa using this); have XR11 := hid (XRl.out.below hB (by omega)); have XA11 := hid (XAl.out.below hB (by omega)); have D11 := hid (Dl.out.putR hO3 hG); have C11 := hid (Cl.out.below hB (by omega)); have hR11 := hRl.of_below2 hB (by omega); have P3 : w11.cell? ⟨w2.heap.size, 4, none⟩ = some (.slice ro r.length rc) := XA11.out.c 4 rfl; have rg0 := XR11.out.c 0 rfl; have rh0 := XR11.out.f 0 rfl; have rg1 := XR11.out.c 1 rfl; have rh1 := XR11.out.f 1 rfl; have rg2 := XR11.out.c 2 rfl; have rh2 := XR11.out.f 2 rfl; have rg3 := XR11.out.c 3 rfl; have rh3 := XR11.out.f 3 rfl; have rg4 := XR11.out.c 4 rfl; have rh4 := XR11.out.f 4 rfl; have ag0 := XA11.out.c 0 rfl; have ah0 := XA11.out.f 0 rfl; have ag1 := XA11.out.c 1 rfl; have ah1 := XA11.out.f 1 rfl; have ag2 := XA11.out.c 2 rfl; have ah2 := XA11.out.f 2 rfl; have ag3 := XA11.out.c 3 rfl; have ah3 := XA11.out.f 3 rfl; have ag4 := XA11.out.c 4 rfl; have ah4 := XA11.out.f 4 rfl; clear hO hB hG hn hO3)
            | (go_simp; go_at_call 41; have _u := XU; refine (among_some [0, 1, 1000, 1001] w9.heap.size p co cap bs k9 sd9 (w9.alloc (.cells #[.int .i64 0, .int .i64 1, .int .i64 1000, .int .i64 1001] 3)) hl (by omega) Cu.out (by simp) (by simp) XU.out (by omega)).mono ?_; rintro e w10 ⟨⟨z2, rfl⟩, hD⟩; obtain ⟨k10, sd10, hk10, hC, hg, hsz⟩ := hD.grew; have XR10 := hid (XRu.out.grew hg (by omega)); have XA10 := hid (XAu.out.grew hg (by omega)); have D10 := hid (Du.out.grew hg (by omega)); have C10 := hid hC; have hR10 : Grew p w w10 := hRu.trans hg; have hz10 : w9.heap.size ≤ w10.heap.size := (by have := hg.size; simp at this; omega); have XRl := hid (XR10.out.later (below1 w10 (.cells #[.int .i64 z, .int .i64 0, .int .i64 z2] 29))); have XAl := hid (XA10.out.later (below1 w10 (.cells #[.int .i64 z, .int .i64 0, .int .i64 z2] 29))); have Dl := hid (D10.out.later (below1 w10 (.cells #[.int .i64 z, .int .i64 0, .int .i64 z2] 29))); have Cl := hid (C10.out.later (below1 w10 (.cells #[.int .i64 z, .int .i64 0, .int .i64 z2] 29))); have hRl : Grew p w (w10.alloc (.cells #[.int .i64 z, .int .i64 0, .int .i64 z2] 29)) := hR10.trans (Grew.alloc p _ _); have HN : Hid (kL.In (w10.heap.size + 1) (w10.alloc (.cells #[.int .i64 z, .int .i64 0, .int .i64 z2] 29)) (some ⟨w10.heap.size, 0, none⟩) [(z, 0, z2)]) := kL_one (by omega) (by simp) (by simp) (by simp); have P2 : w10.cell? ⟨w2.heap.size, 4, none⟩ = some (.slice ro r.length rc) := XA10.out.c 4 rfl; have PL : (w10.alloc (.cells #[.int .i64 z, .int .i64 0, .int .i64 z2] 29)).cell? ⟨w2.heap.size, 4, none⟩ = some (.slice ro r.length rc) := XAl.out.c 4 rfl; obtain ⟨zs, hzs⟩ : ∃ zs, zs = r ++ [(z, 0, z2)] := ⟨_, rfl⟩; have hzl : zs.length ≤ 32 := (by rw [hzs]; simp <;> omega); have HZ := hid hzs; clear hD hC hg hsz hzs)
            | (go_simp; go_at_call 41; have _u := XUb; refine (among_some [0, 1, 1000, 1001] w8.heap.size p co cap bs k9 sd9 w9 hl (by omega) C9.out (by simp) (by simp) XUb.out (by omega)).mono ?_; rintro e w10 ⟨⟨z2, rfl⟩, hD⟩; obtain ⟨k10, sd10, hk10, hC, hg, hsz⟩ := hD.grew; have XR10 := hid (XR9.out.grew hg (by omega)); have XA10 := hid (XA9.out.grew hg (by omega)); have D10 := hid (D9.out.grew hg (by omega)); have C10 := hid hC; have hR10 : Grew p w w10 := hR9.trans hg; have hz10 : w9.heap.size ≤ w10.heap.size := hg.size; have XRl := hid (XR10.out.later (below1 w10 (.cells #[.int .i64 z, .int .i64 0, .int .i64 z2] 29))); have XAl := hid (XA10.out.later (below1 w10 (.cells #[.int .i64 z, .int .i64 0, .int .i64 z2] 29))); have Dl := hid (D10.out.later (below1 w10 (.cells #[.int .i64 z, .int .i64 0, .int .i64 z2] 29))); have Cl := hid (C10.out.later (below1 w10 (.cells #[.int .i64 z, .int .i64 0, .int .i64 z2] 29))); have hRl : Grew p w (w10.alloc (.cells #[.int .i64 z, .int .i64 0, .int .i64 z2] 29)) := hR10.trans (Grew.alloc p _ _); have HN : Hid (kL.In (w10.heap.size + 1) (w10.alloc (.cells #[.int .i64 z, .int .i64 0, .int .i64 z2] 29)) (some ⟨w10.heap.size, 0, none⟩) [(z, 0, z2)]) := kL_one (by omega) (by simp) (by simp) (by simp); have P2 : w10.cell? ⟨w2.heap.size, 4, none⟩ = some (.slice ro r.length rc) := XA10.out.c 4 rfl; have PL : (w10.alloc (.cells #[.int .i64 z, .int .i64 0, .int .i64 z2] 29)).cell? ⟨w2.heap.size, 4, none⟩ = some (.slice ro r.length rc) := XAl.out.c 4 rfl; obtain ⟨zs, hzs⟩ : ∃ zs, zs = r ++ [(z, 0, z2)] := ⟨_, rfl⟩; have hzl : zs.length ≤ 32 := (by rw [hzs]; simp <;> omega); have HZ := hid hzs; clear hD hC hg hsz hzs)
            | (go_simp; go_at_call 36; with_reducible change Calls Try.prog _ _ (w8.alloc (.cells #[.int .i64 0, .int .i64 1, .int .i64 1000, .int .i64 1001] 3)).drew _; refine (pick_any 9 p co cap bs k8 sd8 (w8.alloc (.cells #[.int .i64 0, .int .i64 1, .int .i64 1000, .int .i64 1001] 3)).drew hl (by omega) (C8.out.later (below1 w8 (.cells #[.int .i64 0, .int .i64 1, .int .i64 1000, .int .i64 1001] 3))).drew).mono ?_; rintro e w9 ⟨⟨z, rfl, h0z, h1z⟩, hD⟩; obtain ⟨k9, sd9, hk9, hC, hg, hsz⟩ := hD.grew; have hg1 : Grew p (w8.alloc (.cells #[.int .i64 0, .int .i64 1, .int .i64 1000, .int .i64 1001] 3)) w9 := hg.from; have XR9 := hid ((XR8.out.alloc (.cells #[.int .i64 0, .int .i64 1, .int .i64 1000, .int .i64 1001] 3)).grew hg1 (by omega)); have XA9 := hid ((XA8.out.alloc (.cells #[.int .i64 0, .int .i64 1, .int .i64 1000, .int .i64 1001] 3)).grew hg1 (by omega)); have D9 := hid ((D8.out.later (below1 w8 (.cells #[.int .i64 0, .int .i64 1, .int .i64 1000, .int .i64 1001] 3))).grew hg1 (by omega)); have C9 := hid hC; have hR9 : Grew p w w9 := (hR8.trans (Grew.alloc p w8 (.cells #[.int .i64 0, .int .i64 1, .int .i64 1000, .int .i64 1001] 3))).trans hg1; have hz9 : w8.heap.size + 1 ≤ w9.heap.size := (by have := hg1.size; simpa using this); have XUb : Hid (Bx w9 w8.heap.size [.int .i64 0, .int .i64 1, .int .i64 1000, .int .i64 1001]) := hid (Bx.grew (W := (w8.alloc (.cells #[.int .i64 0, .int .i64 1, .int .i64 1000, .int .i64 1001] 3))) (Bx.new (w := w8) [.int .i64 0, .int .i64 1, .int .i64 1000, .int .i64 1001] _ rfl) hg1 (by omega)); have P1 : w9.cell? ⟨w2.heap.size, 4, none⟩ = some (.slice ro r.length rc) := XA9.out.c 4 rfl; clear hD hC hg hsz hg1)
            | (go_simp; go_at_call 36; with_reducible change Calls Try.prog _ _ w8.drew _; refine (pick_any 9 p co cap bs k8 sd8 w8.drew hl (by omega) C8.out.drew).mono ?_; rintro e w9 ⟨⟨z, rfl, h0z, h1z⟩, hD⟩; obtain ⟨k9, sd9, hk9, hC, hg, hsz⟩ := hD.grew; have hg1 : Grew p w8 w9 := hg.from; have XR9 := hid (XR8.out.grew hg1 (by omega)); have XA9 := hid (XA8.out.grew hg1 (by omega)); have D9 := hid (D8.out.grew hg1 (by omega)); have C9 := hid hC; have hR9 : Grew p w w9 := hR8.trans hg1; have hz9 : w8.heap.size ≤ w9.heap.size := hg1.size; have XRu := hid (XR9.out.later (below1 w9 (.cells #[.int .i64 0, .int .i64 1, .int .i64 1000, .int .i64 1001] 3))); have XAu := hid (XA9.out.later (below1 w9 (.cells #[.int .i64 0, .int .i64 1, .int .i64 1000, .int .i64 1001] 3))); have Du := hid (D9.out.later (below1 w9 (.cells #[.int .i64 0, .int .i64 1, .int .i64 1000, .int .i64 1001] 3))); have Cu := hid (C9.out.later (below1 w9 (.cells #[.int .i64 0, .int .i64 1, .int .i64 1000, .int .i64 1001] 3))); have hRu : Grew p w (w9.alloc (.cells #[.int .i64 0, .int .i64 1, .int .i64 1000, .int .i64 1001] 3)) := hR9.trans (Grew.alloc p _ _); have XU : Hid (Bx (w9.alloc (.cells #[.int .i64 0, .int .i64 1, .int .i64 1000, .int .i64 1001] 3)) w9.heap.size [.int .i64 0, .int .i64 1, .int .i64 1000, .int .i64 1001]) := hid (Bx.new (w := w9) [.int .i64 0, .int .i64 1, .int .i64 1000, .int .i64 1001] _ rfl); have P1 : w9.cell? ⟨w2.heap.size, 4, none⟩ = some (.slice ro r.length rc) := XA9.out.c 4 rfl; have PU : (w9.alloc (.cells #[.int .i64 0, .int .i64 1, .int .i64 1000, .int .i64 1001] 3)).cell? ⟨w2.heap.size, 4, none⟩ = some (.slice ro r.length rc) := XAu.out.c 4 rfl; clear hD hC hg hsz hg1))
        all_goals
          obtain ⟨w12, hV⟩ : ∃ V, V = (w11.setCell ⟨w2.heap.size, 4, none⟩ (.slice ro3 zs.length rc3)) := ⟨_, rfl⟩
          have XR12 := hid ((XR11.out.other (a := ⟨w2.heap.size, 4, none⟩) (by dsimp only; omega) (.slice ro3 zs.length rc3)))
          rw [← hV] at XR12
          have XA12 := hid ((XA11.out.set 4 (.slice ro3 zs.length rc3)))
          rw [← hV] at XA12
          have D12 := hid ((D11.out.setOff (a := ⟨w2.heap.size, 4, none⟩) (by dsimp only; omega) (.slice ro3 zs.length rc3)))
          rw [← hV] at D12
          have C12 := hid ((C11.out.other (a := ⟨w2.heap.size, 4, none⟩) (by dsimp only; omega) (.slice ro3 zs.length rc3)))
          rw [← hV] at C12
          have hR12 : Grew p w w12 := by rw [hV]; exact (hR11.set (a := ⟨w2.heap.size, 4, none⟩) (by dsimp only; omega) (.slice ro3 zs.length rc3))
          have hz12 : w11.heap.size ≤ w12.heap.size := by rw [hV]; simp
          have H12 := hid hV
          clear hV XR11 XA11 D11 C11
          go_upto_region 32 with fail
          clear rg0 rh0 rg1 rh1 rg2 rh2 rg3 rh3 rg4 rh4 ag0 ah0 ag1 ah1 ag2 ah2 ag3 ah3 ag4 ah4
          rw [← H12.out]
          clear H12
          have r0 := XR12.out.c 0 rfl
          have rf0 := XR12.out.f 0 rfl
          have r1 := XR12.out.c 1 rfl
          have rf1 := XR12.out.f 1 rfl
          have r2 := XR12.out.c 2 rfl
          have rf2 := XR12.out.f 2 rfl
          have r3 := XR12.out.c 3 rfl
          have rf3 := XR12.out.f 3 rfl
          have r4 := XR12.out.c 4 rfl
          have rf4 := XR12.out.f 4 rfl
          have rz := XR12.out.size
          have a0 := XA12.out.c 0 rfl
          have af0 := XA12.out.f 0 rfl
          have a1 := XA12.out.c 1 rfl
          have af1 := XA12.out.f 1 rfl
          have a2 := XA12.out.c 2 rfl
          have af2 := XA12.out.f 2 rfl
          have a3 := XA12.out.c 3 rfl
          have af3 := XA12.out.f 3 rfl
          have a4 := XA12.out.c 4 rfl
          have af4 := XA12.out.f 4 rfl
          have az := XA12.out.size
          obtain ⟨w13, hV⟩ : ∃ V, V = (((((w12.setCell ⟨w.heap.size, 0, none⟩ (.int .i64 kap)).setCell ⟨w.heap.size, 1, none⟩ (.bool cl)).setCell ⟨w.heap.size, 2, none⟩ (.slice bo b.length bc)).setCell ⟨w.heap.size, 3, none⟩ (.slice so s.length sc)).setCell ⟨w.heap.size, 4, none⟩ (.slice ro3 zs.length rc3)) := ⟨_, rfl⟩
          have XR13 := hid ((((((XR12.out.set 0 (.int .i64 kap)).set 1 (.bool cl)).set 2 (.slice bo b.length bc)).set 3 (.slice so s.length sc)).set 4 (.slice ro3 zs.length rc3)))
          rw [← hV] at XR13
          have XA13 := hid ((((((XA12.out.other (a := ⟨w.heap.size, 0, none⟩) (by dsimp only; omega) (.int .i64 kap)).other (a := ⟨w.heap.size, 1, none⟩) (by dsimp only; omega) (.bool cl)).other (a := ⟨w.heap.size, 2, none⟩) (by dsimp only; omega) (.slice bo b.length bc)).other (a := ⟨w.heap.size, 3, none⟩) (by dsimp only; omega) (.slice so s.length sc)).other (a := ⟨w.heap.size, 4, none⟩) (by dsimp only; omega) (.slice ro3 zs.length rc3)))
          rw [← hV] at XA13
          have D13 := hid ((((((D12.out.setOff (a := ⟨w.heap.size, 0, none⟩) (by dsimp only; omega) (.int .i64 kap)).setOff (a := ⟨w.heap.size, 1, none⟩) (by dsimp only; omega) (.bool cl)).setOff (a := ⟨w.heap.size, 2, none⟩) (by dsimp only; omega) (.slice bo b.length bc)).setOff (a := ⟨w.heap.size, 3, none⟩) (by dsimp only; omega) (.slice so s.length sc)).setOff (a := ⟨w.heap.size, 4, none⟩) (by dsimp only; omega) (.slice ro3 zs.length rc3)))
          rw [← hV] at D13
          have C13 := hid ((((((C12.out.other (a := ⟨w.heap.size, 0, none⟩) (by dsimp only; omega) (.int .i64 kap)).other (a := ⟨w.heap.size, 1, none⟩) (by dsimp only; omega) (.bool cl)).other (a := ⟨w.heap.size, 2, none⟩) (by dsimp only; omega) (.slice bo b.length bc)).other (a := ⟨w.heap.size, 3, none⟩) (by dsimp only; omega) (.slice so s.length sc)).other (a := ⟨w.heap.size, 4, none⟩) (by dsimp only; omega) (.slice ro3 zs.length rc3)))
          rw [← hV] at C13
          have hR13 : Grew p w w13 := by rw [hV]; exact (((((hR12.set (a := ⟨w.heap.size, 0, none⟩) (by dsimp only; omega) (.int .i64 kap)).set (a := ⟨w.heap.size, 1, none⟩) (by dsimp only; omega) (.bool cl)).set (a := ⟨w.heap.size, 2, none⟩) (by dsimp only; omega) (.slice bo b.length bc)).set (a := ⟨w.heap.size, 3, none⟩) (by dsimp only; omega) (.slice so s.length sc)).set (a := ⟨w.heap.size, 4, none⟩) (by dsimp only; omega) (.slice ro3 zs.length rc3))
          have hz13 : w12.heap.size ≤ w13.heap.size := by rw [hV]; simp
          have H13 := hid hV
          clear hV XR12 XA12 D12 C12
          go_wp2
          clear r0 rf0 r1 rf1 r2 rf2 r3 rf3 r4 rf4 rz a0 af0 a1 af1 a2 af2 a3 af3 a4 af4 az
          rw [← H13.out]
          clear H13
          have r0 := XR13.out.c 0 rfl
          have rf0 := XR13.out.f 0 rfl
          have r1 := XR13.out.c 1 rfl
          have rf1 := XR13.out.f 1 rfl
          have r2 := XR13.out.c 2 rfl
          have rf2 := XR13.out.f 2 rfl
          have r3 := XR13.out.c 3 rfl
          have rf3 := XR13.out.f 3 rfl
          have r4 := XR13.out.c 4 rfl
          have rf4 := XR13.out.f 4 rfl
          have rz := XR13.out.size
          have a0 := XA13.out.c 0 rfl
          have af0 := XA13.out.f 0 rfl
          have a1 := XA13.out.c 1 rfl
          have af1 := XA13.out.f 1 rfl
          have a2 := XA13.out.c 2 rfl
          have af2 := XA13.out.f 2 rfl
          have a3 := XA13.out.c 3 rfl
          have af3 := XA13.out.f 3 rfl
          have a4 := XA13.out.c 4 rfl
          have af4 := XA13.out.f 4 rfl
          have az := XA13.out.size
          refine bodyPost_ret (v := .agg #[.int .i64 kap, .bool cl, .slice bo b.length bc, .slice so s.length sc, .slice ro3 zs.length rc3]) (by simp [results, Try.results26, go_sem, r0, r1, r2, r3, r4]) rfl ?_
          exact ⟨⟨kap, cl, bo, bc, b, so, sc, s, ro3, rc3, zs, rfl, ⟨by omega, by omega, by omega⟩, D13.out.low (by omega)⟩, k10, sd10, by omega, C13.out, hR13⟩
      · have Dr := hid D8.out.rb
        clear D8
        have D8 := Dr
        clear Dr
        have r0 := XR8.out.c 0 rfl
        have rf0 := XR8.out.f 0 rfl
        have r1 := XR8.out.c 1 rfl
        have rf1 := XR8.out.f 1 rfl
        have r2 := XR8.out.c 2 rfl
        have rf2 := XR8.out.f 2 rfl
        have r3 := XR8.out.c 3 rfl
        have rf3 := XR8.out.f 3 rfl
        have r4 := XR8.out.c 4 rfl
        have rf4 := XR8.out.f 4 rfl
        have rz := XR8.out.size
        have a0 := XA8.out.c 0 rfl
        have af0 := XA8.out.f 0 rfl
        have a1 := XA8.out.c 1 rfl
        have af1 := XA8.out.f 1 rfl
        have a2 := XA8.out.c 2 rfl
        have af2 := XA8.out.f 2 rfl
        have a3 := XA8.out.c 3 rfl
        have af3 := XA8.out.f 3 rfl
        have a4 := XA8.out.c 4 rfl
        have af4 := XA8.out.f 4 rfl
        have az := XA8.out.size
        go_wp2
        clear r0 rf0 r1 rf1 r2 rf2 r3 rf3 r4 rf4 rz a0 af0 a1 af1 a2 af2 a3 af3 a4 af4 az
        go_loopw [7] (fun i wq => ∃ (m k2 : Nat) (sd2 : Int) (bo2 : Option Addr) (bc2 : Nat) (b2 : List Int), i = .int .i64 (m : Int) ∧ m ≤ 31 ∧ b2.length ≤ 31 + m ∧ k2 ≤ k8 + 2 * m ∧ Hid (Bx wq w.heap.size [.int .i64 0, .bool false, .slice none 0 0, .slice none 0 0, .slice none 0 0]) ∧ Hid (Bx wq w2.heap.size [.int .i64 kap, .bool cl, .slice bo2 b2.length bc2, .slice so s.length sc, .slice ro r.length rc]) ∧ Hid (RB (w2.heap.size + 1) wq bo2 bc2 b2 so sc s ro rc r) ∧ Hid (Cur wq p co cap bs k2 sd2) ∧ Grew p w wq ∧ w2.heap.size + 1 ≤ wq.heap.size) (fun i _ => 32 - (intOf i).toNat)
        case atStart => exact ⟨0, k8, sd8, _, _, b, rfl, by omega, by omega, by omega, XR8, XA8, D8, C8, hR8, by omega⟩
        case round =>
          clear XR8 XA8 D8 C8 hR8
          obtain ⟨m, k3, sd3, bo2, bc2, b2, rfl, hm2, hbl, hk3, XR9, XA9, D9, C9, hR9, hs2⟩ := hrel
          have r0 := XR9.out.c 0 rfl
          have rf0 := XR9.out.f 0 rfl
          have r1 := XR9.out.c 1 rfl
          have rf1 := XR9.out.f 1 rfl
          have r2 := XR9.out.c 2 rfl
          have rf2 := XR9.out.f 2 rfl
          have r3 := XR9.out.c 3 rfl
          have rf3 := XR9.out.f 3 rfl
          have r4 := XR9.out.c 4 rfl
          have rf4 := XR9.out.f 4 rfl
          have rz := XR9.out.size
          have a0 := XA9.out.c 0 rfl
          have af0 := XA9.out.f 0 rfl
          have a1 := XA9.out.c 1 rfl
          have af1 := XA9.out.f 1 rfl
          have a2 := XA9.out.c 2 rfl
          have af2 := XA9.out.f 2 rfl
          have a3 := XA9.out.c 3 rfl
          have af3 := XA9.out.f 3 rfl
          have a4 := XA9.out.c 4 rfl
          have af4 := XA9.out.f 4 rfl
          have az := XA9.out.size
          go_wp2_with fail
          clear r0 rf0 r1 rf1 r2 rf2 r3 rf3 r4 rf4 rz a0 af0 a1 af1 a2 af2 a3 af3 a4 af4 az
          refine (pick_any 2 p co cap bs k3 sd3 wr hl (by omega) C9.out).mono ?_
          rintro e w10 ⟨⟨y, rfl, h0y, h1y⟩, hD⟩
          obtain ⟨k10, sd10, hk10, hC10, hg10, hsz10⟩ := hD.grew
          have XR10 := hid (XR9.out.grew hg10 (by omega))
          have XA10 := hid (XA9.out.grew hg10 (by omega))
          have D10 := hid (D9.out.grew hg10 (by omega))
          have C10 := hid hC10
          have hR10 : Grew p w w10 := hR9.trans hg10
          have hz10 : wr.heap.size ≤ w10.heap.size := hg10.size
          clear XR9 XA9 D9 C9 hD hg10 hC10 hsz10
          have hy1 : y ≤ 1 := by omega
          clear h1y
          by_cases hlt : (m : Int) < 30 + y
          · have hlt1 : decide ((m : Int) < 30 + y) = true := by simpa using hlt
            have HA := hid (D10.out.later (below1 w10 (.cells #[.int .i64 (m : Int)] 3)))
            have HN : Hid (kI.In (w10.heap.size + 1) (w10.alloc (.cells #[.int .i64 (m : Int)] 3)) (some ⟨w10.heap.size, 0, none⟩) [(m : Int)]) := int_one (by omega) (by simp)
            have XRa := hid (XR10.out.alloc (.cells #[.int .i64 (m : Int)] 3))
            have XAa := hid (XA10.out.alloc (.cells #[.int .i64 (m : Int)] 3))
            have Ca := hid (C10.out.later (below1 w10 (.cells #[.int .i64 (m : Int)] 3)))
            have hRa : Grew p w (w10.alloc (.cells #[.int .i64 (m : Int)] 3)) := hR10.trans (Grew.alloc p _ _)
            obtain ⟨zs, hzs⟩ : ∃ zs, zs = b2 ++ [(m : Int)] := ⟨_, rfl⟩
            have hzl : zs.length ≤ 32 + m := by rw [hzs]; simp <;> omega
            have HZ := hid hzs
            clear hzs
            have r0 := XR10.out.c 0 rfl
            have rf0 := XR10.out.f 0 rfl
            have r1 := XR10.out.c 1 rfl
            have rf1 := XR10.out.f 1 rfl
            have r2 := XR10.out.c 2 rfl
            have rf2 := XR10.out.f 2 rfl
            have r3 := XR10.out.c 3 rfl
            have rf3 := XR10.out.f 3 rfl
            have r4 := XR10.out.c 4 rfl
            have rf4 := XR10.out.f 4 rfl
            have rz := XR10.out.size
            have a0 := XA10.out.c 0 rfl
            have af0 := XA10.out.f 0 rfl
            have a1 := XA10.out.c 1 rfl
            have af1 := XA10.out.f 1 rfl
            have a2 := XA10.out.c 2 rfl
            have af2 := XA10.out.f 2 rfl
            have a3 := XA10.out.c 3 rfl
            have af3 := XA10.out.f 3 rfl
            have a4 := XA10.out.c 4 rfl
            have af4 := XA10.out.f 4 rfl
            have az := XA10.out.size
            go_wp2_with (at_builtin; refine Kind.app kI_ok (w10.alloc (.cells #[.int .i64 (m : Int)] 3)) rfl (.tmp 102) (.tmp 104) rfl (w2.heap.size + 1) (.slice bo2 b2.length bc2) b2 rfl HA.out.1 (by simp <;> omega) (some ⟨w10.heap.size, 0, none⟩) [(m : Int)] 1 1 rfl rfl (by simp) _ HN.out (by simp <;> omega) ?_; intro v' w11 hO hB hG hn; rw [← HZ.out] at hO; obtain ⟨bo3, bc3, rfl, hO3⟩ := hO.as; have hsz : w10.heap.size + 1 ≤ w11.heap.size := (by have := hB.size; simpa using this); have XR11 := hid (XRa.out.below hB (by omega)); have XA11 := hid (XAa.out.below hB (by omega)); have D11 := hid (HA.out.putB hO3 hG); have C11 := hid (Ca.out.below hB (by omega)); have hR11 := hRa.of_below2 hB (by omega); have rg0 := XR11.out.c 0 rfl; have rh0 := XR11.out.f 0 rfl; have rg1 := XR11.out.c 1 rfl; have rh1 := XR11.out.f 1 rfl; have rg2 := XR11.out.c 2 rfl; have rh2 := XR11.out.f 2 rfl; have rg3 := XR11.out.c 3 rfl; have rh3 := XR11.out.f 3 rfl; have rg4 := XR11.out.c 4 rfl; have rh4 := XR11.out.f 4 rfl; have ag0 := XA11.out.c 0 rfl; have ah0 := XA11.out.f 0 rfl; have ag1 := XA11.out.c 1 rfl; have ah1 := XA11.out.f 1 rfl; have ag2 := XA11.out.c 2 rfl; have ah2 := XA11.out.f 2 rfl; have ag3 := XA11.out.c 3 rfl; have ah3 := XA11.out.f 3 rfl; have ag4 := XA11.out.c 4 rfl; have ah4 := XA11.out.f 4 rfl; clear hO hB hG hn hO3 XRa XAa HA Ca hRa HN XR10 XA10 D10 C10 r0 rf0 r1 rf1 r2 rf2 r3 rf3 r4 rf4 rz a0 af0 a1 af1 a2 af2 a3 af3 a4 af4 az)
            obtain ⟨w12, hV⟩ : ∃ V, V = (w11.setCell ⟨w2.heap.size, 2, none⟩ (.slice bo3 zs.length bc3)) := ⟨_, rfl⟩
            have XR12 := hid ((XR11.out.other (a := ⟨w2.heap.size, 2, none⟩) (by dsimp only; omega) (.slice bo3 zs.length bc3)))
            rw [← hV] at XR12
            have XA12 := hid ((XA11.out.set 2 (.slice bo3 zs.length bc3)))
            rw [← hV] at XA12
            have D12 := hid ((D11.out.setOff (a := ⟨w2.heap.size, 2, none⟩) (by dsimp only; omega) (.slice bo3 zs.length bc3)))
            rw [← hV] at D12
            have C12 := hid ((C11.out.other (a := ⟨w2.heap.size, 2, none⟩) (by dsimp only; omega) (.slice bo3 zs.length bc3)))
            rw [← hV] at C12
            have hR12 : Grew p w w12 := by rw [hV]; exact (hR11.set (a := ⟨w2.heap.size, 2, none⟩) (by dsimp only; omega) (.slice bo3 zs.length bc3))
            have hz12 : w11.heap.size ≤ w12.heap.size := by rw [hV]; simp
            have H12 := hid hV
            clear hV XR11 XA11 D11 C11
            clear rg0 rh0 rg1 rh1 rg2 rh2 rg3 rh3 rg4 rh4 ag0 ah0 ag1 ah1 ag2 ah2 ag3 ah3 ag4 ah4
            rw [← H12.out]
            clear H12
            go_roundw
            case rel => exact ⟨m + 1, k10, sd10, bo3, bc3, zs, by go_num, by omega, by omega, by omega, XR12, XA12, D12, C12, hR12, by omega⟩
            case measure => simp [intOf] <;> omega
          · have hlt1 : decide ((m : Int) < 30 + y) = false := by simpa using hlt
            have r0 := XR10.out.c 0 rfl
            have rf0 := XR10.out.f 0 rfl
            have r1 := XR10.out.c 1 rfl
            have rf1 := XR10.out.f 1 rfl
            have r2 := XR10.out.c 2 rfl
            have rf2 := XR10.out.f 2 rfl
            have r3 := XR10.out.c 3 rfl
            have rf3 := XR10.out.f 3 rfl
            have r4 := XR10.out.c 4 rfl
            have rf4 := XR10.out.f 4 rfl
            have rz := XR10.out.size
            have a0 := XA10.out.c 0 rfl
            have af0 := XA10.out.f 0 rfl
            have a1 := XA10.out.c 1 rfl
            have af1 := XA10.out.f 1 rfl
            have a2 := XA10.out.c 2 rfl
            have af2 := XA10.out.f 2 rfl
            have a3 := XA10.out.c 3 rfl
            have af3 := XA10.out.f 3 rfl
            have a4 := XA10.out.c 4 rfl
            have af4 := XA10.out.f 4 rfl
            have az := XA10.out.size
            obtain ⟨w11, hV⟩ : ∃ V, V = (((((w10.setCell ⟨w.heap.size, 0, none⟩ (.int .i64 kap)).setCell ⟨w.heap.size, 1, none⟩ (.bool cl)).setCell ⟨w.heap.size, 2, none⟩ (.slice bo2 b2.length bc2)).setCell ⟨w.heap.size, 3, none⟩ (.slice so s.length sc)).setCell ⟨w.heap.size, 4, none⟩ (.slice ro r.length rc)) := ⟨_, rfl⟩
            have XR11 := hid ((((((XR10.out.set 0 (.int .i64 kap)).set 1 (.bool cl)).set 2 (.slice bo2 b2.length bc2)).set 3 (.slice so s.length sc)).set 4 (.slice ro r.length rc)))
            rw [← hV] at XR11
            have XA11 := hid ((((((XA10.out.other (a := ⟨w.heap.size, 0, none⟩) (by dsimp only; omega) (.int .i64 kap)).other (a := ⟨w.heap.size, 1, none⟩) (by dsimp only; omega) (.bool cl)).other (a := ⟨w.heap.size, 2, none⟩) (by dsimp only; omega) (.slice bo2 b2.length bc2)).other (a := ⟨w.heap.size, 3, none⟩) (by dsimp only; omega) (.slice so s.length sc)).other (a := ⟨w.heap.size, 4, none⟩) (by dsimp only; omega) (.slice ro r.length rc)))
            rw [← hV] at XA11
            have D11 := hid ((((((D10.out.setOff (a := ⟨w.heap.size, 0, none⟩) (by dsimp only; omega) (.int .i64 kap)).setOff (a := ⟨w.heap.size, 1, none⟩) (by dsimp only; omega) (.bool cl)).setOff (a := ⟨w.heap.size, 2, none⟩) (by dsimp only; omega) (.slice bo2 b2.length bc2)).setOff (a := ⟨w.heap.size, 3, none⟩) (by dsimp only; omega) (.slice so s.length sc)).setOff (a := ⟨w.heap.size, 4, none⟩) (by dsimp only; omega) (.slice ro r.length rc)))
            rw [← hV] at D11
            have C11 := hid ((((((C10.out.other (a := ⟨w.heap.size, 0, none⟩) (by dsimp only; omega) (.int .i64 kap)).other (a := ⟨w.heap.size, 1, none⟩) (by dsimp only; omega) (.bool cl)).other (a := ⟨w.heap.size, 2, none⟩) (by dsimp only; omega) (.slice bo2 b2.length bc2)).other (a := ⟨w.heap.size, 3, none⟩) (by dsimp only; omega) (.slice so s.length sc)).other (a := ⟨w.heap.size, 4, none⟩) (by dsimp only; omega) (.slice ro r.length rc)))
            rw [← hV] at C11
            have hR11 : Grew p w w11 := by rw [hV]; exact (((((hR10.set (a := ⟨w.heap.size, 0, none⟩) (by dsimp only; omega) (.int .i64 kap)).set (a := ⟨w.heap.size, 1, none⟩) (by dsimp only; omega) (.bool cl)).set (a := ⟨w.heap.size, 2, none⟩) (by dsimp only; omega) (.slice bo2 b2.length bc2)).set (a := ⟨w.heap.size, 3, none⟩) (by dsimp only; omega) (.slice so s.length sc)).set (a := ⟨w.heap.size, 4, none⟩) (by dsimp only; omega) (.slice ro r.length rc))
            have hz11 : w10.heap.size ≤ w11.heap.size := by rw [hV]; simp
            have H11 := hid hV
            clear hV XR10 XA10 D10 C10
            go_wp2
            clear r0 rf0 r1 rf1 r2 rf2 r3 rf3 r4 rf4 rz a0 af0 a1 af1 a2 af2 a3 af3 a4 af4 az
            rw [← H11.out]
            clear H11
            have r0 := XR11.out.c 0 rfl
            have rf0 := XR11.out.f 0 rfl
            have r1 := XR11.out.c 1 rfl
            have rf1 := XR11.out.f 1 rfl
            have r2 := XR11.out.c 2 rfl
            have rf2 := XR11.out.f 2 rfl
            have r3 := XR11.out.c 3 rfl
            have rf3 := XR11.out.f 3 rfl
            have r4 := XR11.out.c 4 rfl
            have rf4 := XR11.out.f 4 rfl
            have rz := XR11.out.size
            have a0 := XA11.out.c 0 rfl
            have af0 := XA11.out.f 0 rfl
            have a1 := XA11.out.c 1 rfl
            have af1 := XA11.out.f 1 rfl
            have a2 := XA11.out.c 2 rfl
            have af2 := XA11.out.f 2 rfl
            have a3 := XA11.out.c 3 rfl
            have af3 := XA11.out.f 3 rfl
            have a4 := XA11.out.c 4 rfl
            have af4 := XA11.out.f 4 rfl
            have az := XA11.out.size
            refine bodyPost_ret (v := .agg #[.int .i64 kap, .bool cl, .slice bo2 b2.length bc2, .slice so s.length sc, .slice ro r.length rc]) (by simp [results, Try.results26, go_sem, r0, r1, r2, r3, r4]) rfl ?_
            exact ⟨⟨kap, cl, bo2, bc2, b2, so, sc, s, ro, rc, r, rfl, ⟨by omega, by omega, by omega⟩, D11.out.low (by omega)⟩, k10, sd10, by omega, C11.out, hR11⟩
      · have Dr := hid D8.out.rb
        clear D8
        have D8 := Dr
        clear Dr
        have e0 : (y == 0) = false := by simpa using y0
        have f0 : decide (y = 0) = false := by simpa using y0
        have e1 : (y == 1) = false := by simpa using y1
        have f1 : decide (y = 1) = false := by simpa using y1
        have e2 : (y == 2) = false := by simpa using y2
        have f2 : decide (y = 2) = false := by simpa using y2
        have e3 : (y == 3) = false := by simpa using y3
        have f3 : decide (y = 3) = false := by simpa using y3
        have r0 := XR8.out.c 0 rfl
        have rf0 := XR8.out.f 0 rfl
        have r1 := XR8.out.c 1 rfl
        have rf1 := XR8.out.f 1 rfl
        have r2 := XR8.out.c 2 rfl
        have rf2 := XR8.out.f 2 rfl
        have r3 := XR8.out.c 3 rfl
        have rf3 := XR8.out.f 3 rfl
        have r4 := XR8.out.c 4 rfl
        have rf4 := XR8.out.f 4 rfl
        have rz := XR8.out.size
        have a0 := XA8.out.c 0 rfl
        have af0 := XA8.out.f 0 rfl
        have a1 := XA8.out.c 1 rfl
        have af1 := XA8.out.f 1 rfl
        have a2 := XA8.out.c 2 rfl
        have af2 := XA8.out.f 2 rfl
        have a3 := XA8.out.c 3 rfl
        have af3 := XA8.out.f 3 rfl
        have a4 := XA8.out.c 4 rfl
        have af4 := XA8.out.f 4 rfl
        have az := XA8.out.size
        go_upto_region 32 with fail
        clear r0 rf0 r1 rf1 r2 rf2 r3 rf3 r4 rf4 rz a0 af0 a1 af1 a2 af2 a3 af3 a4 af4 az
        have r0 := XR8.out.c 0 rfl
        have rf0 := XR8.out.f 0 rfl
        have r1 := XR8.out.c 1 rfl
        have rf1 := XR8.out.f 1 rfl
        have r2 := XR8.out.c 2 rfl
        have rf2 := XR8.out.f 2 rfl
        have r3 := XR8.out.c 3 rfl
        have rf3 := XR8.out.f 3 rfl
        have r4 := XR8.out.c 4 rfl
        have rf4 := XR8.out.f 4 rfl
        have rz := XR8.out.size
        have a0 := XA8.out.c 0 rfl
        have af0 := XA8.out.f 0 rfl
        have a1 := XA8.out.c 1 rfl
        have af1 := XA8.out.f 1 rfl
        have a2 := XA8.out.c 2 rfl
        have af2 := XA8.out.f 2 rfl
        have a3 := XA8.out.c 3 rfl
        have af3 := XA8.out.f 3 rfl
        have a4 := XA8.out.c 4 rfl
        have af4 := XA8.out.f 4 rfl
        have az := XA8.out.size
        obtain ⟨w9, hV⟩ : ∃ V, V = (((((w8.setCell ⟨w.heap.size, 0, none⟩ (.int .i64 kap)).setCell ⟨w.heap.size, 1, none⟩ (.bool cl)).setCell ⟨w.heap.size, 2, none⟩ (.slice bo b.length bc)).setCell ⟨w.heap.size, 3, none⟩ (.slice so s.length sc)).setCell ⟨w.heap.size, 4, none⟩ (.slice ro r.length rc)) := ⟨_, rfl⟩
        have XR9 := hid ((((((XR8.out.set 0 (.int .i64 kap)).set 1 (.bool cl)).set 2 (.slice bo b.length bc)).set 3 (.slice so s.length sc)).set 4 (.slice ro r.length rc)))
        rw [← hV] at XR9
        have XA9 := hid ((((((XA8.out.other (a := ⟨w.heap.size, 0, none⟩) (by dsimp only; omega) (.int .i64 kap)).other (a := ⟨w.heap.size, 1, none⟩) (by dsimp only; omega) (.bool cl)).other (a := ⟨w.heap.size, 2, none⟩) (by dsimp only; omega) (.slice bo b.length bc)).other (a := ⟨w.heap.size, 3, none⟩) (by dsimp only; omega) (.slice so s.length sc)).other (a := ⟨w.heap.size, 4, none⟩) (by dsimp only; omega) (.slice ro r.length rc)))
        rw [← hV] at XA9
        have D9 := hid ((((((D8.out.setOff (a := ⟨w.heap.size, 0, none⟩) (by dsimp only; omega) (.int .i64 kap)).setOff (a := ⟨w.heap.size, 1, none⟩) (by dsimp only; omega) (.bool cl)).setOff (a := ⟨w.heap.size, 2, none⟩) (by dsimp only; omega) (.slice bo b.length bc)).setOff (a := ⟨w.heap.size, 3, none⟩) (by dsimp only; omega) (.slice so s.length sc)).setOff (a := ⟨w.heap.size, 4, none⟩) (by dsimp only; omega) (.slice ro r.length rc)))
        rw [← hV] at D9
        have C9 := hid ((((((C8.out.other (a := ⟨w.heap.size, 0, none⟩) (by dsimp only; omega) (.int .i64 kap)).other (a := ⟨w.heap.size, 1, none⟩) (by dsimp only; omega) (.bool cl)).other (a := ⟨w.heap.size, 2, none⟩) (by dsimp only; omega) (.slice bo b.length bc)).other (a := ⟨w.heap.size, 3, none⟩) (by dsimp only; omega) (.slice so s.length sc)).other (a := ⟨w.heap.size, 4, none⟩) (by dsimp only; omega) (.slice ro r.length rc)))
        rw [← hV] at C9
        have hR9 : Grew p w w9 := by rw [hV]; exact (((((hR8.set (a := ⟨w.heap.size, 0, none⟩) (by dsimp only; omega) (.int .i64 kap)).set (a := ⟨w.heap.size, 1, none⟩) (by dsimp only; omega) (.bool cl)).set (a := ⟨w.heap.size, 2, none⟩) (by dsimp only; omega) (.slice bo b.length bc)).set (a := ⟨w.heap.size, 3, none⟩) (by dsimp only; omega) (.slice so s.length sc)).set (a := ⟨w.heap.size, 4, none⟩) (by dsimp only; omega) (.slice ro r.length rc))
        have hz9 : w8.heap.size ≤ w9.heap.size := by rw [hV]; simp
        have H9 := hid hV
        clear hV XR8 XA8 D8 C8
        go_wp2
        clear r0 rf0 r1 rf1 r2 rf2 r3 rf3 r4 rf4 rz a0 af0 a1 af1 a2 af2 a3 af3 a4 af4 az
        rw [← H9.out]
        clear H9
        have r0 := XR9.out.c 0 rfl
        have rf0 := XR9.out.f 0 rfl
        have r1 := XR9.out.c 1 rfl
        have rf1 := XR9.out.f 1 rfl
        have r2 := XR9.out.c 2 rfl
        have rf2 := XR9.out.f 2 rfl
        have r3 := XR9.out.c 3 rfl
        have rf3 := XR9.out.f 3 rfl
        have r4 := XR9.out.c 4 rfl
        have rf4 := XR9.out.f 4 rfl
        have rz := XR9.out.size
        have a0 := XA9.out.c 0 rfl
        have af0 := XA9.out.f 0 rfl
        have a1 := XA9.out.c 1 rfl
        have af1 := XA9.out.f 1 rfl
        have a2 := XA9.out.c 2 rfl
        have af2 := XA9.out.f 2 rfl
        have a3 := XA9.out.c 3 rfl
        have af3 := XA9.out.f 3 rfl
        have a4 := XA9.out.c 4 rfl
        have af4 := XA9.out.f 4 rfl
        have az := XA9.out.size
        refine bodyPost_ret (v := .agg #[.int .i64 kap, .bool cl, .slice bo b.length bc, .slice so s.length sc, .slice ro r.length rc]) (by simp [results, Try.results26, go_sem, r0, r1, r2, r3, r4]) rfl ?_
        exact ⟨⟨kap, cl, bo, bc, b, so, sc, s, ro, rc, r, rfl, ⟨by omega, by omega, by omega⟩, D9.out.low (by omega)⟩, k8, sd8, by omega, C9.out, hR9⟩
end Go.Proofs.Ytnnlbnbamhkcaaa
