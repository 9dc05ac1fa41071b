
/- A drawn channel. No conditions but those written. -/
import Derived.Test.YtdfmmidokfcjfaaXk
import Derived.Deep.Cut
import Derived.Deep.DeepCutAuto
import Derived.Deep.RegionLaw
namespace Go.Proofs.Ytdfmmidokfcjfaa
open Go.RowKit

set_option maxRecDepth 10000 in
set_option maxHeartbeats 64000000 in
theorem chanOf_any (p : Nat) (co : Option Addr) (cap : Nat) (bs : List Int) (k : Nat) (sd : Int) (w : World) (hl : bs.length ≤ 9223372036854775807) (ha : k ≤ 1000000000) (hC : Cur w p co cap bs k sd) :
    Calls Try.prog 8 #[.pointer (some ⟨p, 0, none⟩)] w fun e w' => (∃ (kap : Int) (cl : Bool) (bo : Option Addr) (bc : Nat) (b : List Int) (so : Option Addr) (sc : Nat) (s : List Old.T3) (ro : Option Addr) (rc : Nat) (r : List Old.T3), e = .returned (.agg #[.int .i64 kap, .bool cl, .slice bo b.length bc, .slice so s.length sc, .slice ro r.length rc]) ∧ (b.length ≤ 42 ∧ s.length ≤ 42 ∧ r.length ≤ 42) ∧ XV w.heap.size w'.heap.size w' bo bc b so sc s ro rc r) ∧ DrawnG w p co cap bs k 500 w' := by
  have hp := hC.1
  have C0 := hid hC
  have hR0 := Grew.refl p w
  clear hC
  obtain ⟨w1, hV⟩ : ∃ V, V = w.alloc (.cells #[.int .i64 0, .bool false, .slice none 0 0, .slice none 0 0, .slice none 0 0] 26) := ⟨_, rfl⟩
  have C1 := hid (C0.out.later (below1 w (.cells #[.int .i64 0, .bool false, .slice none 0 0, .slice none 0 0, .slice none 0 0] 26)))
  rw [← hV] at C1
  have hR1 : Grew p w w1 := by rw [hV]; exact hR0.trans (Grew.alloc p _ _)
  have hz1 : w.heap.size ≤ w1.heap.size := by rw [hV]; simp
  have H1 := hid hV
  clear hV C0
  have XR1 : Hid (Bx w1 w.heap.size [.int .i64 0, .bool false, .slice none 0 0, .slice none 0 0, .slice none 0 0]) := by rw [H1.out]; exact Bx.new [.int .i64 0, .bool false, .slice none 0 0, .slice none 0 0, .slice none 0 0] _ rfl
  have hy1 : w.heap.size < w1.heap.size := XR1.out.size
  go_enter Try.func8, Try.ntmps8
  have r0 := XR1.out.c 0 rfl
  have rf0 := XR1.out.f 0 rfl
  have r1 := XR1.out.c 1 rfl
  have rf1 := XR1.out.f 1 rfl
  have r2 := XR1.out.c 2 rfl
  have rf2 := XR1.out.f 2 rfl
  have r3 := XR1.out.c 3 rfl
  have rf3 := XR1.out.f 3 rfl
  have r4 := XR1.out.c 4 rfl
  have rf4 := XR1.out.f 4 rfl
  have rz := XR1.out.size
  go_wp2_with fail
  clear r0 rf0 r1 rf1 r2 rf2 r3 rf3 r4 rf4 rz
  rw [← H1.out]
  clear H1
  refine (pick_any 4 p co cap bs k sd w1 hl (by omega) C1.out).mono ?_
  rintro e w2 ⟨⟨z, rfl, h0z, h1z⟩, hD⟩
  obtain ⟨k2, sd2, hk2, hC2, hg2, hsz2⟩ := hD.grew
  have XR2 := hid (XR1.out.grew hg2 (by omega))
  have C2 := hid hC2
  have hR2 : Grew p w w2 := hR1.trans hg2
  have hz2 : w1.heap.size ≤ w2.heap.size := hg2.size
  clear XR1 C1 hD hg2 hC2 hsz2
  have r0 := XR2.out.c 0 rfl
  have rf0 := XR2.out.f 0 rfl
  have r1 := XR2.out.c 1 rfl
  have rf1 := XR2.out.f 1 rfl
  have r2 := XR2.out.c 2 rfl
  have rf2 := XR2.out.f 2 rfl
  have r3 := XR2.out.c 3 rfl
  have rf3 := XR2.out.f 3 rfl
  have r4 := XR2.out.c 4 rfl
  have rf4 := XR2.out.f 4 rfl
  have rz := XR2.out.size
  go_wp2_with fail
  clear r0 rf0 r1 rf1 r2 rf2 r3 rf3 r4 rf4 rz
  refine (specNew_some z w2).mono ?_
  rintro e w3 ⟨⟨kap0, okb, rfl⟩, hb3⟩
  have XR3 := hid (XR2.out.later hb3)
  have C3 := hid (C2.out.later hb3)
  have hR3 : Grew p w w3 := hR2.trans (Grew.of_below hb3)
  have hz3 : w2.heap.size ≤ w3.heap.size := hb3.size
  clear XR2 C2 hb3
  clear h0z h1z
  have r0 := XR3.out.c 0 rfl
  have rf0 := XR3.out.f 0 rfl
  have r1 := XR3.out.c 1 rfl
  have rf1 := XR3.out.f 1 rfl
  have r2 := XR3.out.c 2 rfl
  have rf2 := XR3.out.f 2 rfl
  have r3 := XR3.out.c 3 rfl
  have rf3 := XR3.out.f 3 rfl
  have r4 := XR3.out.c 4 rfl
  have rf4 := XR3.out.f 4 rfl
  have rz := XR3.out.size
  obtain ⟨w4, hV⟩ : ∃ V, V = w3.alloc (.cells #[.int .i64 kap0, .bool false, .slice none 0 0, .slice none 0 0, .slice none 0 0] 26) := ⟨_, rfl⟩
  have XR4 := hid (XR3.out.alloc (.cells #[.int .i64 kap0, .bool false, .slice none 0 0, .slice none 0 0, .slice none 0 0] 26))
  rw [← hV] at XR4
  have C4 := hid (C3.out.later (below1 w3 (.cells #[.int .i64 kap0, .bool false, .slice none 0 0, .slice none 0 0, .slice none 0 0] 26)))
  rw [← hV] at C4
  have hR4 : Grew p w w4 := by rw [hV]; exact hR3.trans (Grew.alloc p _ _)
  have hz4 : w3.heap.size ≤ w4.heap.size := by rw [hV]; simp
  have H4 := hid hV
  clear hV XR3 C3
  have XA4 : Hid (Bx w4 w3.heap.size [.int .i64 kap0, .bool false, .slice none 0 0, .slice none 0 0, .slice none 0 0]) := by rw [H4.out]; exact Bx.new [.int .i64 kap0, .bool false, .slice none 0 0, .slice none 0 0, .slice none 0 0] _ rfl
  have hy4 : w3.heap.size < w4.heap.size := XA4.out.size
  go_wp2_with fail
  clear r0 rf0 r1 rf1 r2 rf2 r3 rf3 r4 rf4 rz
  rw [← H4.out]
  clear H4
  refine (pick_any 9 p co cap bs k2 sd2 w4 hl (by omega) C4.out).mono ?_
  rintro e w5 ⟨⟨n0, rfl, h0n0, h1n0⟩, hD⟩
  obtain ⟨k5, sd5, hk5, hC5, hg5, hsz5⟩ := hD.grew
  have XR5 := hid (XR4.out.grew hg5 (by omega))
  have XA5 := hid (XA4.out.grew hg5 (by omega))
  have C5 := hid hC5
  have hR5 : Grew p w w5 := hR4.trans hg5
  have hz5 : w4.heap.size ≤ w5.heap.size := hg5.size
  clear XR4 XA4 C4 hD hg5 hC5 hsz5
  obtain ⟨m0, rfl⟩ : ∃ m : Nat, n0 = m := ⟨n0.toNat, by omega⟩
  have hm0 : m0 ≤ 44 := by omega
  clear h0n0 h1n0
  have r0 := XR5.out.c 0 rfl
  have rf0 := XR5.out.f 0 rfl
  have r1 := XR5.out.c 1 rfl
  have rf1 := XR5.out.f 1 rfl
  have r2 := XR5.out.c 2 rfl
  have rf2 := XR5.out.f 2 rfl
  have r3 := XR5.out.c 3 rfl
  have rf3 := XR5.out.f 3 rfl
  have r4 := XR5.out.c 4 rfl
  have rf4 := XR5.out.f 4 rfl
  have rz := XR5.out.size
  have a0 := XA5.out.c 0 rfl
  have af0 := XA5.out.f 0 rfl
  have a1 := XA5.out.c 1 rfl
  have af1 := XA5.out.f 1 rfl
  have a2 := XA5.out.c 2 rfl
  have af2 := XA5.out.f 2 rfl
  have a3 := XA5.out.c 3 rfl
  have af3 := XA5.out.f 3 rfl
  have a4 := XA5.out.c 4 rfl
  have af4 := XA5.out.f 4 rfl
  have az := XA5.out.size
  go_wp2_with fail
  clear r0 rf0 r1 rf1 r2 rf2 r3 rf3 r4 rf4 rz a0 af0 a1 af1 a2 af2 a3 af3 a4 af4 az
  refine (one_any 24 p co cap bs k5 sd5 w5 hl (by omega) C5.out).mono ?_
  rintro e w6 ⟨⟨b2, rfl⟩, hD⟩
  obtain ⟨k6, sd6, hk6, hC6, hg6, hsz6⟩ := hD.grew
  have XR6 := hid (XR5.out.grew hg6 (by omega))
  have XA6 := hid (XA5.out.grew hg6 (by omega))
  have C6 := hid hC6
  have hR6 : Grew p w w6 := hR5.trans hg6
  have hz6 : w5.heap.size ≤ w6.heap.size := hg6.size
  clear XR5 XA5 C5 hD hg6 hC6 hsz6
  have r0 := XR6.out.c 0 rfl
  have rf0 := XR6.out.f 0 rfl
  have r1 := XR6.out.c 1 rfl
  have rf1 := XR6.out.f 1 rfl
  have r2 := XR6.out.c 2 rfl
  have rf2 := XR6.out.f 2 rfl
  have r3 := XR6.out.c 3 rfl
  have rf3 := XR6.out.f 3 rfl
  have r4 := XR6.out.c 4 rfl
  have rf4 := XR6.out.f 4 rfl
  have rz := XR6.out.size
  have a0 := XA6.out.c 0 rfl
  have af0 := XA6.out.f 0 rfl
  have a1 := XA6.out.c 1 rfl
  have af1 := XA6.out.f 1 rfl
  have a2 := XA6.out.c 2 rfl
  have af2 := XA6.out.f 2 rfl
  have a3 := XA6.out.c 3 rfl
  have af3 := XA6.out.f 3 rfl
  have a4 := XA6.out.c 4 rfl
  have af4 := XA6.out.f 4 rfl
  have az := XA6.out.size
  go_upto_if 17 with fail
  clear r0 rf0 r1 rf1 r2 rf2 r3 rf3 r4 rf4 rz a0 af0 a1 af1 a2 af2 a3 af3 a4 af4 az
  go_cut [5] (fun s5 wx => ∃ (m : Nat), s5 = .int .i64 (m : Int) ∧ m ≤ 44 ∧ wx = w6)
  case first =>
    cases b2
    · go_wp2_with fail
      go_meet
      exact ⟨m0, rfl, by omega, rfl⟩
    · go_wp2_with fail
      go_meet
      exact ⟨44, rfl, by omega, rfl⟩
  case rest =>
    clear hm0
    obtain ⟨m, rfl, hm, hwc⟩ := hcut
    rw [hwc]
    clear hwc wc
    have r0 := XR6.out.c 0 rfl
    have rf0 := XR6.out.f 0 rfl
    have r1 := XR6.out.c 1 rfl
    have rf1 := XR6.out.f 1 rfl
    have r2 := XR6.out.c 2 rfl
    have rf2 := XR6.out.f 2 rfl
    have r3 := XR6.out.c 3 rfl
    have rf3 := XR6.out.f 3 rfl
    have r4 := XR6.out.c 4 rfl
    have rf4 := XR6.out.f 4 rfl
    have rz := XR6.out.size
    have a0 := XA6.out.c 0 rfl
    have af0 := XA6.out.f 0 rfl
    have a1 := XA6.out.c 1 rfl
    have af1 := XA6.out.f 1 rfl
    have a2 := XA6.out.c 2 rfl
    have af2 := XA6.out.f 2 rfl
    have a3 := XA6.out.c 3 rfl
    have af3 := XA6.out.f 3 rfl
    have a4 := XA6.out.c 4 rfl
    have af4 := XA6.out.f 4 rfl
    have az := XA6.out.size
    go_wp2_with fail
    clear r0 rf0 r1 rf1 r2 rf2 r3 rf3 r4 rf4 rz a0 af0 a1 af1 a2 af2 a3 af3 a4 af4 az
    refine (one_any 2 p co cap bs k6 sd6 w6 hl (by omega) C6.out).mono ?_
    rintro e w7 ⟨⟨sb, rfl⟩, hD⟩
    obtain ⟨k7, sd7, hk7, hC7, hg7, hsz7⟩ := hD.grew
    have XR7 := hid (XR6.out.grew hg7 (by omega))
    have XA7 := hid (XA6.out.grew hg7 (by omega))
    have C7 := hid hC7
    have hR7 : Grew p w w7 := hR6.trans hg7
    have hz7 : w6.heap.size ≤ w7.heap.size := hg7.size
    clear XR6 XA6 C6 hD hg7 hC7 hsz7
    have D7 : Hid (XW (w3.heap.size + 1) w7.heap.size w7 none 0 [] none 0 [] none 0 []) := hid xw_nil
    have r0 := XR7.out.c 0 rfl
    have rf0 := XR7.out.f 0 rfl
    have r1 := XR7.out.c 1 rfl
    have rf1 := XR7.out.f 1 rfl
    have r2 := XR7.out.c 2 rfl
    have rf2 := XR7.out.f 2 rfl
    have r3 := XR7.out.c 3 rfl
    have rf3 := XR7.out.f 3 rfl
    have r4 := XR7.out.c 4 rfl
    have rf4 := XR7.out.f 4 rfl
    have rz := XR7.out.size
    have a0 := XA7.out.c 0 rfl
    have af0 := XA7.out.f 0 rfl
    have a1 := XA7.out.c 1 rfl
    have af1 := XA7.out.f 1 rfl
    have a2 := XA7.out.c 2 rfl
    have af2 := XA7.out.f 2 rfl
    have a3 := XA7.out.c 3 rfl
    have af3 := XA7.out.f 3 rfl
    have a4 := XA7.out.c 4 rfl
    have af4 := XA7.out.f 4 rfl
    have az := XA7.out.size
    go_wp2
    clear r0 rf0 r1 rf1 r2 rf2 r3 rf3 r4 rf4 rz a0 af0 a1 af1 a2 af2 a3 af3 a4 af4 az
    go_loopw [5] (fun i wr => ∃ (m k2 : Nat) (sd2 : Int) (kap : Int) (cl : Bool) (bo : Option Addr) (bc : Nat) (b : List Int) (so : Option Addr) (sc : Nat) (s : List Old.T3) (ro : Option Addr) (rc : Nat) (r : List Old.T3), i = .int .i64 (m : Int) ∧ m ≤ 44 ∧ (b.length ≤ 41 ∧ s.length ≤ 41 ∧ r.length ≤ 41) ∧ k2 + 8 * m ≤ k + 400 ∧ Hid (Bx wr w.heap.size [.int .i64 0, .bool false, .slice none 0 0, .slice none 0 0, .slice none 0 0]) ∧ Hid (Bx wr w3.heap.size [.int .i64 kap, .bool cl, .slice bo b.length bc, .slice so s.length sc, .slice ro r.length rc]) ∧ Hid (XW (w3.heap.size + 1) wr.heap.size wr bo bc b so sc s ro rc r) ∧ Hid (Cur wr p co cap bs k2 sd2) ∧ Grew p w wr ∧ w3.heap.size + 1 ≤ wr.heap.size) (fun i _ => (intOf i).toNat)
    case atStart => exact ⟨m, k7, sd7, kap0, false, none, 0, [], none, 0, [], none, 0, [], rfl, hm, by simp, by omega, XR7, XA7, D7, C7, hR7, by have := XA7.out.size; omega⟩
    case round =>
      clear XR7 XA7 D7 C7 hR7
      obtain ⟨m, k1, sd1, kap, cl, bo, bc, b, so, sc, s, ro, rc, r, rfl, hm, hls, hk1, XR8, XA8, D8, C8, hR8, hs1⟩ := hrel
      obtain ⟨hl1, hl2, hl3⟩ := hls
      cases m with
      | succ m =>
        have hm1 : decide (0 < ((m + 1 : Nat) : Int)) = true := by simp <;> omega
        have hm2 : (0 : Int) < ((m + 1 : Nat) : Int) := by omega
        have r0 := XR8.out.c 0 rfl
        have rf0 := XR8.out.f 0 rfl
        have r1 := XR8.out.c 1 rfl
        have rf1 := XR8.out.f 1 rfl
        have r2 := XR8.out.c 2 rfl
        have rf2 := XR8.out.f 2 rfl
        have r3 := XR8.out.c 3 rfl
        have rf3 := XR8.out.f 3 rfl
        have r4 := XR8.out.c 4 rfl
        have rf4 := XR8.out.f 4 rfl
        have rz := XR8.out.size
        have a0 := XA8.out.c 0 rfl
        have af0 := XA8.out.f 0 rfl
        have a1 := XA8.out.c 1 rfl
        have af1 := XA8.out.f 1 rfl
        have a2 := XA8.out.c 2 rfl
        have af2 := XA8.out.f 2 rfl
        have a3 := XA8.out.c 3 rfl
        have af3 := XA8.out.f 3 rfl
        have a4 := XA8.out.c 4 rfl
        have af4 := XA8.out.f 4 rfl
        have az := XA8.out.size
        go_wp2_with fail
        clear r0 rf0 r1 rf1 r2 rf2 r3 rf3 r4 rf4 rz a0 af0 a1 af1 a2 af2 a3 af3 a4 af4 az
        refine (pick_any 5 p co cap bs k1 sd1 wr hl (by omega) C8.out).mono ?_
        rintro e w9 ⟨⟨t1, rfl, h0t1, h1t1⟩, hD⟩
        obtain ⟨k9, sd9, hk9, hC9, hg9, hsz9⟩ := hD.grew
        have XR9 := hid (XR8.out.grew hg9 (by omega))
        have XA9 := hid (XA8.out.grew hg9 (by omega))
        have D9 := hid (D8.out.grew hg9 (by omega))
        have C9 := hid hC9
        have hR9 : Grew p w w9 := hR8.trans hg9
        have hz9 : wr.heap.size ≤ w9.heap.size := hg9.size
        clear XR8 XA8 D8 C8 hD hg9 hC9 hsz9
        have r0 := XR9.out.c 0 rfl
        have rf0 := XR9.out.f 0 rfl
        have r1 := XR9.out.c 1 rfl
        have rf1 := XR9.out.f 1 rfl
        have r2 := XR9.out.c 2 rfl
        have rf2 := XR9.out.f 2 rfl
        have r3 := XR9.out.c 3 rfl
        have rf3 := XR9.out.f 3 rfl
        have r4 := XR9.out.c 4 rfl
        have rf4 := XR9.out.f 4 rfl
        have rz := XR9.out.size
        have a0 := XA9.out.c 0 rfl
        have af0 := XA9.out.f 0 rfl
        have a1 := XA9.out.c 1 rfl
        have af1 := XA9.out.f 1 rfl
        have a2 := XA9.out.c 2 rfl
        have af2 := XA9.out.f 2 rfl
        have a3 := XA9.out.c 3 rfl
        have af3 := XA9.out.f 3 rfl
        have a4 := XA9.out.c 4 rfl
        have af4 := XA9.out.f 4 rfl
        have az := XA9.out.size
        go_wp2_with fail
        clear r0 rf0 r1 rf1 r2 rf2 r3 rf3 r4 rf4 rz a0 af0 a1 af1 a2 af2 a3 af3 a4 af4 az
        refine (pick_any 3 p co cap bs k9 sd9 w9 hl (by omega) C9.out).mono ?_
        rintro e w10 ⟨⟨t2, rfl, h0t2, h1t2⟩, hD⟩
        obtain ⟨k10, sd10, hk10, hC10, hg10, hsz10⟩ := hD.grew
        have XR10 := hid (XR9.out.grew hg10 (by omega))
        have XA10 := hid (XA9.out.grew hg10 (by omega))
        have D10 := hid (D9.out.grew hg10 (by omega))
        have C10 := hid hC10
        have hR10 : Grew p w w10 := hR9.trans hg10
        have hz10 : w9.heap.size ≤ w10.heap.size := hg10.size
        clear XR9 XA9 D9 C9 hD hg10 hC10 hsz10
        clear h0t1 h1t1 h0t2 h1t2
        have r0 := XR10.out.c 0 rfl
        have rf0 := XR10.out.f 0 rfl
        have r1 := XR10.out.c 1 rfl
        have rf1 := XR10.out.f 1 rfl
        have r2 := XR10.out.c 2 rfl
        have rf2 := XR10.out.f 2 rfl
        have r3 := XR10.out.c 3 rfl
        have rf3 := XR10.out.f 3 rfl
        have r4 := XR10.out.c 4 rfl
        have rf4 := XR10.out.f 4 rfl
        have rz := XR10.out.size
        have a0 := XA10.out.c 0 rfl
        have af0 := XA10.out.f 0 rfl
        have a1 := XA10.out.c 1 rfl
        have af1 := XA10.out.f 1 rfl
        have a2 := XA10.out.c 2 rfl
        have af2 := XA10.out.f 2 rfl
        have a3 := XA10.out.c 3 rfl
        have af3 := XA10.out.f 3 rfl
        have a4 := XA10.out.c 4 rfl
        have af4 := XA10.out.f 4 rfl
        have az := XA10.out.size
        obtain ⟨w11, hV⟩ : ∃ V, V = w10.alloc (.cells #[.int .i64 t1, .int .i64 t2, .int .i64 0] 28) := ⟨_, rfl⟩
        have XR11 := hid (XR10.out.alloc (.cells #[.int .i64 t1, .int .i64 t2, .int .i64 0] 28))
        rw [← hV] at XR11
        have XA11 := hid (XA10.out.alloc (.cells #[.int .i64 t1, .int .i64 t2, .int .i64 0] 28))
        rw [← hV] at XA11
        have D11 := hid (D10.out.later (below1 w10 (.cells #[.int .i64 t1, .int .i64 t2, .int .i64 0] 28)))
        rw [← hV] at D11
        have C11 := hid (C10.out.later (below1 w10 (.cells #[.int .i64 t1, .int .i64 t2, .int .i64 0] 28)))
        rw [← hV] at C11
        have hR11 : Grew p w w11 := by rw [hV]; exact hR10.trans (Grew.alloc p _ _)
        have hz11 : w10.heap.size ≤ w11.heap.size := by rw [hV]; simp
        have H11 := hid hV
        clear hV XR10 XA10 D10 C10
        have XX11 : Hid (Bx w11 w10.heap.size [.int .i64 t1, .int .i64 t2, .int .i64 0]) := by rw [H11.out]; exact Bx.new [.int .i64 t1, .int .i64 t2, .int .i64 0] _ rfl
        have hy11 : w10.heap.size < w11.heap.size := XX11.out.size
        go_wp2_with fail
        clear r0 rf0 r1 rf1 r2 rf2 r3 rf3 r4 rf4 rz a0 af0 a1 af1 a2 af2 a3 af3 a4 af4 az
        rw [← H11.out]
        clear H11
        refine (one_any 6 p co cap bs k10 sd10 w11 hl (by omega) C11.out).mono ?_
        rintro e w12 ⟨⟨ob, rfl⟩, hD⟩
        obtain ⟨k12, sd12, hk12, hC12, hg12, hsz12⟩ := hD.grew
        have XR12 := hid (XR11.out.grew hg12 (by omega))
        have XA12 := hid (XA11.out.grew hg12 (by omega))
        have XX12 := hid (XX11.out.grew hg12 (by omega))
        have D12 := hid (D11.out.grew hg12 (by omega))
        have C12 := hid hC12
        have hR12 : Grew p w w12 := hR11.trans hg12
        have hz12 : w11.heap.size ≤ w12.heap.size := hg12.size
        clear XR11 XA11 XX11 D11 C11 hD hg12 hC12 hsz12
        cases hsb : (sb == ob)
        · have hsc : (!(sb == ob)) = true := by rw [hsb]; rfl
          have r0 := XR12.out.c 0 rfl
          have rf0 := XR12.out.f 0 rfl
          have r1 := XR12.out.c 1 rfl
          have rf1 := XR12.out.f 1 rfl
          have r2 := XR12.out.c 2 rfl
          have rf2 := XR12.out.f 2 rfl
          have r3 := XR12.out.c 3 rfl
          have rf3 := XR12.out.f 3 rfl
          have r4 := XR12.out.c 4 rfl
          have rf4 := XR12.out.f 4 rfl
          have rz := XR12.out.size
          have a0 := XA12.out.c 0 rfl
          have af0 := XA12.out.f 0 rfl
          have a1 := XA12.out.c 1 rfl
          have af1 := XA12.out.f 1 rfl
          have a2 := XA12.out.c 2 rfl
          have af2 := XA12.out.f 2 rfl
          have a3 := XA12.out.c 3 rfl
          have af3 := XA12.out.f 3 rfl
          have a4 := XA12.out.c 4 rfl
          have af4 := XA12.out.f 4 rfl
          have az := XA12.out.size
          have x0 := XX12.out.c 0 rfl
          have xf0 := XX12.out.f 0 rfl
          have x1 := XX12.out.c 1 rfl
          have xf1 := XX12.out.f 1 rfl
          have x2 := XX12.out.c 2 rfl
          have xf2 := XX12.out.f 2 rfl
          have xz := XX12.out.size
          go_wp2_with fail
          clear r0 rf0 r1 rf1 r2 rf2 r3 rf3 r4 rf4 rz a0 af0 a1 af1 a2 af2 a3 af3 a4 af4 az x0 xf0 x1 xf1 x2 xf2 xz
          refine (pick_any 50 p co cap bs k12 sd12 w12 hl (by omega) C12.out).mono ?_
          rintro e w13 ⟨⟨tv, rfl, h0tv, h1tv⟩, hD⟩
          obtain ⟨k13, sd13, hk13, hC13, hg13, hsz13⟩ := hD.grew
          have XR13 := hid (XR12.out.grew hg13 (by omega))
          have XA13 := hid (XA12.out.grew hg13 (by omega))
          have XX13 := hid (XX12.out.grew hg13 (by omega))
          have D13 := hid (D12.out.grew hg13 (by omega))
          have C13 := hid hC13
          have hR13 : Grew p w w13 := hR12.trans hg13
          have hz13 : w12.heap.size ≤ w13.heap.size := hg13.size
          clear XR12 XA12 XX12 D12 C12 hD hg13 hC13 hsz13
          have r0 := XR13.out.c 0 rfl
          have rf0 := XR13.out.f 0 rfl
          have r1 := XR13.out.c 1 rfl
          have rf1 := XR13.out.f 1 rfl
          have r2 := XR13.out.c 2 rfl
          have rf2 := XR13.out.f 2 rfl
          have r3 := XR13.out.c 3 rfl
          have rf3 := XR13.out.f 3 rfl
          have r4 := XR13.out.c 4 rfl
          have rf4 := XR13.out.f 4 rfl
          have rz := XR13.out.size
          have a0 := XA13.out.c 0 rfl
          have af0 := XA13.out.f 0 rfl
          have a1 := XA13.out.c 1 rfl
          have af1 := XA13.out.f 1 rfl
          have a2 := XA13.out.c 2 rfl
          have af2 := XA13.out.f 2 rfl
          have a3 := XA13.out.c 3 rfl
          have af3 := XA13.out.f 3 rfl
          have a4 := XA13.out.c 4 rfl
          have af4 := XA13.out.f 4 rfl
          have az := XA13.out.size
          have x0 := XX13.out.c 0 rfl
          have xf0 := XX13.out.f 0 rfl
          have x1 := XX13.out.c 1 rfl
          have xf1 := XX13.out.f 1 rfl
          have x2 := XX13.out.c 2 rfl
          have xf2 := XX13.out.f 2 rfl
          have xz := XX13.out.size
          obtain ⟨w14, hV⟩ : ∃ V, V = (w13.setCell ⟨w10.heap.size, 2, none⟩ (.int .i64 (tv - 10))) := ⟨_, rfl⟩
          have XR14 := hid ((XR13.out.other (a := ⟨w10.heap.size, 2, none⟩) (by dsimp only; omega) (.int .i64 (tv - 10))))
          rw [← hV] at XR14
          have XA14 := hid ((XA13.out.other (a := ⟨w10.heap.size, 2, none⟩) (by dsimp only; omega) (.int .i64 (tv - 10))))
          rw [← hV] at XA14
          have XX14 := hid ((XX13.out.set 2 (.int .i64 (tv - 10))))
          rw [← hV] at XX14
          have D14 := hid ((D13.out.setOff (a := ⟨w10.heap.size, 2, none⟩) (by dsimp only; omega) (.int .i64 (tv - 10))))
          rw [← hV] at D14
          have C14 := hid ((C13.out.other (a := ⟨w10.heap.size, 2, none⟩) (by dsimp only; omega) (.int .i64 (tv - 10))))
          rw [← hV] at C14
          have hR14 : Grew p w w14 := by rw [hV]; exact (hR13.set (a := ⟨w10.heap.size, 2, none⟩) (by dsimp only; omega) (.int .i64 (tv - 10)))
          have hz14 : w13.heap.size ≤ w14.heap.size := by rw [hV]; simp
          have H14 := hid hV
          clear hV XR13 XA13 XX13 D13 C13
          go_wp2_with fail
          clear r0 rf0 r1 rf1 r2 rf2 r3 rf3 r4 rf4 rz a0 af0 a1 af1 a2 af2 a3 af3 a4 af4 az x0 xf0 x1 xf1 x2 xf2 xz
          rw [← H14.out]
          clear H14
          refine (stepSend kap cl bo bc b so sc s ro rc r t1 t2 (tv - 10) w14 (by omega) (by omega) (by omega) D14.out).mono ?_
          rintro e w15 ⟨⟨vk, vcl, vbo, vbc, vb, vso, vsc, vs, vro, vrc, vr, ko, kn, kc, cv, rfl, hS1, hW1⟩, hb15⟩
          have XR15 := hid (XR14.out.later hb15)
          have XA15 := hid (XA14.out.later hb15)
          have XX15 := hid (XX14.out.later hb15)
          have D15 := hid (D14.out.later hb15)
          have C15 := hid (C14.out.later hb15)
          have hR15 : Grew p w w15 := hR14.trans (Grew.of_below hb15)
          have hz15 : w14.heap.size ≤ w15.heap.size := hb15.size
          clear XR14 XA14 XX14 D14 C14 hb15
          have E15 := hid hW1
          clear hW1
          have r0 := XR15.out.c 0 rfl
          have rf0 := XR15.out.f 0 rfl
          have r1 := XR15.out.c 1 rfl
          have rf1 := XR15.out.f 1 rfl
          have r2 := XR15.out.c 2 rfl
          have rf2 := XR15.out.f 2 rfl
          have r3 := XR15.out.c 3 rfl
          have rf3 := XR15.out.f 3 rfl
          have r4 := XR15.out.c 4 rfl
          have rf4 := XR15.out.f 4 rfl
          have rz := XR15.out.size
          have a0 := XA15.out.c 0 rfl
          have af0 := XA15.out.f 0 rfl
          have a1 := XA15.out.c 1 rfl
          have af1 := XA15.out.f 1 rfl
          have a2 := XA15.out.c 2 rfl
          have af2 := XA15.out.f 2 rfl
          have a3 := XA15.out.c 3 rfl
          have af3 := XA15.out.f 3 rfl
          have a4 := XA15.out.c 4 rfl
          have af4 := XA15.out.f 4 rfl
          have az := XA15.out.size
          have x0 := XX15.out.c 0 rfl
          have xf0 := XX15.out.f 0 rfl
          have x1 := XX15.out.c 1 rfl
          have xf1 := XX15.out.f 1 rfl
          have x2 := XX15.out.c 2 rfl
          have xf2 := XX15.out.f 2 rfl
          have xz := XX15.out.size
          obtain ⟨w16, hV⟩ : ∃ V, V = (((((w15.setCell ⟨w3.heap.size, 0, none⟩ (.int .i64 vk)).setCell ⟨w3.heap.size, 1, none⟩ (.bool vcl)).setCell ⟨w3.heap.size, 2, none⟩ (.slice vbo vb.length vbc)).setCell ⟨w3.heap.size, 3, none⟩ (.slice vso vs.length vsc)).setCell ⟨w3.heap.size, 4, none⟩ (.slice vro vr.length vrc)) := ⟨_, rfl⟩
          have XR16 := hid ((((((XR15.out.other (a := ⟨w3.heap.size, 0, none⟩) (by dsimp only; omega) (.int .i64 vk)).other (a := ⟨w3.heap.size, 1, none⟩) (by dsimp only; omega) (.bool vcl)).other (a := ⟨w3.heap.size, 2, none⟩) (by dsimp only; omega) (.slice vbo vb.length vbc)).other (a := ⟨w3.heap.size, 3, none⟩) (by dsimp only; omega) (.slice vso vs.length vsc)).other (a := ⟨w3.heap.size, 4, none⟩) (by dsimp only; omega) (.slice vro vr.length vrc)))
          rw [← hV] at XR16
          have XA16 := hid ((((((XA15.out.set 0 (.int .i64 vk)).set 1 (.bool vcl)).set 2 (.slice vbo vb.length vbc)).set 3 (.slice vso vs.length vsc)).set 4 (.slice vro vr.length vrc)))
          rw [← hV] at XA16
          have XX16 := hid ((((((XX15.out.other (a := ⟨w3.heap.size, 0, none⟩) (by dsimp only; omega) (.int .i64 vk)).other (a := ⟨w3.heap.size, 1, none⟩) (by dsimp only; omega) (.bool vcl)).other (a := ⟨w3.heap.size, 2, none⟩) (by dsimp only; omega) (.slice vbo vb.length vbc)).other (a := ⟨w3.heap.size, 3, none⟩) (by dsimp only; omega) (.slice vso vs.length vsc)).other (a := ⟨w3.heap.size, 4, none⟩) (by dsimp only; omega) (.slice vro vr.length vrc)))
          rw [← hV] at XX16
          have D16 := hid ((((((D15.out.setOff (a := ⟨w3.heap.size, 0, none⟩) (by dsimp only; omega) (.int .i64 vk)).setOff (a := ⟨w3.heap.size, 1, none⟩) (by dsimp only; omega) (.bool vcl)).setOff (a := ⟨w3.heap.size, 2, none⟩) (by dsimp only; omega) (.slice vbo vb.length vbc)).setOff (a := ⟨w3.heap.size, 3, none⟩) (by dsimp only; omega) (.slice vso vs.length vsc)).setOff (a := ⟨w3.heap.size, 4, none⟩) (by dsimp only; omega) (.slice vro vr.length vrc)))
          rw [← hV] at D16
          have E16 := hid ((((((E15.out.setOff (a := ⟨w3.heap.size, 0, none⟩) (by dsimp only; omega) (.int .i64 vk)).setOff (a := ⟨w3.heap.size, 1, none⟩) (by dsimp only; omega) (.bool vcl)).setOff (a := ⟨w3.heap.size, 2, none⟩) (by dsimp only; omega) (.slice vbo vb.length vbc)).setOff (a := ⟨w3.heap.size, 3, none⟩) (by dsimp only; omega) (.slice vso vs.length vsc)).setOff (a := ⟨w3.heap.size, 4, none⟩) (by dsimp only; omega) (.slice vro vr.length vrc)))
          rw [← hV] at E16
          have C16 := hid ((((((C15.out.other (a := ⟨w3.heap.size, 0, none⟩) (by dsimp only; omega) (.int .i64 vk)).other (a := ⟨w3.heap.size, 1, none⟩) (by dsimp only; omega) (.bool vcl)).other (a := ⟨w3.heap.size, 2, none⟩) (by dsimp only; omega) (.slice vbo vb.length vbc)).other (a := ⟨w3.heap.size, 3, none⟩) (by dsimp only; omega) (.slice vso vs.length vsc)).other (a := ⟨w3.heap.size, 4, none⟩) (by dsimp only; omega) (.slice vro vr.length vrc)))
          rw [← hV] at C16
          have hR16 : Grew p w w16 := by rw [hV]; exact (((((hR15.set (a := ⟨w3.heap.size, 0, none⟩) (by dsimp only; omega) (.int .i64 vk)).set (a := ⟨w3.heap.size, 1, none⟩) (by dsimp only; omega) (.bool vcl)).set (a := ⟨w3.heap.size, 2, none⟩) (by dsimp only; omega) (.slice vbo vb.length vbc)).set (a := ⟨w3.heap.size, 3, none⟩) (by dsimp only; omega) (.slice vso vs.length vsc)).set (a := ⟨w3.heap.size, 4, none⟩) (by dsimp only; omega) (.slice vro vr.length vrc))
          have hz16 : w15.heap.size ≤ w16.heap.size := by rw [hV]; simp
          have H16 := hid hV
          clear hV XR15 XA15 XX15 D15 E15 C15
          go_wp2
          clear r0 rf0 r1 rf1 r2 rf2 r3 rf3 r4 rf4 rz a0 af0 a1 af1 a2 af2 a3 af3 a4 af4 az x0 xf0 x1 xf1 x2 xf2 xz
          rw [← H16.out]
          clear H16
          go_roundw
          case rel => exact ⟨m, k13, sd13, vk, vcl, vbo, vbc, vb, vso, vsc, vs, vro, vrc, vr, by go_num, by omega, hS1, by omega, XR16, XA16, hid (E16.out.wide (by omega) (by omega)), C16, hR16, by omega⟩
          case measure => simp [intOf] <;> omega
        · have hsc : (!(sb == ob)) = false := by rw [hsb]; rfl
          have r0 := XR12.out.c 0 rfl
          have rf0 := XR12.out.f 0 rfl
          have r1 := XR12.out.c 1 rfl
          have rf1 := XR12.out.f 1 rfl
          have r2 := XR12.out.c 2 rfl
          have rf2 := XR12.out.f 2 rfl
          have r3 := XR12.out.c 3 rfl
          have rf3 := XR12.out.f 3 rfl
          have r4 := XR12.out.c 4 rfl
          have rf4 := XR12.out.f 4 rfl
          have rz := XR12.out.size
          have a0 := XA12.out.c 0 rfl
          have af0 := XA12.out.f 0 rfl
          have a1 := XA12.out.c 1 rfl
          have af1 := XA12.out.f 1 rfl
          have a2 := XA12.out.c 2 rfl
          have af2 := XA12.out.f 2 rfl
          have a3 := XA12.out.c 3 rfl
          have af3 := XA12.out.f 3 rfl
          have a4 := XA12.out.c 4 rfl
          have af4 := XA12.out.f 4 rfl
          have az := XA12.out.size
          have x0 := XX12.out.c 0 rfl
          have xf0 := XX12.out.f 0 rfl
          have x1 := XX12.out.c 1 rfl
          have xf1 := XX12.out.f 1 rfl
          have x2 := XX12.out.c 2 rfl
          have xf2 := XX12.out.f 2 rfl
          have xz := XX12.out.size
          go_wp2_with fail
          clear r0 rf0 r1 rf1 r2 rf2 r3 rf3 r4 rf4 rz a0 af0 a1 af1 a2 af2 a3 af3 a4 af4 az x0 xf0 x1 xf1 x2 xf2 xz
          refine (stepRecv kap cl bo bc b so sc s ro rc r t1 t2 0 w12 (by omega) (by omega) (by omega) D12.out).mono ?_
          rintro e w13 ⟨⟨vk, vcl, vbo, vbc, vb, vso, vsc, vs, vro, vrc, vr, ko, kn, kc, cv, rfl, hS1, hW1⟩, hb13⟩
          have XR13 := hid (XR12.out.later hb13)
          have XA13 := hid (XA12.out.later hb13)
          have XX13 := hid (XX12.out.later hb13)
          have D13 := hid (D12.out.later hb13)
          have C13 := hid (C12.out.later hb13)
          have hR13 : Grew p w w13 := hR12.trans (Grew.of_below hb13)
          have hz13 : w12.heap.size ≤ w13.heap.size := hb13.size
          clear XR12 XA12 XX12 D12 C12 hb13
          have E13 := hid hW1
          clear hW1
          have r0 := XR13.out.c 0 rfl
          have rf0 := XR13.out.f 0 rfl
          have r1 := XR13.out.c 1 rfl
          have rf1 := XR13.out.f 1 rfl
          have r2 := XR13.out.c 2 rfl
          have rf2 := XR13.out.f 2 rfl
          have r3 := XR13.out.c 3 rfl
          have rf3 := XR13.out.f 3 rfl
          have r4 := XR13.out.c 4 rfl
          have rf4 := XR13.out.f 4 rfl
          have rz := XR13.out.size
          have a0 := XA13.out.c 0 rfl
          have af0 := XA13.out.f 0 rfl
          have a1 := XA13.out.c 1 rfl
          have af1 := XA13.out.f 1 rfl
          have a2 := XA13.out.c 2 rfl
          have af2 := XA13.out.f 2 rfl
          have a3 := XA13.out.c 3 rfl
          have af3 := XA13.out.f 3 rfl
          have a4 := XA13.out.c 4 rfl
          have af4 := XA13.out.f 4 rfl
          have az := XA13.out.size
          have x0 := XX13.out.c 0 rfl
          have xf0 := XX13.out.f 0 rfl
          have x1 := XX13.out.c 1 rfl
          have xf1 := XX13.out.f 1 rfl
          have x2 := XX13.out.c 2 rfl
          have xf2 := XX13.out.f 2 rfl
          have xz := XX13.out.size
          obtain ⟨w14, hV⟩ : ∃ V, V = (((((w13.setCell ⟨w3.heap.size, 0, none⟩ (.int .i64 vk)).setCell ⟨w3.heap.size, 1, none⟩ (.bool vcl)).setCell ⟨w3.heap.size, 2, none⟩ (.slice vbo vb.length vbc)).setCell ⟨w3.heap.size, 3, none⟩ (.slice vso vs.length vsc)).setCell ⟨w3.heap.size, 4, none⟩ (.slice vro vr.length vrc)) := ⟨_, rfl⟩
          have XR14 := hid ((((((XR13.out.other (a := ⟨w3.heap.size, 0, none⟩) (by dsimp only; omega) (.int .i64 vk)).other (a := ⟨w3.heap.size, 1, none⟩) (by dsimp only; omega) (.bool vcl)).other (a := ⟨w3.heap.size, 2, none⟩) (by dsimp only; omega) (.slice vbo vb.length vbc)).other (a := ⟨w3.heap.size, 3, none⟩) (by dsimp only; omega) (.slice vso vs.length vsc)).other (a := ⟨w3.heap.size, 4, none⟩) (by dsimp only; omega) (.slice vro vr.length vrc)))
          rw [← hV] at XR14
          have XA14 := hid ((((((XA13.out.set 0 (.int .i64 vk)).set 1 (.bool vcl)).set 2 (.slice vbo vb.length vbc)).set 3 (.slice vso vs.length vsc)).set 4 (.slice vro vr.length vrc)))
          rw [← hV] at XA14
          have XX14 := hid ((((((XX13.out.other (a := ⟨w3.heap.size, 0, none⟩) (by dsimp only; omega) (.int .i64 vk)).other (a := ⟨w3.heap.size, 1, none⟩) (by dsimp only; omega) (.bool vcl)).other (a := ⟨w3.heap.size, 2, none⟩) (by dsimp only; omega) (.slice vbo vb.length vbc)).other (a := ⟨w3.heap.size, 3, none⟩) (by dsimp only; omega) (.slice vso vs.length vsc)).other (a := ⟨w3.heap.size, 4, none⟩) (by dsimp only; omega) (.slice vro vr.length vrc)))
          rw [← hV] at XX14
          have D14 := hid ((((((D13.out.setOff (a := ⟨w3.heap.size, 0, none⟩) (by dsimp only; omega) (.int .i64 vk)).setOff (a := ⟨w3.heap.size, 1, none⟩) (by dsimp only; omega) (.bool vcl)).setOff (a := ⟨w3.heap.size, 2, none⟩) (by dsimp only; omega) (.slice vbo vb.length vbc)).setOff (a := ⟨w3.heap.size, 3, none⟩) (by dsimp only; omega) (.slice vso vs.length vsc)).setOff (a := ⟨w3.heap.size, 4, none⟩) (by dsimp only; omega) (.slice vro vr.length vrc)))
          rw [← hV] at D14
          have E14 := hid ((((((E13.out.setOff (a := ⟨w3.heap.size, 0, none⟩) (by dsimp only; omega) (.int .i64 vk)).setOff (a := ⟨w3.heap.size, 1, none⟩) (by dsimp only; omega) (.bool vcl)).setOff (a := ⟨w3.heap.size, 2, none⟩) (by dsimp only; omega) (.slice vbo vb.length vbc)).setOff (a := ⟨w3.heap.size, 3, none⟩) (by dsimp only; omega) (.slice vso vs.length vsc)).setOff (a := ⟨w3.heap.size, 4, none⟩) (by dsimp only; omega) (.slice vro vr.length vrc)))
          rw [← hV] at E14
          have C14 := hid ((((((C13.out.other (a := ⟨w3.heap.size, 0, none⟩) (by dsimp only; omega) (.int .i64 vk)).other (a := ⟨w3.heap.size, 1, none⟩) (by dsimp only; omega) (.bool vcl)).other (a := ⟨w3.heap.size, 2, none⟩) (by dsimp only; omega) (.slice vbo vb.length vbc)).other (a := ⟨w3.heap.size, 3, none⟩) (by dsimp only; omega) (.slice vso vs.length vsc)).other (a := ⟨w3.heap.size, 4, none⟩) (by dsimp only; omega) (.slice vro vr.length vrc)))
          rw [← hV] at C14
          have hR14 : Grew p w w14 := by rw [hV]; exact (((((hR13.set (a := ⟨w3.heap.size, 0, none⟩) (by dsimp only; omega) (.int .i64 vk)).set (a := ⟨w3.heap.size, 1, none⟩) (by dsimp only; omega) (.bool vcl)).set (a := ⟨w3.heap.size, 2, none⟩) (by dsimp only; omega) (.slice vbo vb.length vbc)).set (a := ⟨w3.heap.size, 3, none⟩) (by dsimp only; omega) (.slice vso vs.length vsc)).set (a := ⟨w3.heap.size, 4, none⟩) (by dsimp only; omega) (.slice vro vr.length vrc))
          have hz14 : w13.heap.size ≤ w14.heap.size := by rw [hV]; simp
          have H14 := hid hV
          clear hV XR13 XA13 XX13 D13 E13 C13
          go_wp2
          clear r0 rf0 r1 rf1 r2 rf2 r3 rf3 r4 rf4 rz a0 af0 a1 af1 a2 af2 a3 af3 a4 af4 az x0 xf0 x1 xf1 x2 xf2 xz
          rw [← H14.out]
          clear H14
          go_roundw
          case rel => exact ⟨m, k12, sd12, vk, vcl, vbo, vbc, vb, vso, vsc, vs, vro, vrc, vr, by go_num, by omega, hS1, by omega, XR14, XA14, hid (E14.out.wide (by omega) (by omega)), C14, hR14, by omega⟩
          case measure => simp [intOf] <;> omega
      | zero =>
        have r0 := XR8.out.c 0 rfl
        have rf0 := XR8.out.f 0 rfl
        have r1 := XR8.out.c 1 rfl
        have rf1 := XR8.out.f 1 rfl
        have r2 := XR8.out.c 2 rfl
        have rf2 := XR8.out.f 2 rfl
        have r3 := XR8.out.c 3 rfl
        have rf3 := XR8.out.f 3 rfl
        have r4 := XR8.out.c 4 rfl
        have rf4 := XR8.out.f 4 rfl
        have rz := XR8.out.size
        have a0 := XA8.out.c 0 rfl
        have af0 := XA8.out.f 0 rfl
        have a1 := XA8.out.c 1 rfl
        have af1 := XA8.out.f 1 rfl
        have a2 := XA8.out.c 2 rfl
        have af2 := XA8.out.f 2 rfl
        have a3 := XA8.out.c 3 rfl
        have af3 := XA8.out.f 3 rfl
        have a4 := XA8.out.c 4 rfl
        have af4 := XA8.out.f 4 rfl
        have az := XA8.out.size
        go_wp2_with fail
        clear r0 rf0 r1 rf1 r2 rf2 r3 rf3 r4 rf4 rz a0 af0 a1 af1 a2 af2 a3 af3 a4 af4 az
        refine (pick_any 24 p co cap bs k1 sd1 wr hl (by omega) C8.out).mono ?_
        rintro e w9 ⟨⟨y, rfl, h0y, h1y⟩, hD⟩
        obtain ⟨k9, sd9, hk9, hC9, hg9, hsz9⟩ := hD.grew
        have XR9 := hid (XR8.out.grew hg9 (by omega))
        have XA9 := hid (XA8.out.grew hg9 (by omega))
        have D9 := hid (D8.out.grew hg9 (by omega))
        have C9 := hid hC9
        have hR9 : Grew p w w9 := hR8.trans hg9
        have hz9 : wr.heap.size ≤ w9.heap.size := hg9.size
        clear XR8 XA8 D8 C8 hD hg9 hC9 hsz9
        have hy6 : y = 0 ∨ y = 1 ∨ y = 2 ∨ y = 3 ∨ y = 4 ∨ (y ≠ 0 ∧ y ≠ 1 ∧ y ≠ 2 ∧ y ≠ 3 ∧ y ≠ 4) := by omega
        clear h0y h1y
        rcases hy6 with rfl | rfl | rfl | rfl | rfl | ⟨y0, y1, y2, y3, y4⟩
        · have r0 := XR9.out.c 0 rfl
          have rf0 := XR9.out.f 0 rfl
          have r1 := XR9.out.c 1 rfl
          have rf1 := XR9.out.f 1 rfl
          have r2 := XR9.out.c 2 rfl
          have rf2 := XR9.out.f 2 rfl
          have r3 := XR9.out.c 3 rfl
          have rf3 := XR9.out.f 3 rfl
          have r4 := XR9.out.c 4 rfl
          have rf4 := XR9.out.f 4 rfl
          have rz := XR9.out.size
          have a0 := XA9.out.c 0 rfl
          have af0 := XA9.out.f 0 rfl
          have a1 := XA9.out.c 1 rfl
          have af1 := XA9.out.f 1 rfl
          have a2 := XA9.out.c 2 rfl
          have af2 := XA9.out.f 2 rfl
          have a3 := XA9.out.c 3 rfl
          have af3 := XA9.out.f 3 rfl
          have a4 := XA9.out.c 4 rfl
          have af4 := XA9.out.f 4 rfl
          have az := XA9.out.size
          go_wp2_with fail
          clear r0 rf0 r1 rf1 r2 rf2 r3 rf3 r4 rf4 rz a0 af0 a1 af1 a2 af2 a3 af3 a4 af4 az
          refine (stepClose kap cl bo bc b so sc s ro rc r w9 (by omega) (by omega) (by omega) D9.out).mono ?_
          rintro e w10 ⟨⟨vk, vcl, vbo, vbc, vb, vso, vsc, vs, vro, vrc, vr, ko, kn, kc, cv, rfl, hS1, hW1⟩, hb10⟩
          have XR10 := hid (XR9.out.later hb10)
          have XA10 := hid (XA9.out.later hb10)
          have D10 := hid (D9.out.later hb10)
          have C10 := hid (C9.out.later hb10)
          have hR10 : Grew p w w10 := hR9.trans (Grew.of_below hb10)
          have hz10 : w9.heap.size ≤ w10.heap.size := hb10.size
          clear XR9 XA9 D9 C9 hb10
          have E10 := hid hW1
          clear hW1
          have r0 := XR10.out.c 0 rfl
          have rf0 := XR10.out.f 0 rfl
          have r1 := XR10.out.c 1 rfl
          have rf1 := XR10.out.f 1 rfl
          have r2 := XR10.out.c 2 rfl
          have rf2 := XR10.out.f 2 rfl
          have r3 := XR10.out.c 3 rfl
          have rf3 := XR10.out.f 3 rfl
          have r4 := XR10.out.c 4 rfl
          have rf4 := XR10.out.f 4 rfl
          have rz := XR10.out.size
          have a0 := XA10.out.c 0 rfl
          have af0 := XA10.out.f 0 rfl
          have a1 := XA10.out.c 1 rfl
          have af1 := XA10.out.f 1 rfl
          have a2 := XA10.out.c 2 rfl
          have af2 := XA10.out.f 2 rfl
          have a3 := XA10.out.c 3 rfl
          have af3 := XA10.out.f 3 rfl
          have a4 := XA10.out.c 4 rfl
          have af4 := XA10.out.f 4 rfl
          have az := XA10.out.size
          obtain ⟨w11, hV⟩ : ∃ V, V = (((((w10.setCell ⟨w3.heap.size, 0, none⟩ (.int .i64 vk)).setCell ⟨w3.heap.size, 1, none⟩ (.bool vcl)).setCell ⟨w3.heap.size, 2, none⟩ (.slice vbo vb.length vbc)).setCell ⟨w3.heap.size, 3, none⟩ (.slice vso vs.length vsc)).setCell ⟨w3.heap.size, 4, none⟩ (.slice vro vr.length vrc)) := ⟨_, rfl⟩
          have XR11 := hid ((((((XR10.out.other (a := ⟨w3.heap.size, 0, none⟩) (by dsimp only; omega) (.int .i64 vk)).other (a := ⟨w3.heap.size, 1, none⟩) (by dsimp only; omega) (.bool vcl)).other (a := ⟨w3.heap.size, 2, none⟩) (by dsimp only; omega) (.slice vbo vb.length vbc)).other (a := ⟨w3.heap.size, 3, none⟩) (by dsimp only; omega) (.slice vso vs.length vsc)).other (a := ⟨w3.heap.size, 4, none⟩) (by dsimp only; omega) (.slice vro vr.length vrc)))
          rw [← hV] at XR11
          have XA11 := hid ((((((XA10.out.set 0 (.int .i64 vk)).set 1 (.bool vcl)).set 2 (.slice vbo vb.length vbc)).set 3 (.slice vso vs.length vsc)).set 4 (.slice vro vr.length vrc)))
          rw [← hV] at XA11
          have D11 := hid ((((((D10.out.setOff (a := ⟨w3.heap.size, 0, none⟩) (by dsimp only; omega) (.int .i64 vk)).setOff (a := ⟨w3.heap.size, 1, none⟩) (by dsimp only; omega) (.bool vcl)).setOff (a := ⟨w3.heap.size, 2, none⟩) (by dsimp only; omega) (.slice vbo vb.length vbc)).setOff (a := ⟨w3.heap.size, 3, none⟩) (by dsimp only; omega) (.slice vso vs.length vsc)).setOff (a := ⟨w3.heap.size, 4, none⟩) (by dsimp only; omega) (.slice vro vr.length vrc)))
          rw [← hV] at D11
          have E11 := hid ((((((E10.out.setOff (a := ⟨w3.heap.size, 0, none⟩) (by dsimp only; omega) (.int .i64 vk)).setOff (a := ⟨w3.heap.size, 1, none⟩) (by dsimp only; omega) (.bool vcl)).setOff (a := ⟨w3.heap.size, 2, none⟩) (by dsimp only; omega) (.slice vbo vb.length vbc)).setOff (a := ⟨w3.heap.size, 3, none⟩) (by dsimp only; omega) (.slice vso vs.length vsc)).setOff (a := ⟨w3.heap.size, 4, none⟩) (by dsimp only; omega) (.slice vro vr.length vrc)))
          rw [← hV] at E11
          have C11 := hid ((((((C10.out.other (a := ⟨w3.heap.size, 0, none⟩) (by dsimp only; omega) (.int .i64 vk)).other (a := ⟨w3.heap.size, 1, none⟩) (by dsimp only; omega) (.bool vcl)).other (a := ⟨w3.heap.size, 2, none⟩) (by dsimp only; omega) (.slice vbo vb.length vbc)).other (a := ⟨w3.heap.size, 3, none⟩) (by dsimp only; omega) (.slice vso vs.length vsc)).other (a := ⟨w3.heap.size, 4, none⟩) (by dsimp only; omega) (.slice vro vr.length vrc)))
          rw [← hV] at C11
          have hR11 : Grew p w w11 := by rw [hV]; exact (((((hR10.set (a := ⟨w3.heap.size, 0, none⟩) (by dsimp only; omega) (.int .i64 vk)).set (a := ⟨w3.heap.size, 1, none⟩) (by dsimp only; omega) (.bool vcl)).set (a := ⟨w3.heap.size, 2, none⟩) (by dsimp only; omega) (.slice vbo vb.length vbc)).set (a := ⟨w3.heap.size, 3, none⟩) (by dsimp only; omega) (.slice vso vs.length vsc)).set (a := ⟨w3.heap.size, 4, none⟩) (by dsimp only; omega) (.slice vro vr.length vrc))
          have hz11 : w10.heap.size ≤ w11.heap.size := by rw [hV]; simp
          have H11 := hid hV
          clear hV XR10 XA10 D10 E10 C10
          go_upto_region 23 with fail
          clear r0 rf0 r1 rf1 r2 rf2 r3 rf3 r4 rf4 rz a0 af0 a1 af1 a2 af2 a3 af3 a4 af4 az
          rw [← H11.out]
          clear H11
          have r0 := XR11.out.c 0 rfl
          have rf0 := XR11.out.f 0 rfl
          have r1 := XR11.out.c 1 rfl
          have rf1 := XR11.out.f 1 rfl
          have r2 := XR11.out.c 2 rfl
          have rf2 := XR11.out.f 2 rfl
          have r3 := XR11.out.c 3 rfl
          have rf3 := XR11.out.f 3 rfl
          have r4 := XR11.out.c 4 rfl
          have rf4 := XR11.out.f 4 rfl
          have rz := XR11.out.size
          have a0 := XA11.out.c 0 rfl
          have af0 := XA11.out.f 0 rfl
          have a1 := XA11.out.c 1 rfl
          have af1 := XA11.out.f 1 rfl
          have a2 := XA11.out.c 2 rfl
          have af2 := XA11.out.f 2 rfl
          have a3 := XA11.out.c 3 rfl
          have af3 := XA11.out.f 3 rfl
          have a4 := XA11.out.c 4 rfl
          have af4 := XA11.out.f 4 rfl
          have az := XA11.out.size
          obtain ⟨w12, hV⟩ : ∃ V, V = (((((w11.setCell ⟨w.heap.size, 0, none⟩ (.int .i64 vk)).setCell ⟨w.heap.size, 1, none⟩ (.bool vcl)).setCell ⟨w.heap.size, 2, none⟩ (.slice vbo vb.length vbc)).setCell ⟨w.heap.size, 3, none⟩ (.slice vso vs.length vsc)).setCell ⟨w.heap.size, 4, none⟩ (.slice vro vr.length vrc)) := ⟨_, rfl⟩
          have XR12 := hid ((((((XR11.out.set 0 (.int .i64 vk)).set 1 (.bool vcl)).set 2 (.slice vbo vb.length vbc)).set 3 (.slice vso vs.length vsc)).set 4 (.slice vro vr.length vrc)))
          rw [← hV] at XR12
          have XA12 := hid ((((((XA11.out.other (a := ⟨w.heap.size, 0, none⟩) (by dsimp only; omega) (.int .i64 vk)).other (a := ⟨w.heap.size, 1, none⟩) (by dsimp only; omega) (.bool vcl)).other (a := ⟨w.heap.size, 2, none⟩) (by dsimp only; omega) (.slice vbo vb.length vbc)).other (a := ⟨w.heap.size, 3, none⟩) (by dsimp only; omega) (.slice vso vs.length vsc)).other (a := ⟨w.heap.size, 4, none⟩) (by dsimp only; omega) (.slice vro vr.length vrc)))
          rw [← hV] at XA12
          have D12 := hid ((((((D11.out.setOff (a := ⟨w.heap.size, 0, none⟩) (by dsimp only; omega) (.int .i64 vk)).setOff (a := ⟨w.heap.size, 1, none⟩) (by dsimp only; omega) (.bool vcl)).setOff (a := ⟨w.heap.size, 2, none⟩) (by dsimp only; omega) (.slice vbo vb.length vbc)).setOff (a := ⟨w.heap.size, 3, none⟩) (by dsimp only; omega) (.slice vso vs.length vsc)).setOff (a := ⟨w.heap.size, 4, none⟩) (by dsimp only; omega) (.slice vro vr.length vrc)))
          rw [← hV] at D12
          have E12 := hid ((((((E11.out.setOff (a := ⟨w.heap.size, 0, none⟩) (by dsimp only; omega) (.int .i64 vk)).setOff (a := ⟨w.heap.size, 1, none⟩) (by dsimp only; omega) (.bool vcl)).setOff (a := ⟨w.heap.size, 2, none⟩) (by dsimp only; omega) (.slice vbo vb.length vbc)).setOff (a := ⟨w.heap.size, 3, none⟩) (by dsimp only; omega) (.slice vso vs.length vsc)).setOff (a := ⟨w.heap.size, 4, none⟩) (by dsimp only; omega) (.slice vro vr.length vrc)))
          rw [← hV] at E12
          have C12 := hid ((((((C11.out.other (a := ⟨w.heap.size, 0, none⟩) (by dsimp only; omega) (.int .i64 vk)).other (a := ⟨w.heap.size, 1, none⟩) (by dsimp only; omega) (.bool vcl)).other (a := ⟨w.heap.size, 2, none⟩) (by dsimp only; omega) (.slice vbo vb.length vbc)).other (a := ⟨w.heap.size, 3, none⟩) (by dsimp only; omega) (.slice vso vs.length vsc)).other (a := ⟨w.heap.size, 4, none⟩) (by dsimp only; omega) (.slice vro vr.length vrc)))
          rw [← hV] at C12
          have hR12 : Grew p w w12 := by rw [hV]; exact (((((hR11.set (a := ⟨w.heap.size, 0, none⟩) (by dsimp only; omega) (.int .i64 vk)).set (a := ⟨w.heap.size, 1, none⟩) (by dsimp only; omega) (.bool vcl)).set (a := ⟨w.heap.size, 2, none⟩) (by dsimp only; omega) (.slice vbo vb.length vbc)).set (a := ⟨w.heap.size, 3, none⟩) (by dsimp only; omega) (.slice vso vs.length vsc)).set (a := ⟨w.heap.size, 4, none⟩) (by dsimp only; omega) (.slice vro vr.length vrc))
          have hz12 : w11.heap.size ≤ w12.heap.size := by rw [hV]; simp
          have H12 := hid hV
          clear hV XR11 XA11 D11 E11 C11
          go_wp2
          clear r0 rf0 r1 rf1 r2 rf2 r3 rf3 r4 rf4 rz a0 af0 a1 af1 a2 af2 a3 af3 a4 af4 az
          rw [← H12.out]
          clear H12
          have r0 := XR12.out.c 0 rfl
          have rf0 := XR12.out.f 0 rfl
          have r1 := XR12.out.c 1 rfl
          have rf1 := XR12.out.f 1 rfl
          have r2 := XR12.out.c 2 rfl
          have rf2 := XR12.out.f 2 rfl
          have r3 := XR12.out.c 3 rfl
          have rf3 := XR12.out.f 3 rfl
          have r4 := XR12.out.c 4 rfl
          have rf4 := XR12.out.f 4 rfl
          have rz := XR12.out.size
          have a0 := XA12.out.c 0 rfl
          have af0 := XA12.out.f 0 rfl
          have a1 := XA12.out.c 1 rfl
          have af1 := XA12.out.f 1 rfl
          have a2 := XA12.out.c 2 rfl
          have af2 := XA12.out.f 2 rfl
          have a3 := XA12.out.c 3 rfl
          have af3 := XA12.out.f 3 rfl
          have a4 := XA12.out.c 4 rfl
          have af4 := XA12.out.f 4 rfl
          have az := XA12.out.size
          refine bodyPost_ret (v := .agg #[.int .i64 vk, .bool vcl, .slice vbo vb.length vbc, .slice vso vs.length vsc, .slice vro vr.length vrc]) (by simp [results, Try.results8, go_sem, r0, r1, r2, r3, r4]) rfl ?_
          exact ⟨⟨vk, vcl, vbo, vbc, vb, vso, vsc, vs, vro, vrc, vr, rfl, ⟨by omega, by omega, by omega⟩, E12.out.xv.wide (by omega) (by omega)⟩, k9, sd9, by omega, C12.out, hR12⟩
        · have r0 := XR9.out.c 0 rfl
          have rf0 := XR9.out.f 0 rfl
          have r1 := XR9.out.c 1 rfl
          have rf1 := XR9.out.f 1 rfl
          have r2 := XR9.out.c 2 rfl
          have rf2 := XR9.out.f 2 rfl
          have r3 := XR9.out.c 3 rfl
          have rf3 := XR9.out.f 3 rfl
          have r4 := XR9.out.c 4 rfl
          have rf4 := XR9.out.f 4 rfl
          have rz := XR9.out.size
          have a0 := XA9.out.c 0 rfl
          have af0 := XA9.out.f 0 rfl
          have a1 := XA9.out.c 1 rfl
          have af1 := XA9.out.f 1 rfl
          have a2 := XA9.out.c 2 rfl
          have af2 := XA9.out.f 2 rfl
          have a3 := XA9.out.c 3 rfl
          have af3 := XA9.out.f 3 rfl
          have a4 := XA9.out.c 4 rfl
          have af4 := XA9.out.f 4 rfl
          have az := XA9.out.size
          go_wp2_with fail
          clear r0 rf0 r1 rf1 r2 rf2 r3 rf3 r4 rf4 rz a0 af0 a1 af1 a2 af2 a3 af3 a4 af4 az
          refine (stepClose kap cl bo bc b so sc s ro rc r w9 (by omega) (by omega) (by omega) D9.out).mono ?_
          rintro e w10 ⟨⟨vk, vcl, vbo, vbc, vb, vso, vsc, vs, vro, vrc, vr, ko, kn, kc, cv, rfl, hS1, hW1⟩, hb10⟩
          have XR10 := hid (XR9.out.later hb10)
          have XA10 := hid (XA9.out.later hb10)
          have D10 := hid (D9.out.later hb10)
          have C10 := hid (C9.out.later hb10)
          have hR10 : Grew p w w10 := hR9.trans (Grew.of_below hb10)
          have hz10 : w9.heap.size ≤ w10.heap.size := hb10.size
          clear XR9 XA9 D9 C9 hb10
          have E10 := hid hW1
          clear hW1
          have r0 := XR10.out.c 0 rfl
          have rf0 := XR10.out.f 0 rfl
          have r1 := XR10.out.c 1 rfl
          have rf1 := XR10.out.f 1 rfl
          have r2 := XR10.out.c 2 rfl
          have rf2 := XR10.out.f 2 rfl
          have r3 := XR10.out.c 3 rfl
          have rf3 := XR10.out.f 3 rfl
          have r4 := XR10.out.c 4 rfl
          have rf4 := XR10.out.f 4 rfl
          have rz := XR10.out.size
          have a0 := XA10.out.c 0 rfl
          have af0 := XA10.out.f 0 rfl
          have a1 := XA10.out.c 1 rfl
          have af1 := XA10.out.f 1 rfl
          have a2 := XA10.out.c 2 rfl
          have af2 := XA10.out.f 2 rfl
          have a3 := XA10.out.c 3 rfl
          have af3 := XA10.out.f 3 rfl
          have a4 := XA10.out.c 4 rfl
          have af4 := XA10.out.f 4 rfl
          have az := XA10.out.size
          obtain ⟨w11, hV⟩ : ∃ V, V = (((((w10.setCell ⟨w3.heap.size, 0, none⟩ (.int .i64 vk)).setCell ⟨w3.heap.size, 1, none⟩ (.bool vcl)).setCell ⟨w3.heap.size, 2, none⟩ (.slice vbo vb.length vbc)).setCell ⟨w3.heap.size, 3, none⟩ (.slice vso vs.length vsc)).setCell ⟨w3.heap.size, 4, none⟩ (.slice vro vr.length vrc)) := ⟨_, rfl⟩
          have XR11 := hid ((((((XR10.out.other (a := ⟨w3.heap.size, 0, none⟩) (by dsimp only; omega) (.int .i64 vk)).other (a := ⟨w3.heap.size, 1, none⟩) (by dsimp only; omega) (.bool vcl)).other (a := ⟨w3.heap.size, 2, none⟩) (by dsimp only; omega) (.slice vbo vb.length vbc)).other (a := ⟨w3.heap.size, 3, none⟩) (by dsimp only; omega) (.slice vso vs.length vsc)).other (a := ⟨w3.heap.size, 4, none⟩) (by dsimp only; omega) (.slice vro vr.length vrc)))
          rw [← hV] at XR11
          have XA11 := hid ((((((XA10.out.set 0 (.int .i64 vk)).set 1 (.bool vcl)).set 2 (.slice vbo vb.length vbc)).set 3 (.slice vso vs.length vsc)).set 4 (.slice vro vr.length vrc)))
          rw [← hV] at XA11
          have D11 := hid ((((((D10.out.setOff (a := ⟨w3.heap.size, 0, none⟩) (by dsimp only; omega) (.int .i64 vk)).setOff (a := ⟨w3.heap.size, 1, none⟩) (by dsimp only; omega) (.bool vcl)).setOff (a := ⟨w3.heap.size, 2, none⟩) (by dsimp only; omega) (.slice vbo vb.length vbc)).setOff (a := ⟨w3.heap.size, 3, none⟩) (by dsimp only; omega) (.slice vso vs.length vsc)).setOff (a := ⟨w3.heap.size, 4, none⟩) (by dsimp only; omega) (.slice vro vr.length vrc)))
          rw [← hV] at D11
          have E11 := hid ((((((E10.out.setOff (a := ⟨w3.heap.size, 0, none⟩) (by dsimp only; omega) (.int .i64 vk)).setOff (a := ⟨w3.heap.size, 1, none⟩) (by dsimp only; omega) (.bool vcl)).setOff (a := ⟨w3.heap.size, 2, none⟩) (by dsimp only; omega) (.slice vbo vb.length vbc)).setOff (a := ⟨w3.heap.size, 3, none⟩) (by dsimp only; omega) (.slice vso vs.length vsc)).setOff (a := ⟨w3.heap.size, 4, none⟩) (by dsimp only; omega) (.slice vro vr.length vrc)))
          rw [← hV] at E11
          have C11 := hid ((((((C10.out.other (a := ⟨w3.heap.size, 0, none⟩) (by dsimp only; omega) (.int .i64 vk)).other (a := ⟨w3.heap.size, 1, none⟩) (by dsimp only; omega) (.bool vcl)).other (a := ⟨w3.heap.size, 2, none⟩) (by dsimp only; omega) (.slice vbo vb.length vbc)).other (a := ⟨w3.heap.size, 3, none⟩) (by dsimp only; omega) (.slice vso vs.length vsc)).other (a := ⟨w3.heap.size, 4, none⟩) (by dsimp only; omega) (.slice vro vr.length vrc)))
          rw [← hV] at C11
          have hR11 : Grew p w w11 := by rw [hV]; exact (((((hR10.set (a := ⟨w3.heap.size, 0, none⟩) (by dsimp only; omega) (.int .i64 vk)).set (a := ⟨w3.heap.size, 1, none⟩) (by dsimp only; omega) (.bool vcl)).set (a := ⟨w3.heap.size, 2, none⟩) (by dsimp only; omega) (.slice vbo vb.length vbc)).set (a := ⟨w3.heap.size, 3, none⟩) (by dsimp only; omega) (.slice vso vs.length vsc)).set (a := ⟨w3.heap.size, 4, none⟩) (by dsimp only; omega) (.slice vro vr.length vrc))
          have hz11 : w10.heap.size ≤ w11.heap.size := by rw [hV]; simp
          have H11 := hid hV
          clear hV XR10 XA10 D10 E10 C10
          go_upto_region 23 with fail
          clear r0 rf0 r1 rf1 r2 rf2 r3 rf3 r4 rf4 rz a0 af0 a1 af1 a2 af2 a3 af3 a4 af4 az
          rw [← H11.out]
          clear H11
          have r0 := XR11.out.c 0 rfl
          have rf0 := XR11.out.f 0 rfl
          have r1 := XR11.out.c 1 rfl
          have rf1 := XR11.out.f 1 rfl
          have r2 := XR11.out.c 2 rfl
          have rf2 := XR11.out.f 2 rfl
          have r3 := XR11.out.c 3 rfl
          have rf3 := XR11.out.f 3 rfl
          have r4 := XR11.out.c 4 rfl
          have rf4 := XR11.out.f 4 rfl
          have rz := XR11.out.size
          have a0 := XA11.out.c 0 rfl
          have af0 := XA11.out.f 0 rfl
          have a1 := XA11.out.c 1 rfl
          have af1 := XA11.out.f 1 rfl
          have a2 := XA11.out.c 2 rfl
          have af2 := XA11.out.f 2 rfl
          have a3 := XA11.out.c 3 rfl
          have af3 := XA11.out.f 3 rfl
          have a4 := XA11.out.c 4 rfl
          have af4 := XA11.out.f 4 rfl
          have az := XA11.out.size
          obtain ⟨w12, hV⟩ : ∃ V, V = (((((w11.setCell ⟨w.heap.size, 0, none⟩ (.int .i64 vk)).setCell ⟨w.heap.size, 1, none⟩ (.bool vcl)).setCell ⟨w.heap.size, 2, none⟩ (.slice vbo vb.length vbc)).setCell ⟨w.heap.size, 3, none⟩ (.slice vso vs.length vsc)).setCell ⟨w.heap.size, 4, none⟩ (.slice vro vr.length vrc)) := ⟨_, rfl⟩
          have XR12 := hid ((((((XR11.out.set 0 (.int .i64 vk)).set 1 (.bool vcl)).set 2 (.slice vbo vb.length vbc)).set 3 (.slice vso vs.length vsc)).set 4 (.slice vro vr.length vrc)))
          rw [← hV] at XR12
          have XA12 := hid ((((((XA11.out.other (a := ⟨w.heap.size, 0, none⟩) (by dsimp only; omega) (.int .i64 vk)).other (a := ⟨w.heap.size, 1, none⟩) (by dsimp only; omega) (.bool vcl)).other (a := ⟨w.heap.size, 2, none⟩) (by dsimp only; omega) (.slice vbo vb.length vbc)).other (a := ⟨w.heap.size, 3, none⟩) (by dsimp only; omega) (.slice vso vs.length vsc)).other (a := ⟨w.heap.size, 4, none⟩) (by dsimp only; omega) (.slice vro vr.length vrc)))
          rw [← hV] at XA12
          have D12 := hid ((((((D11.out.setOff (a := ⟨w.heap.size, 0, none⟩) (by dsimp only; omega) (.int .i64 vk)).setOff (a := ⟨w.heap.size, 1, none⟩) (by dsimp only; omega) (.bool vcl)).setOff (a := ⟨w.heap.size, 2, none⟩) (by dsimp only; omega) (.slice vbo vb.length vbc)).setOff (a := ⟨w.heap.size, 3, none⟩) (by dsimp only; omega) (.slice vso vs.length vsc)).setOff (a := ⟨w.heap.size, 4, none⟩) (by dsimp only; omega) (.slice vro vr.length vrc)))
          rw [← hV] at D12
          have E12 := hid ((((((E11.out.setOff (a := ⟨w.heap.size, 0, none⟩) (by dsimp only; omega) (.int .i64 vk)).setOff (a := ⟨w.heap.size, 1, none⟩) (by dsimp only; omega) (.bool vcl)).setOff (a := ⟨w.heap.size, 2, none⟩) (by dsimp only; omega) (.slice vbo vb.length vbc)).setOff (a := ⟨w.heap.size, 3, none⟩) (by dsimp only; omega) (.slice vso vs.length vsc)).setOff (a := ⟨w.heap.size, 4, none⟩) (by dsimp only; omega) (.slice vro vr.length vrc)))
          rw [← hV] at E12
          have C12 := hid ((((((C11.out.other (a := ⟨w.heap.size, 0, none⟩) (by dsimp only; omega) (.int .i64 vk)).other (a := ⟨w.heap.size, 1, none⟩) (by dsimp only; omega) (.bool vcl)).other (a := ⟨w.heap.size, 2, none⟩) (by dsimp only; omega) (.slice vbo vb.length vbc)).other (a := ⟨w.heap.size, 3, none⟩) (by dsimp only; omega) (.slice vso vs.length vsc)).other (a := ⟨w.heap.size, 4, none⟩) (by dsimp only; omega) (.slice vro vr.length vrc)))
          rw [← hV] at C12
          have hR12 : Grew p w w12 := by rw [hV]; exact (((((hR11.set (a := ⟨w.heap.size, 0, none⟩) (by dsimp only; omega) (.int .i64 vk)).set (a := ⟨w.heap.size, 1, none⟩) (by dsimp only; omega) (.bool vcl)).set (a := ⟨w.heap.size, 2, none⟩) (by dsimp only; omega) (.slice vbo vb.length vbc)).set (a := ⟨w.heap.size, 3, none⟩) (by dsimp only; omega) (.slice vso vs.length vsc)).set (a := ⟨w.heap.size, 4, none⟩) (by dsimp only; omega) (.slice vro vr.length vrc))
          have hz12 : w11.heap.size ≤ w12.heap.size := by rw [hV]; simp
          have H12 := hid hV
          clear hV XR11 XA11 D11 E11 C11
          go_wp2
          clear r0 rf0 r1 rf1 r2 rf2 r3 rf3 r4 rf4 rz a0 af0 a1 af1 a2 af2 a3 af3 a4 af4 az
          rw [← H12.out]
          clear H12
          have r0 := XR12.out.c 0 rfl
          have rf0 := XR12.out.f 0 rfl
          have r1 := XR12.out.c 1 rfl
          have rf1 := XR12.out.f 1 rfl
          have r2 := XR12.out.c 2 rfl
          have rf2 := XR12.out.f 2 rfl
          have r3 := XR12.out.c 3 rfl
          have rf3 := XR12.out.f 3 rfl
          have r4 := XR12.out.c 4 rfl
          have rf4 := XR12.out.f 4 rfl
          have rz := XR12.out.size
          have a0 := XA12.out.c 0 rfl
          have af0 := XA12.out.f 0 rfl
          have a1 := XA12.out.c 1 rfl
          have af1 := XA12.out.f 1 rfl
          have a2 := XA12.out.c 2 rfl
          have af2 := XA12.out.f 2 rfl
          have a3 := XA12.out.c 3 rfl
          have af3 := XA12.out.f 3 rfl
          have a4 := XA12.out.c 4 rfl
          have af4 := XA12.out.f 4 rfl
          have az := XA12.out.size
          refine bodyPost_ret (v := .agg #[.int .i64 vk, .bool vcl, .slice vbo vb.length vbc, .slice vso vs.length vsc, .slice vro vr.length vrc]) (by simp [results, Try.results8, go_sem, r0, r1, r2, r3, r4]) rfl ?_
          exact ⟨⟨vk, vcl, vbo, vbc, vb, vso, vsc, vs, vro, vrc, vr, rfl, ⟨by omega, by omega, by omega⟩, E12.out.xv.wide (by omega) (by omega)⟩, k9, sd9, by omega, C12.out, hR12⟩
        · have r0 := XR9.out.c 0 rfl
          have rf0 := XR9.out.f 0 rfl
          have r1 := XR9.out.c 1 rfl
          have rf1 := XR9.out.f 1 rfl
          have r2 := XR9.out.c 2 rfl
          have rf2 := XR9.out.f 2 rfl
          have r3 := XR9.out.c 3 rfl
          have rf3 := XR9.out.f 3 rfl
          have r4 := XR9.out.c 4 rfl
          have rf4 := XR9.out.f 4 rfl
          have rz := XR9.out.size
          have a0 := XA9.out.c 0 rfl
          have af0 := XA9.out.f 0 rfl
          have a1 := XA9.out.c 1 rfl
          have af1 := XA9.out.f 1 rfl
          have a2 := XA9.out.c 2 rfl
          have af2 := XA9.out.f 2 rfl
          have a3 := XA9.out.c 3 rfl
          have af3 := XA9.out.f 3 rfl
          have a4 := XA9.out.c 4 rfl
          have af4 := XA9.out.f 4 rfl
          have az := XA9.out.size
          obtain ⟨w10, hV⟩ : ∃ V, V = w9.alloc (.cells #[.int .i64 (-1), .int .i64 10, .int .i64 11, .int .i64 0] 3) := ⟨_, rfl⟩
          have XR10 := hid (XR9.out.alloc (.cells #[.int .i64 (-1), .int .i64 10, .int .i64 11, .int .i64 0] 3))
          rw [← hV] at XR10
          have XA10 := hid (XA9.out.alloc (.cells #[.int .i64 (-1), .int .i64 10, .int .i64 11, .int .i64 0] 3))
          rw [← hV] at XA10
          have D10 := hid (D9.out.later (below1 w9 (.cells #[.int .i64 (-1), .int .i64 10, .int .i64 11, .int .i64 0] 3)))
          rw [← hV] at D10
          have C10 := hid (C9.out.later (below1 w9 (.cells #[.int .i64 (-1), .int .i64 10, .int .i64 11, .int .i64 0] 3)))
          rw [← hV] at C10
          have hR10 : Grew p w w10 := by rw [hV]; exact hR9.trans (Grew.alloc p _ _)
          have hz10 : w9.heap.size ≤ w10.heap.size := by rw [hV]; simp
          have H10 := hid hV
          clear hV XR9 XA9 D9 C9
          have XU10 : Hid (Bx w10 w9.heap.size [.int .i64 (-1), .int .i64 10, .int .i64 11, .int .i64 0]) := by rw [H10.out]; exact Bx.new [.int .i64 (-1), .int .i64 10, .int .i64 11, .int .i64 0] _ rfl
          have hy10 : w9.heap.size < w10.heap.size := XU10.out.size
          go_wp2_with fail
          clear r0 rf0 r1 rf1 r2 rf2 r3 rf3 r4 rf4 rz a0 af0 a1 af1 a2 af2 a3 af3 a4 af4 az
          rw [← H10.out]
          clear H10
          refine (among_in [-1, 10, 11, 0] w9.heap.size p co cap bs k9 sd9 w10 hl (by omega) C10.out (by simp) (by simp) XU10.out (by omega)).mono ?_
          rintro e w11 ⟨⟨z, _, rfl⟩, hD⟩
          obtain ⟨k11, sd11, hk11, hC11, hg11, hsz11⟩ := hD.grew
          have XR11 := hid (XR10.out.grew hg11 (by omega))
          have XA11 := hid (XA10.out.grew hg11 (by omega))
          have XU11 := hid (XU10.out.grew hg11 (by omega))
          have D11 := hid (D10.out.grew hg11 (by omega))
          have C11 := hid hC11
          have hR11 : Grew p w w11 := hR10.trans hg11
          have hz11 : w10.heap.size ≤ w11.heap.size := hg11.size
          clear XR10 XA10 XU10 D10 C10 hD hg11 hC11 hsz11
          have r0 := XR11.out.c 0 rfl
          have rf0 := XR11.out.f 0 rfl
          have r1 := XR11.out.c 1 rfl
          have rf1 := XR11.out.f 1 rfl
          have r2 := XR11.out.c 2 rfl
          have rf2 := XR11.out.f 2 rfl
          have r3 := XR11.out.c 3 rfl
          have rf3 := XR11.out.f 3 rfl
          have r4 := XR11.out.c 4 rfl
          have rf4 := XR11.out.f 4 rfl
          have rz := XR11.out.size
          have a0 := XA11.out.c 0 rfl
          have af0 := XA11.out.f 0 rfl
          have a1 := XA11.out.c 1 rfl
          have af1 := XA11.out.f 1 rfl
          have a2 := XA11.out.c 2 rfl
          have af2 := XA11.out.f 2 rfl
          have a3 := XA11.out.c 3 rfl
          have af3 := XA11.out.f 3 rfl
          have a4 := XA11.out.c 4 rfl
          have af4 := XA11.out.f 4 rfl
          have az := XA11.out.size
          have u0 := XU11.out.c 0 rfl
          have uf0 := XU11.out.f 0 rfl
          have u1 := XU11.out.c 1 rfl
          have uf1 := XU11.out.f 1 rfl
          have u2 := XU11.out.c 2 rfl
          have uf2 := XU11.out.f 2 rfl
          have u3 := XU11.out.c 3 rfl
          have uf3 := XU11.out.f 3 rfl
          have uz := XU11.out.size
          obtain ⟨w12, hV⟩ : ∃ V, V = (w11.setCell ⟨w3.heap.size, 0, none⟩ (.int .i64 z)) := ⟨_, rfl⟩
          have XR12 := hid ((XR11.out.other (a := ⟨w3.heap.size, 0, none⟩) (by dsimp only; omega) (.int .i64 z)))
          rw [← hV] at XR12
          have XA12 := hid ((XA11.out.set 0 (.int .i64 z)))
          rw [← hV] at XA12
          have XU12 := hid ((XU11.out.other (a := ⟨w3.heap.size, 0, none⟩) (by dsimp only; omega) (.int .i64 z)))
          rw [← hV] at XU12
          have D12 := hid ((D11.out.setOff (a := ⟨w3.heap.size, 0, none⟩) (by dsimp only; omega) (.int .i64 z)))
          rw [← hV] at D12
          have C12 := hid ((C11.out.other (a := ⟨w3.heap.size, 0, none⟩) (by dsimp only; omega) (.int .i64 z)))
          rw [← hV] at C12
          have hR12 : Grew p w w12 := by rw [hV]; exact (hR11.set (a := ⟨w3.heap.size, 0, none⟩) (by dsimp only; omega) (.int .i64 z))
          have hz12 : w11.heap.size ≤ w12.heap.size := by rw [hV]; simp
          have H12 := hid hV
          clear hV XR11 XA11 XU11 D11 C11
          go_upto_region 23 with fail
          clear r0 rf0 r1 rf1 r2 rf2 r3 rf3 r4 rf4 rz a0 af0 a1 af1 a2 af2 a3 af3 a4 af4 az u0 uf0 u1 uf1 u2 uf2 u3 uf3 uz
          rw [← H12.out]
          clear H12
          have r0 := XR12.out.c 0 rfl
          have rf0 := XR12.out.f 0 rfl
          have r1 := XR12.out.c 1 rfl
          have rf1 := XR12.out.f 1 rfl
          have r2 := XR12.out.c 2 rfl
          have rf2 := XR12.out.f 2 rfl
          have r3 := XR12.out.c 3 rfl
          have rf3 := XR12.out.f 3 rfl
          have r4 := XR12.out.c 4 rfl
          have rf4 := XR12.out.f 4 rfl
          have rz := XR12.out.size
          have a0 := XA12.out.c 0 rfl
          have af0 := XA12.out.f 0 rfl
          have a1 := XA12.out.c 1 rfl
          have af1 := XA12.out.f 1 rfl
          have a2 := XA12.out.c 2 rfl
          have af2 := XA12.out.f 2 rfl
          have a3 := XA12.out.c 3 rfl
          have af3 := XA12.out.f 3 rfl
          have a4 := XA12.out.c 4 rfl
          have af4 := XA12.out.f 4 rfl
          have az := XA12.out.size
          have u0 := XU12.out.c 0 rfl
          have uf0 := XU12.out.f 0 rfl
          have u1 := XU12.out.c 1 rfl
          have uf1 := XU12.out.f 1 rfl
          have u2 := XU12.out.c 2 rfl
          have uf2 := XU12.out.f 2 rfl
          have u3 := XU12.out.c 3 rfl
          have uf3 := XU12.out.f 3 rfl
          have uz := XU12.out.size
          obtain ⟨w13, hV⟩ : ∃ V, V = (((((w12.setCell ⟨w.heap.size, 0, none⟩ (.int .i64 z)).setCell ⟨w.heap.size, 1, none⟩ (.bool cl)).setCell ⟨w.heap.size, 2, none⟩ (.slice bo b.length bc)).setCell ⟨w.heap.size, 3, none⟩ (.slice so s.length sc)).setCell ⟨w.heap.size, 4, none⟩ (.slice ro r.length rc)) := ⟨_, rfl⟩
          have XR13 := hid ((((((XR12.out.set 0 (.int .i64 z)).set 1 (.bool cl)).set 2 (.slice bo b.length bc)).set 3 (.slice so s.length sc)).set 4 (.slice ro r.length rc)))
          rw [← hV] at XR13
          have XA13 := hid ((((((XA12.out.other (a := ⟨w.heap.size, 0, none⟩) (by dsimp only; omega) (.int .i64 z)).other (a := ⟨w.heap.size, 1, none⟩) (by dsimp only; omega) (.bool cl)).other (a := ⟨w.heap.size, 2, none⟩) (by dsimp only; omega) (.slice bo b.length bc)).other (a := ⟨w.heap.size, 3, none⟩) (by dsimp only; omega) (.slice so s.length sc)).other (a := ⟨w.heap.size, 4, none⟩) (by dsimp only; omega) (.slice ro r.length rc)))
          rw [← hV] at XA13
          have XU13 := hid ((((((XU12.out.other (a := ⟨w.heap.size, 0, none⟩) (by dsimp only; omega) (.int .i64 z)).other (a := ⟨w.heap.size, 1, none⟩) (by dsimp only; omega) (.bool cl)).other (a := ⟨w.heap.size, 2, none⟩) (by dsimp only; omega) (.slice bo b.length bc)).other (a := ⟨w.heap.size, 3, none⟩) (by dsimp only; omega) (.slice so s.length sc)).other (a := ⟨w.heap.size, 4, none⟩) (by dsimp only; omega) (.slice ro r.length rc)))
          rw [← hV] at XU13
          have D13 := hid ((((((D12.out.setOff (a := ⟨w.heap.size, 0, none⟩) (by dsimp only; omega) (.int .i64 z)).setOff (a := ⟨w.heap.size, 1, none⟩) (by dsimp only; omega) (.bool cl)).setOff (a := ⟨w.heap.size, 2, none⟩) (by dsimp only; omega) (.slice bo b.length bc)).setOff (a := ⟨w.heap.size, 3, none⟩) (by dsimp only; omega) (.slice so s.length sc)).setOff (a := ⟨w.heap.size, 4, none⟩) (by dsimp only; omega) (.slice ro r.length rc)))
          rw [← hV] at D13
          have C13 := hid ((((((C12.out.other (a := ⟨w.heap.size, 0, none⟩) (by dsimp only; omega) (.int .i64 z)).other (a := ⟨w.heap.size, 1, none⟩) (by dsimp only; omega) (.bool cl)).other (a := ⟨w.heap.size, 2, none⟩) (by dsimp only; omega) (.slice bo b.length bc)).other (a := ⟨w.heap.size, 3, none⟩) (by dsimp only; omega) (.slice so s.length sc)).other (a := ⟨w.heap.size, 4, none⟩) (by dsimp only; omega) (.slice ro r.length rc)))
          rw [← hV] at C13
          have hR13 : Grew p w w13 := by rw [hV]; exact (((((hR12.set (a := ⟨w.heap.size, 0, none⟩) (by dsimp only; omega) (.int .i64 z)).set (a := ⟨w.heap.size, 1, none⟩) (by dsimp only; omega) (.bool cl)).set (a := ⟨w.heap.size, 2, none⟩) (by dsimp only; omega) (.slice bo b.length bc)).set (a := ⟨w.heap.size, 3, none⟩) (by dsimp only; omega) (.slice so s.length sc)).set (a := ⟨w.heap.size, 4, none⟩) (by dsimp only; omega) (.slice ro r.length rc))
          have hz13 : w12.heap.size ≤ w13.heap.size := by rw [hV]; simp
          have H13 := hid hV
          clear hV XR12 XA12 XU12 D12 C12
          go_wp2
          clear r0 rf0 r1 rf1 r2 rf2 r3 rf3 r4 rf4 rz a0 af0 a1 af1 a2 af2 a3 af3 a4 af4 az u0 uf0 u1 uf1 u2 uf2 u3 uf3 uz
          rw [← H13.out]
          clear H13
          have r0 := XR13.out.c 0 rfl
          have rf0 := XR13.out.f 0 rfl
          have r1 := XR13.out.c 1 rfl
          have rf1 := XR13.out.f 1 rfl
          have r2 := XR13.out.c 2 rfl
          have rf2 := XR13.out.f 2 rfl
          have r3 := XR13.out.c 3 rfl
          have rf3 := XR13.out.f 3 rfl
          have r4 := XR13.out.c 4 rfl
          have rf4 := XR13.out.f 4 rfl
          have rz := XR13.out.size
          have a0 := XA13.out.c 0 rfl
          have af0 := XA13.out.f 0 rfl
          have a1 := XA13.out.c 1 rfl
          have af1 := XA13.out.f 1 rfl
          have a2 := XA13.out.c 2 rfl
          have af2 := XA13.out.f 2 rfl
          have a3 := XA13.out.c 3 rfl
          have af3 := XA13.out.f 3 rfl
          have a4 := XA13.out.c 4 rfl
          have af4 := XA13.out.f 4 rfl
          have az := XA13.out.size
          have u0 := XU13.out.c 0 rfl
          have uf0 := XU13.out.f 0 rfl
          have u1 := XU13.out.c 1 rfl
          have uf1 := XU13.out.f 1 rfl
          have u2 := XU13.out.c 2 rfl
          have uf2 := XU13.out.f 2 rfl
          have u3 := XU13.out.c 3 rfl
          have uf3 := XU13.out.f 3 rfl
          have uz := XU13.out.size
          refine bodyPost_ret (v := .agg #[.int .i64 z, .bool cl, .slice bo b.length bc, .slice so s.length sc, .slice ro r.length rc]) (by simp [results, Try.results8, go_sem, r0, r1, r2, r3, r4]) rfl ?_
          exact ⟨⟨z, cl, bo, bc, b, so, sc, s, ro, rc, r, rfl, ⟨by omega, by omega, by omega⟩, D13.out.xv.wide (by omega) (by omega)⟩, k11, sd11, by omega, C13.out, hR13⟩
        · have r0 := XR9.out.c 0 rfl
          have rf0 := XR9.out.f 0 rfl
          have r1 := XR9.out.c 1 rfl
          have rf1 := XR9.out.f 1 rfl
          have r2 := XR9.out.c 2 rfl
          have rf2 := XR9.out.f 2 rfl
          have r3 := XR9.out.c 3 rfl
          have rf3 := XR9.out.f 3 rfl
          have r4 := XR9.out.c 4 rfl
          have rf4 := XR9.out.f 4 rfl
          have rz := XR9.out.size
          have a0 := XA9.out.c 0 rfl
          have af0 := XA9.out.f 0 rfl
          have a1 := XA9.out.c 1 rfl
          have af1 := XA9.out.f 1 rfl
          have a2 := XA9.out.c 2 rfl
          have af2 := XA9.out.f 2 rfl
          have a3 := XA9.out.c 3 rfl
          have af3 := XA9.out.f 3 rfl
          have a4 := XA9.out.c 4 rfl
          have af4 := XA9.out.f 4 rfl
          have az := XA9.out.size
          go_wp2
          have PD : w9.drew.cell? ⟨w3.heap.size, 4, none⟩ = some (.slice ro r.length rc) := a4
          have XU : Hid (Bx (w9.alloc (.cells #[.int .i64 (-1), .int .i64 3, .int .i64 30] 3)) w9.heap.size [.int .i64 (-1), .int .i64 3, .int .i64 30]) := hid (Bx.new (w := w9) [.int .i64 (-1), .int .i64 3, .int .i64 30] _ rfl)
          have PU : (w9.alloc (.cells #[.int .i64 (-1), .int .i64 3, .int .i64 30] 3)).drew.cell? ⟨w3.heap.size, 4, none⟩ = some (.slice ro r.length rc) := (XA9.out.alloc (.cells #[.int .i64 (-1), .int .i64 3, .int .i64 30] 3)).c 4 rfl
          go_region_law (first
              | (refine appX (w11.alloc (.cells #[.int .i64 z, .int .i64 0, .int .i64 z2] 28)) ro rc r Dl.out (by rfl) (.tmp 71) (.tmp 78) (by rfl) (by rfl) (by simp <;> omega) w11.heap.size (z, 0, z2) (by rfl) _ HN.out (by omega) ?_; intro to3 tc3 w12 hB hD3; obtain ⟨zs, hzs⟩ : ∃ zs, zs = r ++ [(z, 0, z2)] := ⟨_, rfl⟩; have hzl : zs.length ≤ 42 := (by rw [hzs]; simp <;> omega); rw [← hzs] at hD3 ⊢; clear hzs; have hz12 : w11.heap.size + 1 ≤ w12.heap.size := (by have := hB.size; simpa using this); have XR12 := hid (XRl.out.below hB (by omega)); have XA12 := hid (XAl.out.below hB (by omega)); have D12 := hid hD3; have C12 := hid (Cl.out.below hB (by omega)); have hR12 := hRl.of_below2 hB (by omega); have P12 : w12.cell? ⟨w3.heap.size, 4, none⟩ = some (.slice ro r.length rc) := XA12.out.c 4 rfl; have rg0 := XR12.out.c 0 rfl; have rh0 := XR12.out.f 0 rfl; have rg1 := XR12.out.c 1 rfl; have rh1 := XR12.out.f 1 rfl; have rg2 := XR12.out.c 2 rfl; have rh2 := XR12.out.f 2 rfl; have rg3 := XR12.out.c 3 rfl; have rh3 := XR12.out.f 3 rfl; have rg4 := XR12.out.c 4 rfl; have rh4 := XR12.out.f 4 rfl; have ag0 := XA12.out.c 0 rfl; have ah0 := XA12.out.f 0 rfl; have ag1 := XA12.out.c 1 rfl; have ah1 := XA12.out.f 1 rfl; have ag2 := XA12.out.c 2 rfl; have ah2 := XA12.out.f 2 rfl; have ag3 := XA12.out.c 3 rfl; have ah3 := XA12.out.f 3 rfl; have ag4 := XA12.out.c 4 rfl; have ah4 := XA12.out.f 4 rfl; clear hB hD3)
              | (go_simp; go_at_call 28; have _g := hz10; refine (pick_any 2 p co cap bs k10 sd10 w10 hl (by omega) C10.out).mono ?_; rintro e w11 ⟨⟨z2, rfl, h0z2, h1z2⟩, hD⟩; obtain ⟨k11, sd11, hk11, hC, hg0, hsz⟩ := hD.grew; have hg : Grew p w10 w11 := hg0; have XR11 := hid (XR10.out.grew hg (by omega)); have XA11 := hid (XA10.out.grew hg (by omega)); have D11 := hid (D10.out.grew hg (by omega)); have C11 := hid hC; have hR11 : Grew p w w11 := hR10.trans hg; have hz11 : w10.heap.size ≤ w11.heap.size := hg.size; have P11 : w11.cell? ⟨w3.heap.size, 4, none⟩ = some (.slice ro r.length rc) := XA11.out.c 4 rfl; have XRl := hid (XR11.out.alloc (.cells #[.int .i64 z, .int .i64 0, .int .i64 z2] 28)); have XAl := hid (XA11.out.alloc (.cells #[.int .i64 z, .int .i64 0, .int .i64 z2] 28)); have Dl := hid (D11.out.later (below1 w11 (.cells #[.int .i64 z, .int .i64 0, .int .i64 z2] 28))); have Cl := hid (C11.out.later (below1 w11 (.cells #[.int .i64 z, .int .i64 0, .int .i64 z2] 28))); have hRl : Grew p w (w11.alloc (.cells #[.int .i64 z, .int .i64 0, .int .i64 z2] 28)) := hR11.trans (Grew.alloc p _ _); have HN : Hid (kT.In (w11.heap.size + 1) (w11.alloc (.cells #[.int .i64 z, .int .i64 0, .int .i64 z2] 28)) (some ⟨w11.heap.size, 0, none⟩) [(z, 0, z2)]) := kT_one (by omega) (by simp) (by simp) (by simp); have PL : (w11.alloc (.cells #[.int .i64 z, .int .i64 0, .int .i64 z2] 28)).cell? ⟨w3.heap.size, 4, none⟩ = some (.slice ro r.length rc) := XAl.out.c 4 rfl; clear hD hC hg0 hg hsz)
              | (go_simp; go_at_call 32; refine (among_in [-1, 3, 30] w9.heap.size p co cap bs k9 sd9 (w9.alloc (.cells #[.int .i64 (-1), .int .i64 3, .int .i64 30] 3)).drew hl (by omega) (C9.out.later (below1 w9 (.cells #[.int .i64 (-1), .int .i64 3, .int .i64 30] 3))).drew (by simp) (by simp) XU.out (by omega)).mono ?_; rintro e w10 ⟨⟨z, _, rfl⟩, hD⟩; obtain ⟨k10, sd10, hk10, hC, hg0, hsz⟩ := hD.grew; have hg : Grew p (w9.alloc (.cells #[.int .i64 (-1), .int .i64 3, .int .i64 30] 3)) w10 := hg0.from; have XR10 := hid ((XR9.out.alloc (.cells #[.int .i64 (-1), .int .i64 3, .int .i64 30] 3)).grew hg (by omega)); have XA10 := hid ((XA9.out.alloc (.cells #[.int .i64 (-1), .int .i64 3, .int .i64 30] 3)).grew hg (by omega)); have D10 := hid ((D9.out.later (below1 w9 (.cells #[.int .i64 (-1), .int .i64 3, .int .i64 30] 3))).grew hg (by omega)); have C10 := hid hC; have hR10 : Grew p w w10 := (hR9.trans (Grew.alloc p w9 (.cells #[.int .i64 (-1), .int .i64 3, .int .i64 30] 3))).trans hg; have hz10 : w9.heap.size + 1 ≤ w10.heap.size := (by have := hg.size; simpa using this); have P10 : w10.cell? ⟨w3.heap.size, 4, none⟩ = some (.slice ro r.length rc) := XA10.out.c 4 rfl; clear hD hC hg0 hg hsz))
          all_goals
            obtain ⟨w13, hV⟩ : ∃ V, V = (w12.setCell ⟨w3.heap.size, 4, none⟩ (.slice to3 zs.length tc3)) := ⟨_, rfl⟩
            have XR13 := hid ((XR12.out.other (a := ⟨w3.heap.size, 4, none⟩) (by dsimp only; omega) (.slice to3 zs.length tc3)))
            rw [← hV] at XR13
            have XA13 := hid ((XA12.out.set 4 (.slice to3 zs.length tc3)))
            rw [← hV] at XA13
            have D13 := hid ((D12.out.setOff (a := ⟨w3.heap.size, 4, none⟩) (by dsimp only; omega) (.slice to3 zs.length tc3)))
            rw [← hV] at D13
            have C13 := hid ((C12.out.other (a := ⟨w3.heap.size, 4, none⟩) (by dsimp only; omega) (.slice to3 zs.length tc3)))
            rw [← hV] at C13
            have hR13 : Grew p w w13 := by rw [hV]; exact (hR12.set (a := ⟨w3.heap.size, 4, none⟩) (by dsimp only; omega) (.slice to3 zs.length tc3))
            have hz13 : w12.heap.size ≤ w13.heap.size := by rw [hV]; simp
            have H13 := hid hV
            clear hV XR12 XA12 D12 C12
            go_upto_region 23 with fail
            clear rg0 rh0 rg1 rh1 rg2 rh2 rg3 rh3 rg4 rh4 ag0 ah0 ag1 ah1 ag2 ah2 ag3 ah3 ag4 ah4
            rw [← H13.out]
            clear H13
            have r0 := XR13.out.c 0 rfl
            have rf0 := XR13.out.f 0 rfl
            have r1 := XR13.out.c 1 rfl
            have rf1 := XR13.out.f 1 rfl
            have r2 := XR13.out.c 2 rfl
            have rf2 := XR13.out.f 2 rfl
            have r3 := XR13.out.c 3 rfl
            have rf3 := XR13.out.f 3 rfl
            have r4 := XR13.out.c 4 rfl
            have rf4 := XR13.out.f 4 rfl
            have rz := XR13.out.size
            have a0 := XA13.out.c 0 rfl
            have af0 := XA13.out.f 0 rfl
            have a1 := XA13.out.c 1 rfl
            have af1 := XA13.out.f 1 rfl
            have a2 := XA13.out.c 2 rfl
            have af2 := XA13.out.f 2 rfl
            have a3 := XA13.out.c 3 rfl
            have af3 := XA13.out.f 3 rfl
            have a4 := XA13.out.c 4 rfl
            have af4 := XA13.out.f 4 rfl
            have az := XA13.out.size
            obtain ⟨w14, hV⟩ : ∃ V, V = (((((w13.setCell ⟨w.heap.size, 0, none⟩ (.int .i64 kap)).setCell ⟨w.heap.size, 1, none⟩ (.bool cl)).setCell ⟨w.heap.size, 2, none⟩ (.slice bo b.length bc)).setCell ⟨w.heap.size, 3, none⟩ (.slice so s.length sc)).setCell ⟨w.heap.size, 4, none⟩ (.slice to3 zs.length tc3)) := ⟨_, rfl⟩
            have XR14 := hid ((((((XR13.out.set 0 (.int .i64 kap)).set 1 (.bool cl)).set 2 (.slice bo b.length bc)).set 3 (.slice so s.length sc)).set 4 (.slice to3 zs.length tc3)))
            rw [← hV] at XR14
            have XA14 := hid ((((((XA13.out.other (a := ⟨w.heap.size, 0, none⟩) (by dsimp only; omega) (.int .i64 kap)).other (a := ⟨w.heap.size, 1, none⟩) (by dsimp only; omega) (.bool cl)).other (a := ⟨w.heap.size, 2, none⟩) (by dsimp only; omega) (.slice bo b.length bc)).other (a := ⟨w.heap.size, 3, none⟩) (by dsimp only; omega) (.slice so s.length sc)).other (a := ⟨w.heap.size, 4, none⟩) (by dsimp only; omega) (.slice to3 zs.length tc3)))
            rw [← hV] at XA14
            have D14 := hid ((((((D13.out.setOff (a := ⟨w.heap.size, 0, none⟩) (by dsimp only; omega) (.int .i64 kap)).setOff (a := ⟨w.heap.size, 1, none⟩) (by dsimp only; omega) (.bool cl)).setOff (a := ⟨w.heap.size, 2, none⟩) (by dsimp only; omega) (.slice bo b.length bc)).setOff (a := ⟨w.heap.size, 3, none⟩) (by dsimp only; omega) (.slice so s.length sc)).setOff (a := ⟨w.heap.size, 4, none⟩) (by dsimp only; omega) (.slice to3 zs.length tc3)))
            rw [← hV] at D14
            have C14 := hid ((((((C13.out.other (a := ⟨w.heap.size, 0, none⟩) (by dsimp only; omega) (.int .i64 kap)).other (a := ⟨w.heap.size, 1, none⟩) (by dsimp only; omega) (.bool cl)).other (a := ⟨w.heap.size, 2, none⟩) (by dsimp only; omega) (.slice bo b.length bc)).other (a := ⟨w.heap.size, 3, none⟩) (by dsimp only; omega) (.slice so s.length sc)).other (a := ⟨w.heap.size, 4, none⟩) (by dsimp only; omega) (.slice to3 zs.length tc3)))
            rw [← hV] at C14
            have hR14 : Grew p w w14 := by rw [hV]; exact (((((hR13.set (a := ⟨w.heap.size, 0, none⟩) (by dsimp only; omega) (.int .i64 kap)).set (a := ⟨w.heap.size, 1, none⟩) (by dsimp only; omega) (.bool cl)).set (a := ⟨w.heap.size, 2, none⟩) (by dsimp only; omega) (.slice bo b.length bc)).set (a := ⟨w.heap.size, 3, none⟩) (by dsimp only; omega) (.slice so s.length sc)).set (a := ⟨w.heap.size, 4, none⟩) (by dsimp only; omega) (.slice to3 zs.length tc3))
            have hz14 : w13.heap.size ≤ w14.heap.size := by rw [hV]; simp
            have H14 := hid hV
            clear hV XR13 XA13 D13 C13
            go_wp2
            clear r0 rf0 r1 rf1 r2 rf2 r3 rf3 r4 rf4 rz a0 af0 a1 af1 a2 af2 a3 af3 a4 af4 az
            rw [← H14.out]
            clear H14
            have r0 := XR14.out.c 0 rfl
            have rf0 := XR14.out.f 0 rfl
            have r1 := XR14.out.c 1 rfl
            have rf1 := XR14.out.f 1 rfl
            have r2 := XR14.out.c 2 rfl
            have rf2 := XR14.out.f 2 rfl
            have r3 := XR14.out.c 3 rfl
            have rf3 := XR14.out.f 3 rfl
            have r4 := XR14.out.c 4 rfl
            have rf4 := XR14.out.f 4 rfl
            have rz := XR14.out.size
            have a0 := XA14.out.c 0 rfl
            have af0 := XA14.out.f 0 rfl
            have a1 := XA14.out.c 1 rfl
            have af1 := XA14.out.f 1 rfl
            have a2 := XA14.out.c 2 rfl
            have af2 := XA14.out.f 2 rfl
            have a3 := XA14.out.c 3 rfl
            have af3 := XA14.out.f 3 rfl
            have a4 := XA14.out.c 4 rfl
            have af4 := XA14.out.f 4 rfl
            have az := XA14.out.size
            refine bodyPost_ret (v := .agg #[.int .i64 kap, .bool cl, .slice bo b.length bc, .slice so s.length sc, .slice to3 zs.length tc3]) (by simp [results, Try.results8, go_sem, r0, r1, r2, r3, r4]) rfl ?_
            exact ⟨⟨kap, cl, bo, bc, b, so, sc, s, to3, tc3, zs, rfl, ⟨by omega, by omega, by omega⟩, D14.out.wide (by omega) (by omega)⟩, k11, sd11, by omega, C14.out, hR14⟩
        · have r0 := XR9.out.c 0 rfl
          have rf0 := XR9.out.f 0 rfl
          have r1 := XR9.out.c 1 rfl
          have rf1 := XR9.out.f 1 rfl
          have r2 := XR9.out.c 2 rfl
          have rf2 := XR9.out.f 2 rfl
          have r3 := XR9.out.c 3 rfl
          have rf3 := XR9.out.f 3 rfl
          have r4 := XR9.out.c 4 rfl
          have rf4 := XR9.out.f 4 rfl
          have rz := XR9.out.size
          have a0 := XA9.out.c 0 rfl
          have af0 := XA9.out.f 0 rfl
          have a1 := XA9.out.c 1 rfl
          have af1 := XA9.out.f 1 rfl
          have a2 := XA9.out.c 2 rfl
          have af2 := XA9.out.f 2 rfl
          have a3 := XA9.out.c 3 rfl
          have af3 := XA9.out.f 3 rfl
          have a4 := XA9.out.c 4 rfl
          have af4 := XA9.out.f 4 rfl
          have az := XA9.out.size
          obtain ⟨w10, hV⟩ : ∃ V, V = (w9.setCell ⟨w3.heap.size, 1, none⟩ (.bool true)) := ⟨_, rfl⟩
          have XR10 := hid ((XR9.out.other (a := ⟨w3.heap.size, 1, none⟩) (by dsimp only; omega) (.bool true)))
          rw [← hV] at XR10
          have XA10 := hid ((XA9.out.set 1 (.bool true)))
          rw [← hV] at XA10
          have D10 := hid ((D9.out.setOff (a := ⟨w3.heap.size, 1, none⟩) (by dsimp only; omega) (.bool true)))
          rw [← hV] at D10
          have C10 := hid ((C9.out.other (a := ⟨w3.heap.size, 1, none⟩) (by dsimp only; omega) (.bool true)))
          rw [← hV] at C10
          have hR10 : Grew p w w10 := by rw [hV]; exact (hR9.set (a := ⟨w3.heap.size, 1, none⟩) (by dsimp only; omega) (.bool true))
          have hz10 : w9.heap.size ≤ w10.heap.size := by rw [hV]; simp
          have H10 := hid hV
          clear hV XR9 XA9 D9 C9
          go_upto_region 23 with fail
          clear r0 rf0 r1 rf1 r2 rf2 r3 rf3 r4 rf4 rz a0 af0 a1 af1 a2 af2 a3 af3 a4 af4 az
          rw [← H10.out]
          clear H10
          have r0 := XR10.out.c 0 rfl
          have rf0 := XR10.out.f 0 rfl
          have r1 := XR10.out.c 1 rfl
          have rf1 := XR10.out.f 1 rfl
          have r2 := XR10.out.c 2 rfl
          have rf2 := XR10.out.f 2 rfl
          have r3 := XR10.out.c 3 rfl
          have rf3 := XR10.out.f 3 rfl
          have r4 := XR10.out.c 4 rfl
          have rf4 := XR10.out.f 4 rfl
          have rz := XR10.out.size
          have a0 := XA10.out.c 0 rfl
          have af0 := XA10.out.f 0 rfl
          have a1 := XA10.out.c 1 rfl
          have af1 := XA10.out.f 1 rfl
          have a2 := XA10.out.c 2 rfl
          have af2 := XA10.out.f 2 rfl
          have a3 := XA10.out.c 3 rfl
          have af3 := XA10.out.f 3 rfl
          have a4 := XA10.out.c 4 rfl
          have af4 := XA10.out.f 4 rfl
          have az := XA10.out.size
          obtain ⟨w11, hV⟩ : ∃ V, V = (((((w10.setCell ⟨w.heap.size, 0, none⟩ (.int .i64 kap)).setCell ⟨w.heap.size, 1, none⟩ (.bool true)).setCell ⟨w.heap.size, 2, none⟩ (.slice bo b.length bc)).setCell ⟨w.heap.size, 3, none⟩ (.slice so s.length sc)).setCell ⟨w.heap.size, 4, none⟩ (.slice ro r.length rc)) := ⟨_, rfl⟩
          have XR11 := hid ((((((XR10.out.set 0 (.int .i64 kap)).set 1 (.bool true)).set 2 (.slice bo b.length bc)).set 3 (.slice so s.length sc)).set 4 (.slice ro r.length rc)))
          rw [← hV] at XR11
          have XA11 := hid ((((((XA10.out.other (a := ⟨w.heap.size, 0, none⟩) (by dsimp only; omega) (.int .i64 kap)).other (a := ⟨w.heap.size, 1, none⟩) (by dsimp only; omega) (.bool true)).other (a := ⟨w.heap.size, 2, none⟩) (by dsimp only; omega) (.slice bo b.length bc)).other (a := ⟨w.heap.size, 3, none⟩) (by dsimp only; omega) (.slice so s.length sc)).other (a := ⟨w.heap.size, 4, none⟩) (by dsimp only; omega) (.slice ro r.length rc)))
          rw [← hV] at XA11
          have D11 := hid ((((((D10.out.setOff (a := ⟨w.heap.size, 0, none⟩) (by dsimp only; omega) (.int .i64 kap)).setOff (a := ⟨w.heap.size, 1, none⟩) (by dsimp only; omega) (.bool true)).setOff (a := ⟨w.heap.size, 2, none⟩) (by dsimp only; omega) (.slice bo b.length bc)).setOff (a := ⟨w.heap.size, 3, none⟩) (by dsimp only; omega) (.slice so s.length sc)).setOff (a := ⟨w.heap.size, 4, none⟩) (by dsimp only; omega) (.slice ro r.length rc)))
          rw [← hV] at D11
          have C11 := hid ((((((C10.out.other (a := ⟨w.heap.size, 0, none⟩) (by dsimp only; omega) (.int .i64 kap)).other (a := ⟨w.heap.size, 1, none⟩) (by dsimp only; omega) (.bool true)).other (a := ⟨w.heap.size, 2, none⟩) (by dsimp only; omega) (.slice bo b.length bc)).other (a := ⟨w.heap.size, 3, none⟩) (by dsimp only; omega) (.slice so s.length sc)).other (a := ⟨w.heap.size, 4, none⟩) (by dsimp only; omega) (.slice ro r.length rc)))
          rw [← hV] at C11
          have hR11 : Grew p w w11 := by rw [hV]; exact (((((hR10.set (a := ⟨w.heap.size, 0, none⟩) (by dsimp only; omega) (.int .i64 kap)).set (a := ⟨w.heap.size, 1, none⟩) (by dsimp only; omega) (.bool true)).set (a := ⟨w.heap.size, 2, none⟩) (by dsimp only; omega) (.slice bo b.length bc)).set (a := ⟨w.heap.size, 3, none⟩) (by dsimp only; omega) (.slice so s.length sc)).set (a := ⟨w.heap.size, 4, none⟩) (by dsimp only; omega) (.slice ro r.length rc))
          have hz11 : w10.heap.size ≤ w11.heap.size := by rw [hV]; simp
          have H11 := hid hV
          clear hV XR10 XA10 D10 C10
          go_wp2
          clear r0 rf0 r1 rf1 r2 rf2 r3 rf3 r4 rf4 rz a0 af0 a1 af1 a2 af2 a3 af3 a4 af4 az
          rw [← H11.out]
          clear H11
          have r0 := XR11.out.c 0 rfl
          have rf0 := XR11.out.f 0 rfl
          have r1 := XR11.out.c 1 rfl
          have rf1 := XR11.out.f 1 rfl
          have r2 := XR11.out.c 2 rfl
          have rf2 := XR11.out.f 2 rfl
          have r3 := XR11.out.c 3 rfl
          have rf3 := XR11.out.f 3 rfl
          have r4 := XR11.out.c 4 rfl
          have rf4 := XR11.out.f 4 rfl
          have rz := XR11.out.size
          have a0 := XA11.out.c 0 rfl
          have af0 := XA11.out.f 0 rfl
          have a1 := XA11.out.c 1 rfl
          have af1 := XA11.out.f 1 rfl
          have a2 := XA11.out.c 2 rfl
          have af2 := XA11.out.f 2 rfl
          have a3 := XA11.out.c 3 rfl
          have af3 := XA11.out.f 3 rfl
          have a4 := XA11.out.c 4 rfl
          have af4 := XA11.out.f 4 rfl
          have az := XA11.out.size
          refine bodyPost_ret (v := .agg #[.int .i64 kap, .bool true, .slice bo b.length bc, .slice so s.length sc, .slice ro r.length rc]) (by simp [results, Try.results8, go_sem, r0, r1, r2, r3, r4]) rfl ?_
          exact ⟨⟨kap, true, bo, bc, b, so, sc, s, ro, rc, r, rfl, ⟨by omega, by omega, by omega⟩, D11.out.xv.wide (by omega) (by omega)⟩, k9, sd9, by omega, C11.out, hR11⟩
        · have e0 : (y == 0) = false := by simpa using y0
          have f0 : decide (y = 0) = false := by simpa using y0
          have e1 : (y == 1) = false := by simpa using y1
          have f1 : decide (y = 1) = false := by simpa using y1
          have e2 : (y == 2) = false := by simpa using y2
          have f2 : decide (y = 2) = false := by simpa using y2
          have e3 : (y == 3) = false := by simpa using y3
          have f3 : decide (y = 3) = false := by simpa using y3
          have e4 : (y == 4) = false := by simpa using y4
          have f4 : decide (y = 4) = false := by simpa using y4
          have r0 := XR9.out.c 0 rfl
          have rf0 := XR9.out.f 0 rfl
          have r1 := XR9.out.c 1 rfl
          have rf1 := XR9.out.f 1 rfl
          have r2 := XR9.out.c 2 rfl
          have rf2 := XR9.out.f 2 rfl
          have r3 := XR9.out.c 3 rfl
          have rf3 := XR9.out.f 3 rfl
          have r4 := XR9.out.c 4 rfl
          have rf4 := XR9.out.f 4 rfl
          have rz := XR9.out.size
          have a0 := XA9.out.c 0 rfl
          have af0 := XA9.out.f 0 rfl
          have a1 := XA9.out.c 1 rfl
          have af1 := XA9.out.f 1 rfl
          have a2 := XA9.out.c 2 rfl
          have af2 := XA9.out.f 2 rfl
          have a3 := XA9.out.c 3 rfl
          have af3 := XA9.out.f 3 rfl
          have a4 := XA9.out.c 4 rfl
          have af4 := XA9.out.f 4 rfl
          have az := XA9.out.size
          go_upto_region 23 with fail
          clear r0 rf0 r1 rf1 r2 rf2 r3 rf3 r4 rf4 rz a0 af0 a1 af1 a2 af2 a3 af3 a4 af4 az
          have r0 := XR9.out.c 0 rfl
          have rf0 := XR9.out.f 0 rfl
          have r1 := XR9.out.c 1 rfl
          have rf1 := XR9.out.f 1 rfl
          have r2 := XR9.out.c 2 rfl
          have rf2 := XR9.out.f 2 rfl
          have r3 := XR9.out.c 3 rfl
          have rf3 := XR9.out.f 3 rfl
          have r4 := XR9.out.c 4 rfl
          have rf4 := XR9.out.f 4 rfl
          have rz := XR9.out.size
          have a0 := XA9.out.c 0 rfl
          have af0 := XA9.out.f 0 rfl
          have a1 := XA9.out.c 1 rfl
          have af1 := XA9.out.f 1 rfl
          have a2 := XA9.out.c 2 rfl
          have af2 := XA9.out.f 2 rfl
          have a3 := XA9.out.c 3 rfl
          have af3 := XA9.out.f 3 rfl
          have a4 := XA9.out.c 4 rfl
          have af4 := XA9.out.f 4 rfl
          have az := XA9.out.size
          obtain ⟨w10, hV⟩ : ∃ V, V = (((((w9.setCell ⟨w.heap.size, 0, none⟩ (.int .i64 kap)).setCell ⟨w.heap.size, 1, none⟩ (.bool cl)).setCell ⟨w.heap.size, 2, none⟩ (.slice bo b.length bc)).setCell ⟨w.heap.size, 3, none⟩ (.slice so s.length sc)).setCell ⟨w.heap.size, 4, none⟩ (.slice ro r.length rc)) := ⟨_, rfl⟩
          have XR10 := hid ((((((XR9.out.set 0 (.int .i64 kap)).set 1 (.bool cl)).set 2 (.slice bo b.length bc)).set 3 (.slice so s.length sc)).set 4 (.slice ro r.length rc)))
          rw [← hV] at XR10
          have XA10 := hid ((((((XA9.out.other (a := ⟨w.heap.size, 0, none⟩) (by dsimp only; omega) (.int .i64 kap)).other (a := ⟨w.heap.size, 1, none⟩) (by dsimp only; omega) (.bool cl)).other (a := ⟨w.heap.size, 2, none⟩) (by dsimp only; omega) (.slice bo b.length bc)).other (a := ⟨w.heap.size, 3, none⟩) (by dsimp only; omega) (.slice so s.length sc)).other (a := ⟨w.heap.size, 4, none⟩) (by dsimp only; omega) (.slice ro r.length rc)))
          rw [← hV] at XA10
          have D10 := hid ((((((D9.out.setOff (a := ⟨w.heap.size, 0, none⟩) (by dsimp only; omega) (.int .i64 kap)).setOff (a := ⟨w.heap.size, 1, none⟩) (by dsimp only; omega) (.bool cl)).setOff (a := ⟨w.heap.size, 2, none⟩) (by dsimp only; omega) (.slice bo b.length bc)).setOff (a := ⟨w.heap.size, 3, none⟩) (by dsimp only; omega) (.slice so s.length sc)).setOff (a := ⟨w.heap.size, 4, none⟩) (by dsimp only; omega) (.slice ro r.length rc)))
          rw [← hV] at D10
          have C10 := hid ((((((C9.out.other (a := ⟨w.heap.size, 0, none⟩) (by dsimp only; omega) (.int .i64 kap)).other (a := ⟨w.heap.size, 1, none⟩) (by dsimp only; omega) (.bool cl)).other (a := ⟨w.heap.size, 2, none⟩) (by dsimp only; omega) (.slice bo b.length bc)).other (a := ⟨w.heap.size, 3, none⟩) (by dsimp only; omega) (.slice so s.length sc)).other (a := ⟨w.heap.size, 4, none⟩) (by dsimp only; omega) (.slice ro r.length rc)))
          rw [← hV] at C10
          have hR10 : Grew p w w10 := by rw [hV]; exact (((((hR9.set (a := ⟨w.heap.size, 0, none⟩) (by dsimp only; omega) (.int .i64 kap)).set (a := ⟨w.heap.size, 1, none⟩) (by dsimp only; omega) (.bool cl)).set (a := ⟨w.heap.size, 2, none⟩) (by dsimp only; omega) (.slice bo b.length bc)).set (a := ⟨w.heap.size, 3, none⟩) (by dsimp only; omega) (.slice so s.length sc)).set (a := ⟨w.heap.size, 4, none⟩) (by dsimp only; omega) (.slice ro r.length rc))
          have hz10 : w9.heap.size ≤ w10.heap.size := by rw [hV]; simp
          have H10 := hid hV
          clear hV XR9 XA9 D9 C9
          go_wp2
          clear r0 rf0 r1 rf1 r2 rf2 r3 rf3 r4 rf4 rz a0 af0 a1 af1 a2 af2 a3 af3 a4 af4 az
          rw [← H10.out]
          clear H10
          have r0 := XR10.out.c 0 rfl
          have rf0 := XR10.out.f 0 rfl
          have r1 := XR10.out.c 1 rfl
          have rf1 := XR10.out.f 1 rfl
          have r2 := XR10.out.c 2 rfl
          have rf2 := XR10.out.f 2 rfl
          have r3 := XR10.out.c 3 rfl
          have rf3 := XR10.out.f 3 rfl
          have r4 := XR10.out.c 4 rfl
          have rf4 := XR10.out.f 4 rfl
          have rz := XR10.out.size
          have a0 := XA10.out.c 0 rfl
          have af0 := XA10.out.f 0 rfl
          have a1 := XA10.out.c 1 rfl
          have af1 := XA10.out.f 1 rfl
          have a2 := XA10.out.c 2 rfl
          have af2 := XA10.out.f 2 rfl
          have a3 := XA10.out.c 3 rfl
          have af3 := XA10.out.f 3 rfl
          have a4 := XA10.out.c 4 rfl
          have af4 := XA10.out.f 4 rfl
          have az := XA10.out.size
          refine bodyPost_ret (v := .agg #[.int .i64 kap, .bool cl, .slice bo b.length bc, .slice so s.length sc, .slice ro r.length rc]) (by simp [results, Try.results8, go_sem, r0, r1, r2, r3, r4]) rfl ?_
          exact ⟨⟨kap, cl, bo, bc, b, so, sc, s, ro, rc, r, rfl, ⟨by omega, by omega, by omega⟩, D10.out.xv.wide (by omega) (by omega)⟩, k9, sd9, by omega, C10.out, hR10⟩
end Go.Proofs.Ytdfmmidokfcjfaa
