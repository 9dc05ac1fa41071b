
/- A drawn clock. No conditions but those written. -/
import Derived.Test.YtpbgkkemaioidaaXk
import Derived.Deep.Cut
import Derived.Deep.DeepCutAuto
import Derived.Deep.RegionLaw
namespace Go.Proofs.Ytpbgkkemaioidaa
open Go.RowKit

set_option maxRecDepth 10000 in
set_option maxHeartbeats 64000000 in
theorem clock_any (p : Nat) (co : Option Addr) (cap : Nat) (bs : List Int) (k : Nat) (sd : Int) (w : World) (hl : bs.length ≤ 9223372036854775807) (ha : k ≤ 1000000000) (hC : Cur w p co cap bs k sd) :
    Calls Try.prog 10 #[.pointer (some ⟨p, 0, none⟩)] w fun e w' => (∃ (now sq : Int) (ta : Option Addr) (tc : Nat) (ts : List Old.T3), e = .returned (.agg #[.int .i64 now, .int .i64 sq, .slice ta ts.length tc]) ∧ (Old.I64 now ∧ ts.length ≤ 31) ∧ CW w.heap.size w'.heap.size w' ta tc ts) ∧ DrawnG w p co cap bs k 500 w' := by
  have hp := hC.1
  have C0 := hid hC
  have hR0 := Grew.refl p w
  clear hC
  obtain ⟨w1, hV⟩ : ∃ V, V = w.alloc (.cells #[.int .i64 0, .int .i64 0, .slice none 0 0] 25) := ⟨_, rfl⟩
  have C1 := hid (C0.out.later (below1 w (.cells #[.int .i64 0, .int .i64 0, .slice none 0 0] 25)))
  rw [← hV] at C1
  have hR1 : Grew p w w1 := by rw [hV]; exact hR0.trans (Grew.alloc p _ _)
  have hz1 : w.heap.size ≤ w1.heap.size := by rw [hV]; simp
  have H1 := hid hV
  clear hV C0
  have XR1 : Hid (Bx w1 w.heap.size [.int .i64 0, .int .i64 0, .slice none 0 0]) := by rw [H1.out]; exact Bx.new [.int .i64 0, .int .i64 0, .slice none 0 0] _ rfl
  have hy1 : w.heap.size < w1.heap.size := XR1.out.size
  go_enter Try.func10, Try.ntmps10
  have r0 := XR1.out.c 0 rfl
  have rf0 := XR1.out.f 0 rfl
  have r1 := XR1.out.c 1 rfl
  have rf1 := XR1.out.f 1 rfl
  have r2 := XR1.out.c 2 rfl
  have rf2 := XR1.out.f 2 rfl
  have rz := XR1.out.size
  go_wp2_with fail
  clear r0 rf0 r1 rf1 r2 rf2 rz
  rw [← H1.out]
  clear H1
  refine (pick_any 20 p co cap bs k sd w1 hl (by omega) C1.out).mono ?_
  rintro e w2 ⟨⟨x, rfl, h0x, h1x⟩, hD⟩
  obtain ⟨k2, sd2, hk2, hC2, hg2, hsz2⟩ := hD.grew
  have XR2 := hid (XR1.out.grew hg2 (by omega))
  have C2 := hid hC2
  have hR2 : Grew p w w2 := hR1.trans hg2
  have hz2 : w1.heap.size ≤ w2.heap.size := hg2.size
  clear XR1 C1 hD hg2 hC2 hsz2
  have r0 := XR2.out.c 0 rfl
  have rf0 := XR2.out.f 0 rfl
  have r1 := XR2.out.c 1 rfl
  have rf1 := XR2.out.f 1 rfl
  have r2 := XR2.out.c 2 rfl
  have rf2 := XR2.out.f 2 rfl
  have rz := XR2.out.size
  obtain ⟨w3, hV⟩ : ∃ V, V = w2.alloc (.cells #[.int .i64 x, .int .i64 0, .slice none 0 0] 25) := ⟨_, rfl⟩
  have XR3 := hid (XR2.out.alloc (.cells #[.int .i64 x, .int .i64 0, .slice none 0 0] 25))
  rw [← hV] at XR3
  have C3 := hid (C2.out.later (below1 w2 (.cells #[.int .i64 x, .int .i64 0, .slice none 0 0] 25)))
  rw [← hV] at C3
  have hR3 : Grew p w w3 := by rw [hV]; exact hR2.trans (Grew.alloc p _ _)
  have hz3 : w2.heap.size ≤ w3.heap.size := by rw [hV]; simp
  have H3 := hid hV
  clear hV XR2 C2
  have XA3 : Hid (Bx w3 w2.heap.size [.int .i64 x, .int .i64 0, .slice none 0 0]) := by rw [H3.out]; exact Bx.new [.int .i64 x, .int .i64 0, .slice none 0 0] _ rfl
  have hy3 : w2.heap.size < w3.heap.size := XA3.out.size
  go_wp2_with fail
  clear r0 rf0 r1 rf1 r2 rf2 rz
  rw [← H3.out]
  clear H3
  refine (one_any 16 p co cap bs k2 sd2 w3 hl (by omega) C3.out).mono ?_
  rintro e w4 ⟨⟨b, rfl⟩, hD⟩
  obtain ⟨k4, sd4, hk4, hC4, hg4, hsz4⟩ := hD.grew
  have XR4 := hid (XR3.out.grew hg4 (by omega))
  have XA4 := hid (XA3.out.grew hg4 (by omega))
  have C4 := hid hC4
  have hR4 : Grew p w w4 := hR3.trans hg4
  have hz4 : w3.heap.size ≤ w4.heap.size := hg4.size
  clear XR3 XA3 C3 hD hg4 hC4 hsz4
  have r0 := XR4.out.c 0 rfl
  have rf0 := XR4.out.f 0 rfl
  have r1 := XR4.out.c 1 rfl
  have rf1 := XR4.out.f 1 rfl
  have r2 := XR4.out.c 2 rfl
  have rf2 := XR4.out.f 2 rfl
  have rz := XR4.out.size
  have a0 := XA4.out.c 0 rfl
  have af0 := XA4.out.f 0 rfl
  have a1 := XA4.out.c 1 rfl
  have af1 := XA4.out.f 1 rfl
  have a2 := XA4.out.c 2 rfl
  have af2 := XA4.out.f 2 rfl
  have az := XA4.out.size
  go_upto_if 12 with fail
  clear r0 rf0 r1 rf1 r2 rf2 rz a0 af0 a1 af1 a2 af2 az
  go_cut [3] (fun s3 wx => ∃ (now : Int) (k2 : Nat) (sd2 : Int), s3 = .pointer (some ⟨w2.heap.size, 0, none⟩) ∧ Old.I64 now ∧ k2 ≤ k + 10 ∧ Hid (Bx wx w.heap.size [.int .i64 0, .int .i64 0, .slice none 0 0]) ∧ Hid (Bx wx w2.heap.size [.int .i64 now, .int .i64 0, .slice none 0 0]) ∧ Hid (Cur wx p co cap bs k2 sd2) ∧ Grew p w wx ∧ w2.heap.size + 1 ≤ wx.heap.size)
  case first =>
    cases b
    · have r0 := XR4.out.c 0 rfl
      have rf0 := XR4.out.f 0 rfl
      have r1 := XR4.out.c 1 rfl
      have rf1 := XR4.out.f 1 rfl
      have r2 := XR4.out.c 2 rfl
      have rf2 := XR4.out.f 2 rfl
      have rz := XR4.out.size
      have a0 := XA4.out.c 0 rfl
      have af0 := XA4.out.f 0 rfl
      have a1 := XA4.out.c 1 rfl
      have af1 := XA4.out.f 1 rfl
      have a2 := XA4.out.c 2 rfl
      have af2 := XA4.out.f 2 rfl
      have az := XA4.out.size
      go_wp2_with fail
      clear r0 rf0 r1 rf1 r2 rf2 rz a0 af0 a1 af1 a2 af2 az
      go_meet
      exact ⟨x, k4, sd4, rfl, by unfold Old.I64; omega, by omega, XR4, XA4, C4, hR4, by have := XA4.out.size; omega⟩
    · have r0 := XR4.out.c 0 rfl
      have rf0 := XR4.out.f 0 rfl
      have r1 := XR4.out.c 1 rfl
      have rf1 := XR4.out.f 1 rfl
      have r2 := XR4.out.c 2 rfl
      have rf2 := XR4.out.f 2 rfl
      have rz := XR4.out.size
      have a0 := XA4.out.c 0 rfl
      have af0 := XA4.out.f 0 rfl
      have a1 := XA4.out.c 1 rfl
      have af1 := XA4.out.f 1 rfl
      have a2 := XA4.out.c 2 rfl
      have af2 := XA4.out.f 2 rfl
      have az := XA4.out.size
      go_wp2_with fail
      clear r0 rf0 r1 rf1 r2 rf2 rz a0 af0 a1 af1 a2 af2 az
      refine (pick_any 9 p co cap bs k4 sd4 w4 hl (by omega) C4.out).mono ?_
      rintro e w5 ⟨⟨y, rfl, h0y, h1y⟩, hD⟩
      obtain ⟨k5, sd5, hk5, hC5, hg5, hsz5⟩ := hD.grew
      have XR5 := hid (XR4.out.grew hg5 (by omega))
      have XA5 := hid (XA4.out.grew hg5 (by omega))
      have C5 := hid hC5
      have hR5 : Grew p w w5 := hR4.trans hg5
      have hz5 : w4.heap.size ≤ w5.heap.size := hg5.size
      clear XR4 XA4 C4 hD hg5 hC5 hsz5
      have r0 := XR5.out.c 0 rfl
      have rf0 := XR5.out.f 0 rfl
      have r1 := XR5.out.c 1 rfl
      have rf1 := XR5.out.f 1 rfl
      have r2 := XR5.out.c 2 rfl
      have rf2 := XR5.out.f 2 rfl
      have rz := XR5.out.size
      have a0 := XA5.out.c 0 rfl
      have af0 := XA5.out.f 0 rfl
      have a1 := XA5.out.c 1 rfl
      have af1 := XA5.out.f 1 rfl
      have a2 := XA5.out.c 2 rfl
      have af2 := XA5.out.f 2 rfl
      have az := XA5.out.size
      obtain ⟨w6, hV⟩ : ∃ V, V = (w5.setCell ⟨w2.heap.size, 0, none⟩ (.int .i64 (9223372036854775807 - y))) := ⟨_, rfl⟩
      have XR6 := hid ((XR5.out.other (a := ⟨w2.heap.size, 0, none⟩) (by dsimp only; omega) (.int .i64 (9223372036854775807 - y))))
      rw [← hV] at XR6
      have XA6 := hid ((XA5.out.set 0 (.int .i64 (9223372036854775807 - y))))
      rw [← hV] at XA6
      have C6 := hid ((C5.out.other (a := ⟨w2.heap.size, 0, none⟩) (by dsimp only; omega) (.int .i64 (9223372036854775807 - y))))
      rw [← hV] at C6
      have hR6 : Grew p w w6 := by rw [hV]; exact (hR5.set (a := ⟨w2.heap.size, 0, none⟩) (by dsimp only; omega) (.int .i64 (9223372036854775807 - y)))
      have hz6 : w5.heap.size ≤ w6.heap.size := by rw [hV]; simp
      have H6 := hid hV
      clear hV XR5 XA5 C5
      go_wp2_with fail
      clear r0 rf0 r1 rf1 r2 rf2 rz a0 af0 a1 af1 a2 af2 az
      rw [← H6.out]
      clear H6
      go_meet
      exact ⟨9223372036854775807 - y, k5, sd5, rfl, by unfold Old.I64; omega, by omega, XR6, XA6, C6, hR6, by have := XA6.out.size; omega⟩
  case rest =>
    obtain ⟨now0, k0, sd0, rfl, hI0, hk0, XR14, XA14, C14, hR14, hs0⟩ := hcut
    clear XR4 XA4 C4 hR4
    have r0 := XR14.out.c 0 rfl
    have rf0 := XR14.out.f 0 rfl
    have r1 := XR14.out.c 1 rfl
    have rf1 := XR14.out.f 1 rfl
    have r2 := XR14.out.c 2 rfl
    have rf2 := XR14.out.f 2 rfl
    have rz := XR14.out.size
    have a0 := XA14.out.c 0 rfl
    have af0 := XA14.out.f 0 rfl
    have a1 := XA14.out.c 1 rfl
    have af1 := XA14.out.f 1 rfl
    have a2 := XA14.out.c 2 rfl
    have af2 := XA14.out.f 2 rfl
    have az := XA14.out.size
    go_wp2_with fail
    clear r0 rf0 r1 rf1 r2 rf2 rz a0 af0 a1 af1 a2 af2 az
    refine (pick_any 9 p co cap bs k0 sd0 wc hl (by omega) C14.out).mono ?_
    rintro e w15 ⟨⟨n0, rfl, h0n0, h1n0⟩, hD⟩
    obtain ⟨k15, sd15, hk15, hC15, hg15, hsz15⟩ := hD.grew
    have XR15 := hid (XR14.out.grew hg15 (by omega))
    have XA15 := hid (XA14.out.grew hg15 (by omega))
    have C15 := hid hC15
    have hR15 : Grew p w w15 := hR14.trans hg15
    have hz15 : wc.heap.size ≤ w15.heap.size := hg15.size
    clear XR14 XA14 C14 hD hg15 hC15 hsz15
    obtain ⟨m0, rfl⟩ : ∃ m : Nat, n0 = m := ⟨n0.toNat, by omega⟩
    have hm0 : m0 ≤ 40 := by omega
    clear h0n0 h1n0
    have r0 := XR15.out.c 0 rfl
    have rf0 := XR15.out.f 0 rfl
    have r1 := XR15.out.c 1 rfl
    have rf1 := XR15.out.f 1 rfl
    have r2 := XR15.out.c 2 rfl
    have rf2 := XR15.out.f 2 rfl
    have rz := XR15.out.size
    have a0 := XA15.out.c 0 rfl
    have af0 := XA15.out.f 0 rfl
    have a1 := XA15.out.c 1 rfl
    have af1 := XA15.out.f 1 rfl
    have a2 := XA15.out.c 2 rfl
    have af2 := XA15.out.f 2 rfl
    have az := XA15.out.size
    go_wp2_with fail
    clear r0 rf0 r1 rf1 r2 rf2 rz a0 af0 a1 af1 a2 af2 az
    refine (one_any 20 p co cap bs k15 sd15 w15 hl (by omega) C15.out).mono ?_
    rintro e w16 ⟨⟨b2, rfl⟩, hD⟩
    obtain ⟨k16, sd16, hk16, hC16, hg16, hsz16⟩ := hD.grew
    have XR16 := hid (XR15.out.grew hg16 (by omega))
    have XA16 := hid (XA15.out.grew hg16 (by omega))
    have C16 := hid hC16
    have hR16 : Grew p w w16 := hR15.trans hg16
    have hz16 : w15.heap.size ≤ w16.heap.size := hg16.size
    clear XR15 XA15 C15 hD hg16 hC16 hsz16
    have r0 := XR16.out.c 0 rfl
    have rf0 := XR16.out.f 0 rfl
    have r1 := XR16.out.c 1 rfl
    have rf1 := XR16.out.f 1 rfl
    have r2 := XR16.out.c 2 rfl
    have rf2 := XR16.out.f 2 rfl
    have rz := XR16.out.size
    have a0 := XA16.out.c 0 rfl
    have af0 := XA16.out.f 0 rfl
    have a1 := XA16.out.c 1 rfl
    have af1 := XA16.out.f 1 rfl
    have a2 := XA16.out.c 2 rfl
    have af2 := XA16.out.f 2 rfl
    have az := XA16.out.size
    go_upto_if 20 with fail
    clear r0 rf0 r1 rf1 r2 rf2 rz a0 af0 a1 af1 a2 af2 az
    go_cut [4] (fun s4 wx => ∃ (m : Nat), s4 = .int .i64 (m : Int) ∧ m ≤ 40 ∧ wx = w16)
    case first =>
      cases b2
      · go_wp2_with fail
        go_meet
        exact ⟨m0, rfl, by omega, rfl⟩
      · go_wp2_with fail
        go_meet
        exact ⟨40, rfl, by omega, rfl⟩
    case rest =>
      clear hm0
      obtain ⟨m, rfl, hm, hwc⟩ := hcut
      rw [hwc]
      clear hwc wc
      have D16 : Hid (CW (w2.heap.size + 1) w16.heap.size w16 none 0 []) := hid CW.nil
      have r0 := XR16.out.c 0 rfl
      have rf0 := XR16.out.f 0 rfl
      have r1 := XR16.out.c 1 rfl
      have rf1 := XR16.out.f 1 rfl
      have r2 := XR16.out.c 2 rfl
      have rf2 := XR16.out.f 2 rfl
      have rz := XR16.out.size
      have a0 := XA16.out.c 0 rfl
      have af0 := XA16.out.f 0 rfl
      have a1 := XA16.out.c 1 rfl
      have af1 := XA16.out.f 1 rfl
      have a2 := XA16.out.c 2 rfl
      have af2 := XA16.out.f 2 rfl
      have az := XA16.out.size
      go_wp2
      clear r0 rf0 r1 rf1 r2 rf2 rz a0 af0 a1 af1 a2 af2 az
      go_loopw [5] (fun i wr => ∃ (j k2 : Nat) (sd2 : Int) (now sq : Int) (ta : Option Addr) (tc : Nat) (ts : List Old.T3), i = .int .i64 (j : Int) ∧ j ≤ m ∧ ts.length ≤ 30 ∧ Hid (Old.I64 now ∧ Old.AtsIn ts) ∧ k2 + 6 * (m - j) ≤ k + 300 ∧ Hid (Bx wr w.heap.size [.int .i64 0, .int .i64 0, .slice none 0 0]) ∧ Hid (Bx wr w2.heap.size [.int .i64 now, .int .i64 sq, .slice ta ts.length tc]) ∧ Hid (CW (w2.heap.size + 1) wr.heap.size wr ta tc ts) ∧ Hid (Cur wr p co cap bs k2 sd2) ∧ Grew p w wr ∧ w2.heap.size + 1 ≤ wr.heap.size) (fun i _ => m - (intOf i).toNat)
      case atStart => exact ⟨0, k16, sd16, now0, 0, none, 0, [], rfl, by omega, by simp, hid ⟨hI0, ats_nil⟩, by omega, XR16, XA16, D16, C16, hR16, by have := XA16.out.size; omega⟩
      case round =>
        clear XR16 XA16 D16 C16 hR16
        obtain ⟨j, k1, sd1, now, sq, ta, tc, ts, rfl, hj, hts, HIR, hk1, XR17, XA17, D17, C17, hR17, hs1⟩ := hrel
        by_cases hjm : j < m
        · have hm1 : decide ((j : Int) < (m : Int)) = true := by simp <;> omega
          have r0 := XR17.out.c 0 rfl
          have rf0 := XR17.out.f 0 rfl
          have r1 := XR17.out.c 1 rfl
          have rf1 := XR17.out.f 1 rfl
          have r2 := XR17.out.c 2 rfl
          have rf2 := XR17.out.f 2 rfl
          have rz := XR17.out.size
          have a0 := XA17.out.c 0 rfl
          have af0 := XA17.out.f 0 rfl
          have a1 := XA17.out.c 1 rfl
          have af1 := XA17.out.f 1 rfl
          have a2 := XA17.out.c 2 rfl
          have af2 := XA17.out.f 2 rfl
          have az := XA17.out.size
          obtain ⟨w18, hV⟩ : ∃ V, V = wr.alloc (.cells #[.int .i64 now, .int .i64 sq, .slice ta ts.length tc] 25) := ⟨_, rfl⟩
          have XR18 := hid (XR17.out.alloc (.cells #[.int .i64 now, .int .i64 sq, .slice ta ts.length tc] 25))
          rw [← hV] at XR18
          have XA18 := hid (XA17.out.alloc (.cells #[.int .i64 now, .int .i64 sq, .slice ta ts.length tc] 25))
          rw [← hV] at XA18
          have D18 := hid (D17.out.later (below1 wr (.cells #[.int .i64 now, .int .i64 sq, .slice ta ts.length tc] 25)))
          rw [← hV] at D18
          have C18 := hid (C17.out.later (below1 wr (.cells #[.int .i64 now, .int .i64 sq, .slice ta ts.length tc] 25)))
          rw [← hV] at C18
          have hR18 : Grew p w w18 := by rw [hV]; exact hR17.trans (Grew.alloc p _ _)
          have hz18 : wr.heap.size ≤ w18.heap.size := by rw [hV]; simp
          have H18 := hid hV
          clear hV XR17 XA17 D17 C17
          have XX18 : Hid (Bx w18 wr.heap.size [.int .i64 now, .int .i64 sq, .slice ta ts.length tc]) := by rw [H18.out]; exact Bx.new [.int .i64 now, .int .i64 sq, .slice ta ts.length tc] _ rfl
          have hy18 : wr.heap.size < w18.heap.size := XX18.out.size
          go_wp2_with fail
          clear r0 rf0 r1 rf1 r2 rf2 rz a0 af0 a1 af1 a2 af2 az
          rw [← H18.out]
          clear H18
          refine (pick_any 5 p co cap bs k1 sd1 w18 hl (by omega) C18.out).mono ?_
          rintro e w19 ⟨⟨y, rfl, h0y, h1y⟩, hD⟩
          obtain ⟨k19, sd19, hk19, hC19, hg19, hsz19⟩ := hD.grew
          have XR19 := hid (XR18.out.grew hg19 (by omega))
          have XA19 := hid (XA18.out.grew hg19 (by omega))
          have XX19 := hid (XX18.out.grew hg19 (by omega))
          have D19 := hid (D18.out.grew hg19 (by omega))
          have C19 := hid hC19
          have hR19 : Grew p w w19 := hR18.trans hg19
          have hz19 : w18.heap.size ≤ w19.heap.size := hg19.size
          clear XR18 XA18 XX18 D18 C18 hD hg19 hC19 hsz19
          have hy3 : y = 0 ∨ y = 1 ∨ (y ≠ 0 ∧ y ≠ 1) := by omega
          clear h0y h1y
          rcases hy3 with rfl | rfl | ⟨y0, y1⟩
          · have r0 := XR19.out.c 0 rfl
            have rf0 := XR19.out.f 0 rfl
            have r1 := XR19.out.c 1 rfl
            have rf1 := XR19.out.f 1 rfl
            have r2 := XR19.out.c 2 rfl
            have rf2 := XR19.out.f 2 rfl
            have rz := XR19.out.size
            have a0 := XA19.out.c 0 rfl
            have af0 := XA19.out.f 0 rfl
            have a1 := XA19.out.c 1 rfl
            have af1 := XA19.out.f 1 rfl
            have a2 := XA19.out.c 2 rfl
            have af2 := XA19.out.f 2 rfl
            have az := XA19.out.size
            have x0 := XX19.out.c 0 rfl
            have xf0 := XX19.out.f 0 rfl
            have x1 := XX19.out.c 1 rfl
            have xf1 := XX19.out.f 1 rfl
            have x2 := XX19.out.c 2 rfl
            have xf2 := XX19.out.f 2 rfl
            have xz := XX19.out.size
            go_wp2
            have PD0 : w19.drew.cell? ⟨w2.heap.size, 0, none⟩ = some (.int .i64 now) := a0
            have PD1 : w19.drew.cell? ⟨w2.heap.size, 1, none⟩ = some (.int .i64 sq) := a1
            have PD2 : w19.drew.cell? ⟨w2.heap.size, 2, none⟩ = some (.slice ta ts.length tc) := a2
            go_region_law (first
                | (go_simp; go_at_call 19; have _g := hz20; refine (stepStop now sq ta tc ts z w20 HIR.out.2 (by omega) D20.out).mono ?_; rintro e w21 ⟨⟨vnow, vsq, vto, vtc, vts, cv, rfl, hS1⟩, hy⟩; have hb : Below w20.heap.size w20 w21 := hy; have XR21 := hid (XR20.out.grew (Grew.of_below (p := p) hb) (by omega)); have XA21 := hid (XA20.out.grew (Grew.of_below (p := p) hb) (by omega)); have XX21 := hid (XX20.out.grew (Grew.of_below (p := p) hb) (by omega)); have D21 := hid (D20.out.grew (Grew.of_below (p := p) hb) (by omega)); have C21 := hid (C20.out.later hb); have hR21 : Grew p w w21 := hR20.trans (Grew.of_below (p := p) hb); have hz21 : w20.heap.size ≤ w21.heap.size := hb.size; have P21a := XA21.out.c 0 rfl; have P21b := XA21.out.c 1 rfl; have P21c := XA21.out.c 2 rfl; have rg0 := XR21.out.c 0 rfl; have rh0 := XR21.out.f 0 rfl; have rg1 := XR21.out.c 1 rfl; have rh1 := XR21.out.f 1 rfl; have rg2 := XR21.out.c 2 rfl; have rh2 := XR21.out.f 2 rfl; have ag0 := XA21.out.c 0 rfl; have ah0 := XA21.out.f 0 rfl; have ag1 := XA21.out.c 1 rfl; have ah1 := XA21.out.f 1 rfl; have ag2 := XA21.out.c 2 rfl; have ah2 := XA21.out.f 2 rfl; have xg0 := XX21.out.c 0 rfl; have xh0 := XX21.out.f 0 rfl; have xg1 := XX21.out.c 1 rfl; have xh1 := XX21.out.f 1 rfl; have xg2 := XX21.out.c 2 rfl; have xh2 := XX21.out.f 2 rfl; clear hy hb)
                | (go_simp; go_at_call 11; refine (pick_any 6 p co cap bs k19 sd19 w19.drew hl (by omega) C19.out.drew).mono ?_; rintro e w20 ⟨⟨z, rfl, h0z, h1z⟩, hD⟩; obtain ⟨k20, sd20, hk20, hC, hg0, hsz⟩ := hD.grew; have hg : Grew p w19 w20 := hg0.from; have XR20 := hid (XR19.out.grew hg (by omega)); have XA20 := hid (XA19.out.grew hg (by omega)); have XX20 := hid (XX19.out.grew hg (by omega)); have D20 := hid (D19.out.grew hg (by omega)); have C20 := hid hC; have hR20 : Grew p w w20 := hR19.trans hg; have hz20 : w19.heap.size ≤ w20.heap.size := hg.size; have P20a := XA20.out.c 0 rfl; have P20b := XA20.out.c 1 rfl; have P20c := XA20.out.c 2 rfl; clear hD hC hg0 hg hsz))
            all_goals
              by_cases hc : cv = 0
              · obtain ⟨hS, hE⟩ := hS1 hc
                have E21 := hid hE
                have HS := hid hS
                have hc1 : (cv == 0) = true := by simpa using hc
                have hc2 : decide (cv = 0) = true := by simpa using hc
                clear hc hS hE hS1
                obtain ⟨w22, hV⟩ : ∃ V, V = (((w21.setCell ⟨wr.heap.size, 0, none⟩ (.int .i64 vnow)).setCell ⟨wr.heap.size, 1, none⟩ (.int .i64 vsq)).setCell ⟨wr.heap.size, 2, none⟩ (.slice vto vts.length vtc)) := ⟨_, rfl⟩
                have XR22 := hid ((((XR21.out.other (a := ⟨wr.heap.size, 0, none⟩) (by dsimp only; omega) (.int .i64 vnow)).other (a := ⟨wr.heap.size, 1, none⟩) (by dsimp only; omega) (.int .i64 vsq)).other (a := ⟨wr.heap.size, 2, none⟩) (by dsimp only; omega) (.slice vto vts.length vtc)))
                rw [← hV] at XR22
                have XA22 := hid ((((XA21.out.other (a := ⟨wr.heap.size, 0, none⟩) (by dsimp only; omega) (.int .i64 vnow)).other (a := ⟨wr.heap.size, 1, none⟩) (by dsimp only; omega) (.int .i64 vsq)).other (a := ⟨wr.heap.size, 2, none⟩) (by dsimp only; omega) (.slice vto vts.length vtc)))
                rw [← hV] at XA22
                have XX22 := hid ((((XX21.out.set 0 (.int .i64 vnow)).set 1 (.int .i64 vsq)).set 2 (.slice vto vts.length vtc)))
                rw [← hV] at XX22
                have D22 := hid ((((D21.out.setOff (a := ⟨wr.heap.size, 0, none⟩) (by dsimp only; omega) (.int .i64 vnow)).setOff (a := ⟨wr.heap.size, 1, none⟩) (by dsimp only; omega) (.int .i64 vsq)).setOff (a := ⟨wr.heap.size, 2, none⟩) (by dsimp only; omega) (.slice vto vts.length vtc)))
                rw [← hV] at D22
                have E22 := hid ((((E21.out.setOff (a := ⟨wr.heap.size, 0, none⟩) (by dsimp only; omega) (.int .i64 vnow)).setOff (a := ⟨wr.heap.size, 1, none⟩) (by dsimp only; omega) (.int .i64 vsq)).setOff (a := ⟨wr.heap.size, 2, none⟩) (by dsimp only; omega) (.slice vto vts.length vtc)))
                rw [← hV] at E22
                have C22 := hid ((((C21.out.other (a := ⟨wr.heap.size, 0, none⟩) (by dsimp only; omega) (.int .i64 vnow)).other (a := ⟨wr.heap.size, 1, none⟩) (by dsimp only; omega) (.int .i64 vsq)).other (a := ⟨wr.heap.size, 2, none⟩) (by dsimp only; omega) (.slice vto vts.length vtc)))
                rw [← hV] at C22
                have hR22 : Grew p w w22 := by rw [hV]; exact (((hR21.set (a := ⟨wr.heap.size, 0, none⟩) (by dsimp only; omega) (.int .i64 vnow)).set (a := ⟨wr.heap.size, 1, none⟩) (by dsimp only; omega) (.int .i64 vsq)).set (a := ⟨wr.heap.size, 2, none⟩) (by dsimp only; omega) (.slice vto vts.length vtc))
                have hz22 : w21.heap.size ≤ w22.heap.size := by rw [hV]; simp
                have H22 := hid hV
                clear hV XR21 XA21 XX21 D21 E21 C21
                go_upto_region 18 with fail
                clear rg0 rh0 rg1 rh1 rg2 rh2 ag0 ah0 ag1 ah1 ag2 ah2 xg0 xh0 xg1 xh1 xg2 xh2
                rw [← H22.out]
                clear H22
                have r0 := XR22.out.c 0 rfl
                have rf0 := XR22.out.f 0 rfl
                have r1 := XR22.out.c 1 rfl
                have rf1 := XR22.out.f 1 rfl
                have r2 := XR22.out.c 2 rfl
                have rf2 := XR22.out.f 2 rfl
                have rz := XR22.out.size
                have a0 := XA22.out.c 0 rfl
                have af0 := XA22.out.f 0 rfl
                have a1 := XA22.out.c 1 rfl
                have af1 := XA22.out.f 1 rfl
                have a2 := XA22.out.c 2 rfl
                have af2 := XA22.out.f 2 rfl
                have az := XA22.out.size
                have x0 := XX22.out.c 0 rfl
                have xf0 := XX22.out.f 0 rfl
                have x1 := XX22.out.c 1 rfl
                have xf1 := XX22.out.f 1 rfl
                have x2 := XX22.out.c 2 rfl
                have xf2 := XX22.out.f 2 rfl
                have xz := XX22.out.size
                obtain ⟨w23, hV⟩ : ∃ V, V = (((w22.setCell ⟨w2.heap.size, 0, none⟩ (.int .i64 vnow)).setCell ⟨w2.heap.size, 1, none⟩ (.int .i64 vsq)).setCell ⟨w2.heap.size, 2, none⟩ (.slice vto vts.length vtc)) := ⟨_, rfl⟩
                have XR23 := hid ((((XR22.out.other (a := ⟨w2.heap.size, 0, none⟩) (by dsimp only; omega) (.int .i64 vnow)).other (a := ⟨w2.heap.size, 1, none⟩) (by dsimp only; omega) (.int .i64 vsq)).other (a := ⟨w2.heap.size, 2, none⟩) (by dsimp only; omega) (.slice vto vts.length vtc)))
                rw [← hV] at XR23
                have XA23 := hid ((((XA22.out.set 0 (.int .i64 vnow)).set 1 (.int .i64 vsq)).set 2 (.slice vto vts.length vtc)))
                rw [← hV] at XA23
                have XX23 := hid ((((XX22.out.other (a := ⟨w2.heap.size, 0, none⟩) (by dsimp only; omega) (.int .i64 vnow)).other (a := ⟨w2.heap.size, 1, none⟩) (by dsimp only; omega) (.int .i64 vsq)).other (a := ⟨w2.heap.size, 2, none⟩) (by dsimp only; omega) (.slice vto vts.length vtc)))
                rw [← hV] at XX23
                have D23 := hid ((((D22.out.setOff (a := ⟨w2.heap.size, 0, none⟩) (by dsimp only; omega) (.int .i64 vnow)).setOff (a := ⟨w2.heap.size, 1, none⟩) (by dsimp only; omega) (.int .i64 vsq)).setOff (a := ⟨w2.heap.size, 2, none⟩) (by dsimp only; omega) (.slice vto vts.length vtc)))
                rw [← hV] at D23
                have E23 := hid ((((E22.out.setOff (a := ⟨w2.heap.size, 0, none⟩) (by dsimp only; omega) (.int .i64 vnow)).setOff (a := ⟨w2.heap.size, 1, none⟩) (by dsimp only; omega) (.int .i64 vsq)).setOff (a := ⟨w2.heap.size, 2, none⟩) (by dsimp only; omega) (.slice vto vts.length vtc)))
                rw [← hV] at E23
                have C23 := hid ((((C22.out.other (a := ⟨w2.heap.size, 0, none⟩) (by dsimp only; omega) (.int .i64 vnow)).other (a := ⟨w2.heap.size, 1, none⟩) (by dsimp only; omega) (.int .i64 vsq)).other (a := ⟨w2.heap.size, 2, none⟩) (by dsimp only; omega) (.slice vto vts.length vtc)))
                rw [← hV] at C23
                have hR23 : Grew p w w23 := by rw [hV]; exact (((hR22.set (a := ⟨w2.heap.size, 0, none⟩) (by dsimp only; omega) (.int .i64 vnow)).set (a := ⟨w2.heap.size, 1, none⟩) (by dsimp only; omega) (.int .i64 vsq)).set (a := ⟨w2.heap.size, 2, none⟩) (by dsimp only; omega) (.slice vto vts.length vtc))
                have hz23 : w22.heap.size ≤ w23.heap.size := by rw [hV]; simp
                have H23 := hid hV
                clear hV XR22 XA22 XX22 D22 E22 C22
                go_wp2
                clear r0 rf0 r1 rf1 r2 rf2 rz a0 af0 a1 af1 a2 af2 az x0 xf0 x1 xf1 x2 xf2 xz
                rw [← H23.out]
                clear H23
                have S2 := HS.out
                go_roundw
                case rel => exact ⟨j + 1, k20, sd20, vnow, vsq, vto, vtc, vts, by go_num, by omega, S2.2.1, hid ⟨by rw [S2.1]; exact HIR.out.1, S2.2.2⟩, by omega, XR23, XA23, hid (E23.out.wide (by omega) (by omega)), C23, hR23, by omega⟩
                case measure => simp [intOf] <;> omega
              · have hc1 : (cv == 0) = false := by simpa using hc
                have hc2 : decide (cv = 0) = false := by simpa using hc
                clear hc hS1
                obtain ⟨w22, hV⟩ : ∃ V, V = (((w21.setCell ⟨wr.heap.size, 0, none⟩ (.int .i64 vnow)).setCell ⟨wr.heap.size, 1, none⟩ (.int .i64 vsq)).setCell ⟨wr.heap.size, 2, none⟩ (.slice vto vts.length vtc)) := ⟨_, rfl⟩
                have XR22 := hid ((((XR21.out.other (a := ⟨wr.heap.size, 0, none⟩) (by dsimp only; omega) (.int .i64 vnow)).other (a := ⟨wr.heap.size, 1, none⟩) (by dsimp only; omega) (.int .i64 vsq)).other (a := ⟨wr.heap.size, 2, none⟩) (by dsimp only; omega) (.slice vto vts.length vtc)))
                rw [← hV] at XR22
                have XA22 := hid ((((XA21.out.other (a := ⟨wr.heap.size, 0, none⟩) (by dsimp only; omega) (.int .i64 vnow)).other (a := ⟨wr.heap.size, 1, none⟩) (by dsimp only; omega) (.int .i64 vsq)).other (a := ⟨wr.heap.size, 2, none⟩) (by dsimp only; omega) (.slice vto vts.length vtc)))
                rw [← hV] at XA22
                have XX22 := hid ((((XX21.out.set 0 (.int .i64 vnow)).set 1 (.int .i64 vsq)).set 2 (.slice vto vts.length vtc)))
                rw [← hV] at XX22
                have D22 := hid ((((D21.out.setOff (a := ⟨wr.heap.size, 0, none⟩) (by dsimp only; omega) (.int .i64 vnow)).setOff (a := ⟨wr.heap.size, 1, none⟩) (by dsimp only; omega) (.int .i64 vsq)).setOff (a := ⟨wr.heap.size, 2, none⟩) (by dsimp only; omega) (.slice vto vts.length vtc)))
                rw [← hV] at D22
                have C22 := hid ((((C21.out.other (a := ⟨wr.heap.size, 0, none⟩) (by dsimp only; omega) (.int .i64 vnow)).other (a := ⟨wr.heap.size, 1, none⟩) (by dsimp only; omega) (.int .i64 vsq)).other (a := ⟨wr.heap.size, 2, none⟩) (by dsimp only; omega) (.slice vto vts.length vtc)))
                rw [← hV] at C22
                have hR22 : Grew p w w22 := by rw [hV]; exact (((hR21.set (a := ⟨wr.heap.size, 0, none⟩) (by dsimp only; omega) (.int .i64 vnow)).set (a := ⟨wr.heap.size, 1, none⟩) (by dsimp only; omega) (.int .i64 vsq)).set (a := ⟨wr.heap.size, 2, none⟩) (by dsimp only; omega) (.slice vto vts.length vtc))
                have hz22 : w21.heap.size ≤ w22.heap.size := by rw [hV]; simp
                have H22 := hid hV
                clear hV XR21 XA21 XX21 D21 C21
                go_upto_region 18 with fail
                clear rg0 rh0 rg1 rh1 rg2 rh2 ag0 ah0 ag1 ah1 ag2 ah2 xg0 xh0 xg1 xh1 xg2 xh2
                rw [← H22.out]
                clear H22
                have r0 := XR22.out.c 0 rfl
                have rf0 := XR22.out.f 0 rfl
                have r1 := XR22.out.c 1 rfl
                have rf1 := XR22.out.f 1 rfl
                have r2 := XR22.out.c 2 rfl
                have rf2 := XR22.out.f 2 rfl
                have rz := XR22.out.size
                have a0 := XA22.out.c 0 rfl
                have af0 := XA22.out.f 0 rfl
                have a1 := XA22.out.c 1 rfl
                have af1 := XA22.out.f 1 rfl
                have a2 := XA22.out.c 2 rfl
                have af2 := XA22.out.f 2 rfl
                have az := XA22.out.size
                have x0 := XX22.out.c 0 rfl
                have xf0 := XX22.out.f 0 rfl
                have x1 := XX22.out.c 1 rfl
                have xf1 := XX22.out.f 1 rfl
                have x2 := XX22.out.c 2 rfl
                have xf2 := XX22.out.f 2 rfl
                have xz := XX22.out.size
                go_wp2
                clear r0 rf0 r1 rf1 r2 rf2 rz a0 af0 a1 af1 a2 af2 az x0 xf0 x1 xf1 x2 xf2 xz
                go_roundw
                case rel => exact ⟨j + 1, k20, sd20, now, sq, ta, tc, ts, by go_num, by omega, hts, HIR, by omega, XR22, XA22, hid (D22.out.wide (by omega) (by omega)), C22, hR22, by omega⟩
                case measure => simp [intOf] <;> omega
          · have r0 := XR19.out.c 0 rfl
            have rf0 := XR19.out.f 0 rfl
            have r1 := XR19.out.c 1 rfl
            have rf1 := XR19.out.f 1 rfl
            have r2 := XR19.out.c 2 rfl
            have rf2 := XR19.out.f 2 rfl
            have rz := XR19.out.size
            have a0 := XA19.out.c 0 rfl
            have af0 := XA19.out.f 0 rfl
            have a1 := XA19.out.c 1 rfl
            have af1 := XA19.out.f 1 rfl
            have a2 := XA19.out.c 2 rfl
            have af2 := XA19.out.f 2 rfl
            have az := XA19.out.size
            have x0 := XX19.out.c 0 rfl
            have xf0 := XX19.out.f 0 rfl
            have x1 := XX19.out.c 1 rfl
            have xf1 := XX19.out.f 1 rfl
            have x2 := XX19.out.c 2 rfl
            have xf2 := XX19.out.f 2 rfl
            have xz := XX19.out.size
            go_wp2
            have PD0 : w19.drew.cell? ⟨w2.heap.size, 0, none⟩ = some (.int .i64 now) := a0
            have PD1 : w19.drew.cell? ⟨w2.heap.size, 1, none⟩ = some (.int .i64 sq) := a1
            have PD2 : w19.drew.cell? ⟨w2.heap.size, 2, none⟩ = some (.slice ta ts.length tc) := a2
            go_region_law (first
                | (go_simp; go_at_call 20; have _g := hz21; refine (stepReset now sq ta tc ts z z2 w21 HIR.out.1 (by unfold Old.I64; omega) HIR.out.2 (by omega) D21.out).mono ?_; rintro e w22 ⟨⟨vnow, vsq, vto, vtc, vts, cv, rfl, hS1⟩, hy⟩; have hb : Below w21.heap.size w21 w22 := hy; have XR22 := hid (XR21.out.grew (Grew.of_below (p := p) hb) (by omega)); have XA22 := hid (XA21.out.grew (Grew.of_below (p := p) hb) (by omega)); have XX22 := hid (XX21.out.grew (Grew.of_below (p := p) hb) (by omega)); have D22 := hid (D21.out.grew (Grew.of_below (p := p) hb) (by omega)); have C22 := hid (C21.out.later hb); have hR22 : Grew p w w22 := hR21.trans (Grew.of_below (p := p) hb); have hz22 : w21.heap.size ≤ w22.heap.size := hb.size; have P22a := XA22.out.c 0 rfl; have P22b := XA22.out.c 1 rfl; have P22c := XA22.out.c 2 rfl; have rg0 := XR22.out.c 0 rfl; have rh0 := XR22.out.f 0 rfl; have rg1 := XR22.out.c 1 rfl; have rh1 := XR22.out.f 1 rfl; have rg2 := XR22.out.c 2 rfl; have rh2 := XR22.out.f 2 rfl; have ag0 := XA22.out.c 0 rfl; have ah0 := XA22.out.f 0 rfl; have ag1 := XA22.out.c 1 rfl; have ah1 := XA22.out.f 1 rfl; have ag2 := XA22.out.c 2 rfl; have ah2 := XA22.out.f 2 rfl; have xg0 := XX22.out.c 0 rfl; have xh0 := XX22.out.f 0 rfl; have xg1 := XX22.out.c 1 rfl; have xh1 := XX22.out.f 1 rfl; have xg2 := XX22.out.c 2 rfl; have xh2 := XX22.out.f 2 rfl; clear hy hb)
                | (go_simp; go_at_call 11; have _g := hz20; refine (pick_any 9 p co cap bs k20 sd20 w20 hl (by omega) C20.out).mono ?_; rintro e w21 ⟨⟨z2, rfl, h0z2, h1z2⟩, hD⟩; obtain ⟨k21, sd21, hk21, hC, hg0, hsz⟩ := hD.grew; have hg : Grew p w20 w21 := hg0; have XR21 := hid (XR20.out.grew hg (by omega)); have XA21 := hid (XA20.out.grew hg (by omega)); have XX21 := hid (XX20.out.grew hg (by omega)); have D21 := hid (D20.out.grew hg (by omega)); have C21 := hid hC; have hR21 : Grew p w w21 := hR20.trans hg; have hz21 : w20.heap.size ≤ w21.heap.size := hg.size; have P21a := XA21.out.c 0 rfl; have P21b := XA21.out.c 1 rfl; have P21c := XA21.out.c 2 rfl; clear hD hC hg0 hg hsz)
                | (go_simp; go_at_call 11; refine (pick_any 6 p co cap bs k19 sd19 w19.drew hl (by omega) C19.out.drew).mono ?_; rintro e w20 ⟨⟨z, rfl, h0z, h1z⟩, hD⟩; obtain ⟨k20, sd20, hk20, hC, hg0, hsz⟩ := hD.grew; have hg : Grew p w19 w20 := hg0.from; have XR20 := hid (XR19.out.grew hg (by omega)); have XA20 := hid (XA19.out.grew hg (by omega)); have XX20 := hid (XX19.out.grew hg (by omega)); have D20 := hid (D19.out.grew hg (by omega)); have C20 := hid hC; have hR20 : Grew p w w20 := hR19.trans hg; have hz20 : w19.heap.size ≤ w20.heap.size := hg.size; have P20a := XA20.out.c 0 rfl; have P20b := XA20.out.c 1 rfl; have P20c := XA20.out.c 2 rfl; clear hD hC hg0 hg hsz))
            all_goals
              by_cases hc : cv = 0
              · obtain ⟨hS, hE⟩ := hS1 hc
                have E22 := hid hE
                have HS := hid hS
                have hc1 : (cv == 0) = true := by simpa using hc
                have hc2 : decide (cv = 0) = true := by simpa using hc
                clear hc hS hE hS1
                obtain ⟨w23, hV⟩ : ∃ V, V = (((w22.setCell ⟨wr.heap.size, 0, none⟩ (.int .i64 vnow)).setCell ⟨wr.heap.size, 1, none⟩ (.int .i64 vsq)).setCell ⟨wr.heap.size, 2, none⟩ (.slice vto vts.length vtc)) := ⟨_, rfl⟩
                have XR23 := hid ((((XR22.out.other (a := ⟨wr.heap.size, 0, none⟩) (by dsimp only; omega) (.int .i64 vnow)).other (a := ⟨wr.heap.size, 1, none⟩) (by dsimp only; omega) (.int .i64 vsq)).other (a := ⟨wr.heap.size, 2, none⟩) (by dsimp only; omega) (.slice vto vts.length vtc)))
                rw [← hV] at XR23
                have XA23 := hid ((((XA22.out.other (a := ⟨wr.heap.size, 0, none⟩) (by dsimp only; omega) (.int .i64 vnow)).other (a := ⟨wr.heap.size, 1, none⟩) (by dsimp only; omega) (.int .i64 vsq)).other (a := ⟨wr.heap.size, 2, none⟩) (by dsimp only; omega) (.slice vto vts.length vtc)))
                rw [← hV] at XA23
                have XX23 := hid ((((XX22.out.set 0 (.int .i64 vnow)).set 1 (.int .i64 vsq)).set 2 (.slice vto vts.length vtc)))
                rw [← hV] at XX23
                have D23 := hid ((((D22.out.setOff (a := ⟨wr.heap.size, 0, none⟩) (by dsimp only; omega) (.int .i64 vnow)).setOff (a := ⟨wr.heap.size, 1, none⟩) (by dsimp only; omega) (.int .i64 vsq)).setOff (a := ⟨wr.heap.size, 2, none⟩) (by dsimp only; omega) (.slice vto vts.length vtc)))
                rw [← hV] at D23
                have E23 := hid ((((E22.out.setOff (a := ⟨wr.heap.size, 0, none⟩) (by dsimp only; omega) (.int .i64 vnow)).setOff (a := ⟨wr.heap.size, 1, none⟩) (by dsimp only; omega) (.int .i64 vsq)).setOff (a := ⟨wr.heap.size, 2, none⟩) (by dsimp only; omega) (.slice vto vts.length vtc)))
                rw [← hV] at E23
                have C23 := hid ((((C22.out.other (a := ⟨wr.heap.size, 0, none⟩) (by dsimp only; omega) (.int .i64 vnow)).other (a := ⟨wr.heap.size, 1, none⟩) (by dsimp only; omega) (.int .i64 vsq)).other (a := ⟨wr.heap.size, 2, none⟩) (by dsimp only; omega) (.slice vto vts.length vtc)))
                rw [← hV] at C23
                have hR23 : Grew p w w23 := by rw [hV]; exact (((hR22.set (a := ⟨wr.heap.size, 0, none⟩) (by dsimp only; omega) (.int .i64 vnow)).set (a := ⟨wr.heap.size, 1, none⟩) (by dsimp only; omega) (.int .i64 vsq)).set (a := ⟨wr.heap.size, 2, none⟩) (by dsimp only; omega) (.slice vto vts.length vtc))
                have hz23 : w22.heap.size ≤ w23.heap.size := by rw [hV]; simp
                have H23 := hid hV
                clear hV XR22 XA22 XX22 D22 E22 C22
                go_upto_region 18 with fail
                clear rg0 rh0 rg1 rh1 rg2 rh2 ag0 ah0 ag1 ah1 ag2 ah2 xg0 xh0 xg1 xh1 xg2 xh2
                rw [← H23.out]
                clear H23
                have r0 := XR23.out.c 0 rfl
                have rf0 := XR23.out.f 0 rfl
                have r1 := XR23.out.c 1 rfl
                have rf1 := XR23.out.f 1 rfl
                have r2 := XR23.out.c 2 rfl
                have rf2 := XR23.out.f 2 rfl
                have rz := XR23.out.size
                have a0 := XA23.out.c 0 rfl
                have af0 := XA23.out.f 0 rfl
                have a1 := XA23.out.c 1 rfl
                have af1 := XA23.out.f 1 rfl
                have a2 := XA23.out.c 2 rfl
                have af2 := XA23.out.f 2 rfl
                have az := XA23.out.size
                have x0 := XX23.out.c 0 rfl
                have xf0 := XX23.out.f 0 rfl
                have x1 := XX23.out.c 1 rfl
                have xf1 := XX23.out.f 1 rfl
                have x2 := XX23.out.c 2 rfl
                have xf2 := XX23.out.f 2 rfl
                have xz := XX23.out.size
                obtain ⟨w24, hV⟩ : ∃ V, V = (((w23.setCell ⟨w2.heap.size, 0, none⟩ (.int .i64 vnow)).setCell ⟨w2.heap.size, 1, none⟩ (.int .i64 vsq)).setCell ⟨w2.heap.size, 2, none⟩ (.slice vto vts.length vtc)) := ⟨_, rfl⟩
                have XR24 := hid ((((XR23.out.other (a := ⟨w2.heap.size, 0, none⟩) (by dsimp only; omega) (.int .i64 vnow)).other (a := ⟨w2.heap.size, 1, none⟩) (by dsimp only; omega) (.int .i64 vsq)).other (a := ⟨w2.heap.size, 2, none⟩) (by dsimp only; omega) (.slice vto vts.length vtc)))
                rw [← hV] at XR24
                have XA24 := hid ((((XA23.out.set 0 (.int .i64 vnow)).set 1 (.int .i64 vsq)).set 2 (.slice vto vts.length vtc)))
                rw [← hV] at XA24
                have XX24 := hid ((((XX23.out.other (a := ⟨w2.heap.size, 0, none⟩) (by dsimp only; omega) (.int .i64 vnow)).other (a := ⟨w2.heap.size, 1, none⟩) (by dsimp only; omega) (.int .i64 vsq)).other (a := ⟨w2.heap.size, 2, none⟩) (by dsimp only; omega) (.slice vto vts.length vtc)))
                rw [← hV] at XX24
                have D24 := hid ((((D23.out.setOff (a := ⟨w2.heap.size, 0, none⟩) (by dsimp only; omega) (.int .i64 vnow)).setOff (a := ⟨w2.heap.size, 1, none⟩) (by dsimp only; omega) (.int .i64 vsq)).setOff (a := ⟨w2.heap.size, 2, none⟩) (by dsimp only; omega) (.slice vto vts.length vtc)))
                rw [← hV] at D24
                have E24 := hid ((((E23.out.setOff (a := ⟨w2.heap.size, 0, none⟩) (by dsimp only; omega) (.int .i64 vnow)).setOff (a := ⟨w2.heap.size, 1, none⟩) (by dsimp only; omega) (.int .i64 vsq)).setOff (a := ⟨w2.heap.size, 2, none⟩) (by dsimp only; omega) (.slice vto vts.length vtc)))
                rw [← hV] at E24
                have C24 := hid ((((C23.out.other (a := ⟨w2.heap.size, 0, none⟩) (by dsimp only; omega) (.int .i64 vnow)).other (a := ⟨w2.heap.size, 1, none⟩) (by dsimp only; omega) (.int .i64 vsq)).other (a := ⟨w2.heap.size, 2, none⟩) (by dsimp only; omega) (.slice vto vts.length vtc)))
                rw [← hV] at C24
                have hR24 : Grew p w w24 := by rw [hV]; exact (((hR23.set (a := ⟨w2.heap.size, 0, none⟩) (by dsimp only; omega) (.int .i64 vnow)).set (a := ⟨w2.heap.size, 1, none⟩) (by dsimp only; omega) (.int .i64 vsq)).set (a := ⟨w2.heap.size, 2, none⟩) (by dsimp only; omega) (.slice vto vts.length vtc))
                have hz24 : w23.heap.size ≤ w24.heap.size := by rw [hV]; simp
                have H24 := hid hV
                clear hV XR23 XA23 XX23 D23 E23 C23
                go_wp2
                clear r0 rf0 r1 rf1 r2 rf2 rz a0 af0 a1 af1 a2 af2 az x0 xf0 x1 xf1 x2 xf2 xz
                rw [← H24.out]
                clear H24
                have S2 := HS.out
                go_roundw
                case rel => exact ⟨j + 1, k21, sd21, vnow, vsq, vto, vtc, vts, by go_num, by omega, S2.2.1, hid ⟨by rw [S2.1]; exact HIR.out.1, S2.2.2⟩, by omega, XR24, XA24, hid (E24.out.wide (by omega) (by omega)), C24, hR24, by omega⟩
                case measure => simp [intOf] <;> omega
              · have hc1 : (cv == 0) = false := by simpa using hc
                have hc2 : decide (cv = 0) = false := by simpa using hc
                clear hc hS1
                obtain ⟨w23, hV⟩ : ∃ V, V = (((w22.setCell ⟨wr.heap.size, 0, none⟩ (.int .i64 vnow)).setCell ⟨wr.heap.size, 1, none⟩ (.int .i64 vsq)).setCell ⟨wr.heap.size, 2, none⟩ (.slice vto vts.length vtc)) := ⟨_, rfl⟩
                have XR23 := hid ((((XR22.out.other (a := ⟨wr.heap.size, 0, none⟩) (by dsimp only; omega) (.int .i64 vnow)).other (a := ⟨wr.heap.size, 1, none⟩) (by dsimp only; omega) (.int .i64 vsq)).other (a := ⟨wr.heap.size, 2, none⟩) (by dsimp only; omega) (.slice vto vts.length vtc)))
                rw [← hV] at XR23
                have XA23 := hid ((((XA22.out.other (a := ⟨wr.heap.size, 0, none⟩) (by dsimp only; omega) (.int .i64 vnow)).other (a := ⟨wr.heap.size, 1, none⟩) (by dsimp only; omega) (.int .i64 vsq)).other (a := ⟨wr.heap.size, 2, none⟩) (by dsimp only; omega) (.slice vto vts.length vtc)))
                rw [← hV] at XA23
                have XX23 := hid ((((XX22.out.set 0 (.int .i64 vnow)).set 1 (.int .i64 vsq)).set 2 (.slice vto vts.length vtc)))
                rw [← hV] at XX23
                have D23 := hid ((((D22.out.setOff (a := ⟨wr.heap.size, 0, none⟩) (by dsimp only; omega) (.int .i64 vnow)).setOff (a := ⟨wr.heap.size, 1, none⟩) (by dsimp only; omega) (.int .i64 vsq)).setOff (a := ⟨wr.heap.size, 2, none⟩) (by dsimp only; omega) (.slice vto vts.length vtc)))
                rw [← hV] at D23
                have C23 := hid ((((C22.out.other (a := ⟨wr.heap.size, 0, none⟩) (by dsimp only; omega) (.int .i64 vnow)).other (a := ⟨wr.heap.size, 1, none⟩) (by dsimp only; omega) (.int .i64 vsq)).other (a := ⟨wr.heap.size, 2, none⟩) (by dsimp only; omega) (.slice vto vts.length vtc)))
                rw [← hV] at C23
                have hR23 : Grew p w w23 := by rw [hV]; exact (((hR22.set (a := ⟨wr.heap.size, 0, none⟩) (by dsimp only; omega) (.int .i64 vnow)).set (a := ⟨wr.heap.size, 1, none⟩) (by dsimp only; omega) (.int .i64 vsq)).set (a := ⟨wr.heap.size, 2, none⟩) (by dsimp only; omega) (.slice vto vts.length vtc))
                have hz23 : w22.heap.size ≤ w23.heap.size := by rw [hV]; simp
                have H23 := hid hV
                clear hV XR22 XA22 XX22 D22 C22
                go_upto_region 18 with fail
                clear rg0 rh0 rg1 rh1 rg2 rh2 ag0 ah0 ag1 ah1 ag2 ah2 xg0 xh0 xg1 xh1 xg2 xh2
                rw [← H23.out]
                clear H23
                have r0 := XR23.out.c 0 rfl
                have rf0 := XR23.out.f 0 rfl
                have r1 := XR23.out.c 1 rfl
                have rf1 := XR23.out.f 1 rfl
                have r2 := XR23.out.c 2 rfl
                have rf2 := XR23.out.f 2 rfl
                have rz := XR23.out.size
                have a0 := XA23.out.c 0 rfl
                have af0 := XA23.out.f 0 rfl
                have a1 := XA23.out.c 1 rfl
                have af1 := XA23.out.f 1 rfl
                have a2 := XA23.out.c 2 rfl
                have af2 := XA23.out.f 2 rfl
                have az := XA23.out.size
                have x0 := XX23.out.c 0 rfl
                have xf0 := XX23.out.f 0 rfl
                have x1 := XX23.out.c 1 rfl
                have xf1 := XX23.out.f 1 rfl
                have x2 := XX23.out.c 2 rfl
                have xf2 := XX23.out.f 2 rfl
                have xz := XX23.out.size
                go_wp2
                clear r0 rf0 r1 rf1 r2 rf2 rz a0 af0 a1 af1 a2 af2 az x0 xf0 x1 xf1 x2 xf2 xz
                go_roundw
                case rel => exact ⟨j + 1, k21, sd21, now, sq, ta, tc, ts, by go_num, by omega, hts, HIR, by omega, XR23, XA23, hid (D23.out.wide (by omega) (by omega)), C23, hR23, by omega⟩
                case measure => simp [intOf] <;> omega
          · have e0 : (y == 0) = false := by simpa using y0
            have e1 : (y == 1) = false := by simpa using y1
            have r0 := XR19.out.c 0 rfl
            have rf0 := XR19.out.f 0 rfl
            have r1 := XR19.out.c 1 rfl
            have rf1 := XR19.out.f 1 rfl
            have r2 := XR19.out.c 2 rfl
            have rf2 := XR19.out.f 2 rfl
            have rz := XR19.out.size
            have a0 := XA19.out.c 0 rfl
            have af0 := XA19.out.f 0 rfl
            have a1 := XA19.out.c 1 rfl
            have af1 := XA19.out.f 1 rfl
            have a2 := XA19.out.c 2 rfl
            have af2 := XA19.out.f 2 rfl
            have az := XA19.out.size
            have x0 := XX19.out.c 0 rfl
            have xf0 := XX19.out.f 0 rfl
            have x1 := XX19.out.c 1 rfl
            have xf1 := XX19.out.f 1 rfl
            have x2 := XX19.out.c 2 rfl
            have xf2 := XX19.out.f 2 rfl
            have xz := XX19.out.size
            go_wp2
            have PD0 : w19.drew.cell? ⟨w2.heap.size, 0, none⟩ = some (.int .i64 now) := a0
            have PD1 : w19.drew.cell? ⟨w2.heap.size, 1, none⟩ = some (.int .i64 sq) := a1
            have PD2 : w19.drew.cell? ⟨w2.heap.size, 2, none⟩ = some (.slice ta ts.length tc) := a2
            go_region_law (first
                | (go_simp; go_at_call 21; have _g := hz21; refine (stepArm now sq ta tc ts _ z2 w21 HIR.out.1 (by unfold Old.I64; omega) HIR.out.2 (by omega) D21.out).mono ?_; rintro e w22 ⟨⟨vnow, vsq, vto, vtc, vts, cv, rfl, hS1⟩, hy⟩; have hb : Below w21.heap.size w21 w22 := hy; have XR22 := hid (XR21.out.grew (Grew.of_below (p := p) hb) (by omega)); have XA22 := hid (XA21.out.grew (Grew.of_below (p := p) hb) (by omega)); have XX22 := hid (XX21.out.grew (Grew.of_below (p := p) hb) (by omega)); have D22 := hid (D21.out.grew (Grew.of_below (p := p) hb) (by omega)); have C22 := hid (C21.out.later hb); have hR22 : Grew p w w22 := hR21.trans (Grew.of_below (p := p) hb); have hz22 : w21.heap.size ≤ w22.heap.size := hb.size; have P22a := XA22.out.c 0 rfl; have P22b := XA22.out.c 1 rfl; have P22c := XA22.out.c 2 rfl; have rg0 := XR22.out.c 0 rfl; have rh0 := XR22.out.f 0 rfl; have rg1 := XR22.out.c 1 rfl; have rh1 := XR22.out.f 1 rfl; have rg2 := XR22.out.c 2 rfl; have rh2 := XR22.out.f 2 rfl; have ag0 := XA22.out.c 0 rfl; have ah0 := XA22.out.f 0 rfl; have ag1 := XA22.out.c 1 rfl; have ah1 := XA22.out.f 1 rfl; have ag2 := XA22.out.c 2 rfl; have ah2 := XA22.out.f 2 rfl; have xg0 := XX22.out.c 0 rfl; have xh0 := XX22.out.f 0 rfl; have xg1 := XX22.out.c 1 rfl; have xh1 := XX22.out.f 1 rfl; have xg2 := XX22.out.c 2 rfl; have xh2 := XX22.out.f 2 rfl; clear hy hb)
                | (go_simp; go_at_call 11; have _g := hz20; refine (pick_any 9 p co cap bs k20 sd20 w20 hl (by omega) C20.out).mono ?_; rintro e w21 ⟨⟨z2, rfl, h0z2, h1z2⟩, hD⟩; obtain ⟨k21, sd21, hk21, hC, hg0, hsz⟩ := hD.grew; have hg : Grew p w20 w21 := hg0; have XR21 := hid (XR20.out.grew hg (by omega)); have XA21 := hid (XA20.out.grew hg (by omega)); have XX21 := hid (XX20.out.grew hg (by omega)); have D21 := hid (D20.out.grew hg (by omega)); have C21 := hid hC; have hR21 : Grew p w w21 := hR20.trans hg; have hz21 : w20.heap.size ≤ w21.heap.size := hg.size; have P21a := XA21.out.c 0 rfl; have P21b := XA21.out.c 1 rfl; have P21c := XA21.out.c 2 rfl; clear hD hC hg0 hg hsz)
                | (go_simp; go_at_call 11; refine (pick_any 6 p co cap bs k19 sd19 w19.drew hl (by omega) C19.out.drew).mono ?_; rintro e w20 ⟨⟨z, rfl, h0z, h1z⟩, hD⟩; obtain ⟨k20, sd20, hk20, hC, hg0, hsz⟩ := hD.grew; have hg : Grew p w19 w20 := hg0.from; have XR20 := hid (XR19.out.grew hg (by omega)); have XA20 := hid (XA19.out.grew hg (by omega)); have XX20 := hid (XX19.out.grew hg (by omega)); have D20 := hid (D19.out.grew hg (by omega)); have C20 := hid hC; have hR20 : Grew p w w20 := hR19.trans hg; have hz20 : w19.heap.size ≤ w20.heap.size := hg.size; have P20a := XA20.out.c 0 rfl; have P20b := XA20.out.c 1 rfl; have P20c := XA20.out.c 2 rfl; clear hD hC hg0 hg hsz))
            all_goals
              by_cases hc : cv = 0
              · obtain ⟨hS, hE⟩ := hS1 hc
                have E22 := hid hE
                have HS := hid hS
                have hc1 : (cv == 0) = true := by simpa using hc
                have hc2 : decide (cv = 0) = true := by simpa using hc
                clear hc hS hE hS1
                obtain ⟨w23, hV⟩ : ∃ V, V = (((w22.setCell ⟨wr.heap.size, 0, none⟩ (.int .i64 vnow)).setCell ⟨wr.heap.size, 1, none⟩ (.int .i64 vsq)).setCell ⟨wr.heap.size, 2, none⟩ (.slice vto vts.length vtc)) := ⟨_, rfl⟩
                have XR23 := hid ((((XR22.out.other (a := ⟨wr.heap.size, 0, none⟩) (by dsimp only; omega) (.int .i64 vnow)).other (a := ⟨wr.heap.size, 1, none⟩) (by dsimp only; omega) (.int .i64 vsq)).other (a := ⟨wr.heap.size, 2, none⟩) (by dsimp only; omega) (.slice vto vts.length vtc)))
                rw [← hV] at XR23
                have XA23 := hid ((((XA22.out.other (a := ⟨wr.heap.size, 0, none⟩) (by dsimp only; omega) (.int .i64 vnow)).other (a := ⟨wr.heap.size, 1, none⟩) (by dsimp only; omega) (.int .i64 vsq)).other (a := ⟨wr.heap.size, 2, none⟩) (by dsimp only; omega) (.slice vto vts.length vtc)))
                rw [← hV] at XA23
                have XX23 := hid ((((XX22.out.set 0 (.int .i64 vnow)).set 1 (.int .i64 vsq)).set 2 (.slice vto vts.length vtc)))
                rw [← hV] at XX23
                have D23 := hid ((((D22.out.setOff (a := ⟨wr.heap.size, 0, none⟩) (by dsimp only; omega) (.int .i64 vnow)).setOff (a := ⟨wr.heap.size, 1, none⟩) (by dsimp only; omega) (.int .i64 vsq)).setOff (a := ⟨wr.heap.size, 2, none⟩) (by dsimp only; omega) (.slice vto vts.length vtc)))
                rw [← hV] at D23
                have E23 := hid ((((E22.out.setOff (a := ⟨wr.heap.size, 0, none⟩) (by dsimp only; omega) (.int .i64 vnow)).setOff (a := ⟨wr.heap.size, 1, none⟩) (by dsimp only; omega) (.int .i64 vsq)).setOff (a := ⟨wr.heap.size, 2, none⟩) (by dsimp only; omega) (.slice vto vts.length vtc)))
                rw [← hV] at E23
                have C23 := hid ((((C22.out.other (a := ⟨wr.heap.size, 0, none⟩) (by dsimp only; omega) (.int .i64 vnow)).other (a := ⟨wr.heap.size, 1, none⟩) (by dsimp only; omega) (.int .i64 vsq)).other (a := ⟨wr.heap.size, 2, none⟩) (by dsimp only; omega) (.slice vto vts.length vtc)))
                rw [← hV] at C23
                have hR23 : Grew p w w23 := by rw [hV]; exact (((hR22.set (a := ⟨wr.heap.size, 0, none⟩) (by dsimp only; omega) (.int .i64 vnow)).set (a := ⟨wr.heap.size, 1, none⟩) (by dsimp only; omega) (.int .i64 vsq)).set (a := ⟨wr.heap.size, 2, none⟩) (by dsimp only; omega) (.slice vto vts.length vtc))
                have hz23 : w22.heap.size ≤ w23.heap.size := by rw [hV]; simp
                have H23 := hid hV
                clear hV XR22 XA22 XX22 D22 E22 C22
                go_upto_region 18 with fail
                clear rg0 rh0 rg1 rh1 rg2 rh2 ag0 ah0 ag1 ah1 ag2 ah2 xg0 xh0 xg1 xh1 xg2 xh2
                rw [← H23.out]
                clear H23
                have r0 := XR23.out.c 0 rfl
                have rf0 := XR23.out.f 0 rfl
                have r1 := XR23.out.c 1 rfl
                have rf1 := XR23.out.f 1 rfl
                have r2 := XR23.out.c 2 rfl
                have rf2 := XR23.out.f 2 rfl
                have rz := XR23.out.size
                have a0 := XA23.out.c 0 rfl
                have af0 := XA23.out.f 0 rfl
                have a1 := XA23.out.c 1 rfl
                have af1 := XA23.out.f 1 rfl
                have a2 := XA23.out.c 2 rfl
                have af2 := XA23.out.f 2 rfl
                have az := XA23.out.size
                have x0 := XX23.out.c 0 rfl
                have xf0 := XX23.out.f 0 rfl
                have x1 := XX23.out.c 1 rfl
                have xf1 := XX23.out.f 1 rfl
                have x2 := XX23.out.c 2 rfl
                have xf2 := XX23.out.f 2 rfl
                have xz := XX23.out.size
                obtain ⟨w24, hV⟩ : ∃ V, V = (((w23.setCell ⟨w2.heap.size, 0, none⟩ (.int .i64 vnow)).setCell ⟨w2.heap.size, 1, none⟩ (.int .i64 vsq)).setCell ⟨w2.heap.size, 2, none⟩ (.slice vto vts.length vtc)) := ⟨_, rfl⟩
                have XR24 := hid ((((XR23.out.other (a := ⟨w2.heap.size, 0, none⟩) (by dsimp only; omega) (.int .i64 vnow)).other (a := ⟨w2.heap.size, 1, none⟩) (by dsimp only; omega) (.int .i64 vsq)).other (a := ⟨w2.heap.size, 2, none⟩) (by dsimp only; omega) (.slice vto vts.length vtc)))
                rw [← hV] at XR24
                have XA24 := hid ((((XA23.out.set 0 (.int .i64 vnow)).set 1 (.int .i64 vsq)).set 2 (.slice vto vts.length vtc)))
                rw [← hV] at XA24
                have XX24 := hid ((((XX23.out.other (a := ⟨w2.heap.size, 0, none⟩) (by dsimp only; omega) (.int .i64 vnow)).other (a := ⟨w2.heap.size, 1, none⟩) (by dsimp only; omega) (.int .i64 vsq)).other (a := ⟨w2.heap.size, 2, none⟩) (by dsimp only; omega) (.slice vto vts.length vtc)))
                rw [← hV] at XX24
                have D24 := hid ((((D23.out.setOff (a := ⟨w2.heap.size, 0, none⟩) (by dsimp only; omega) (.int .i64 vnow)).setOff (a := ⟨w2.heap.size, 1, none⟩) (by dsimp only; omega) (.int .i64 vsq)).setOff (a := ⟨w2.heap.size, 2, none⟩) (by dsimp only; omega) (.slice vto vts.length vtc)))
                rw [← hV] at D24
                have E24 := hid ((((E23.out.setOff (a := ⟨w2.heap.size, 0, none⟩) (by dsimp only; omega) (.int .i64 vnow)).setOff (a := ⟨w2.heap.size, 1, none⟩) (by dsimp only; omega) (.int .i64 vsq)).setOff (a := ⟨w2.heap.size, 2, none⟩) (by dsimp only; omega) (.slice vto vts.length vtc)))
                rw [← hV] at E24
                have C24 := hid ((((C23.out.other (a := ⟨w2.heap.size, 0, none⟩) (by dsimp only; omega) (.int .i64 vnow)).other (a := ⟨w2.heap.size, 1, none⟩) (by dsimp only; omega) (.int .i64 vsq)).other (a := ⟨w2.heap.size, 2, none⟩) (by dsimp only; omega) (.slice vto vts.length vtc)))
                rw [← hV] at C24
                have hR24 : Grew p w w24 := by rw [hV]; exact (((hR23.set (a := ⟨w2.heap.size, 0, none⟩) (by dsimp only; omega) (.int .i64 vnow)).set (a := ⟨w2.heap.size, 1, none⟩) (by dsimp only; omega) (.int .i64 vsq)).set (a := ⟨w2.heap.size, 2, none⟩) (by dsimp only; omega) (.slice vto vts.length vtc))
                have hz24 : w23.heap.size ≤ w24.heap.size := by rw [hV]; simp
                have H24 := hid hV
                clear hV XR23 XA23 XX23 D23 E23 C23
                go_wp2
                clear r0 rf0 r1 rf1 r2 rf2 rz a0 af0 a1 af1 a2 af2 az x0 xf0 x1 xf1 x2 xf2 xz
                rw [← H24.out]
                clear H24
                have S2 := HS.out
                go_roundw
                case rel => exact ⟨j + 1, k21, sd21, vnow, vsq, vto, vtc, vts, by go_num, by omega, S2.2.1, hid ⟨by rw [S2.1]; exact HIR.out.1, S2.2.2⟩, by omega, XR24, XA24, hid (E24.out.wide (by omega) (by omega)), C24, hR24, by omega⟩
                case measure => simp [intOf] <;> omega
              · have hc1 : (cv == 0) = false := by simpa using hc
                have hc2 : decide (cv = 0) = false := by simpa using hc
                clear hc hS1
                obtain ⟨w23, hV⟩ : ∃ V, V = (((w22.setCell ⟨wr.heap.size, 0, none⟩ (.int .i64 vnow)).setCell ⟨wr.heap.size, 1, none⟩ (.int .i64 vsq)).setCell ⟨wr.heap.size, 2, none⟩ (.slice vto vts.length vtc)) := ⟨_, rfl⟩
                have XR23 := hid ((((XR22.out.other (a := ⟨wr.heap.size, 0, none⟩) (by dsimp only; omega) (.int .i64 vnow)).other (a := ⟨wr.heap.size, 1, none⟩) (by dsimp only; omega) (.int .i64 vsq)).other (a := ⟨wr.heap.size, 2, none⟩) (by dsimp only; omega) (.slice vto vts.length vtc)))
                rw [← hV] at XR23
                have XA23 := hid ((((XA22.out.other (a := ⟨wr.heap.size, 0, none⟩) (by dsimp only; omega) (.int .i64 vnow)).other (a := ⟨wr.heap.size, 1, none⟩) (by dsimp only; omega) (.int .i64 vsq)).other (a := ⟨wr.heap.size, 2, none⟩) (by dsimp only; omega) (.slice vto vts.length vtc)))
                rw [← hV] at XA23
                have XX23 := hid ((((XX22.out.set 0 (.int .i64 vnow)).set 1 (.int .i64 vsq)).set 2 (.slice vto vts.length vtc)))
                rw [← hV] at XX23
                have D23 := hid ((((D22.out.setOff (a := ⟨wr.heap.size, 0, none⟩) (by dsimp only; omega) (.int .i64 vnow)).setOff (a := ⟨wr.heap.size, 1, none⟩) (by dsimp only; omega) (.int .i64 vsq)).setOff (a := ⟨wr.heap.size, 2, none⟩) (by dsimp only; omega) (.slice vto vts.length vtc)))
                rw [← hV] at D23
                have C23 := hid ((((C22.out.other (a := ⟨wr.heap.size, 0, none⟩) (by dsimp only; omega) (.int .i64 vnow)).other (a := ⟨wr.heap.size, 1, none⟩) (by dsimp only; omega) (.int .i64 vsq)).other (a := ⟨wr.heap.size, 2, none⟩) (by dsimp only; omega) (.slice vto vts.length vtc)))
                rw [← hV] at C23
                have hR23 : Grew p w w23 := by rw [hV]; exact (((hR22.set (a := ⟨wr.heap.size, 0, none⟩) (by dsimp only; omega) (.int .i64 vnow)).set (a := ⟨wr.heap.size, 1, none⟩) (by dsimp only; omega) (.int .i64 vsq)).set (a := ⟨wr.heap.size, 2, none⟩) (by dsimp only; omega) (.slice vto vts.length vtc))
                have hz23 : w22.heap.size ≤ w23.heap.size := by rw [hV]; simp
                have H23 := hid hV
                clear hV XR22 XA22 XX22 D22 C22
                go_upto_region 18 with fail
                clear rg0 rh0 rg1 rh1 rg2 rh2 ag0 ah0 ag1 ah1 ag2 ah2 xg0 xh0 xg1 xh1 xg2 xh2
                rw [← H23.out]
                clear H23
                have r0 := XR23.out.c 0 rfl
                have rf0 := XR23.out.f 0 rfl
                have r1 := XR23.out.c 1 rfl
                have rf1 := XR23.out.f 1 rfl
                have r2 := XR23.out.c 2 rfl
                have rf2 := XR23.out.f 2 rfl
                have rz := XR23.out.size
                have a0 := XA23.out.c 0 rfl
                have af0 := XA23.out.f 0 rfl
                have a1 := XA23.out.c 1 rfl
                have af1 := XA23.out.f 1 rfl
                have a2 := XA23.out.c 2 rfl
                have af2 := XA23.out.f 2 rfl
                have az := XA23.out.size
                have x0 := XX23.out.c 0 rfl
                have xf0 := XX23.out.f 0 rfl
                have x1 := XX23.out.c 1 rfl
                have xf1 := XX23.out.f 1 rfl
                have x2 := XX23.out.c 2 rfl
                have xf2 := XX23.out.f 2 rfl
                have xz := XX23.out.size
                go_wp2
                clear r0 rf0 r1 rf1 r2 rf2 rz a0 af0 a1 af1 a2 af2 az x0 xf0 x1 xf1 x2 xf2 xz
                go_roundw
                case rel => exact ⟨j + 1, k21, sd21, now, sq, ta, tc, ts, by go_num, by omega, hts, HIR, by omega, XR23, XA23, hid (D23.out.wide (by omega) (by omega)), C23, hR23, by omega⟩
                case measure => simp [intOf] <;> omega
        · have hm1 : decide ((j : Int) < (m : Int)) = false := by simp <;> omega
          have r0 := XR17.out.c 0 rfl
          have rf0 := XR17.out.f 0 rfl
          have r1 := XR17.out.c 1 rfl
          have rf1 := XR17.out.f 1 rfl
          have r2 := XR17.out.c 2 rfl
          have rf2 := XR17.out.f 2 rfl
          have rz := XR17.out.size
          have a0 := XA17.out.c 0 rfl
          have af0 := XA17.out.f 0 rfl
          have a1 := XA17.out.c 1 rfl
          have af1 := XA17.out.f 1 rfl
          have a2 := XA17.out.c 2 rfl
          have af2 := XA17.out.f 2 rfl
          have az := XA17.out.size
          go_wp2_with fail
          clear r0 rf0 r1 rf1 r2 rf2 rz a0 af0 a1 af1 a2 af2 az
          refine (pick_any 40 p co cap bs k1 sd1 wr hl (by omega) C17.out).mono ?_
          rintro e w18 ⟨⟨y, rfl, h0y, h1y⟩, hD⟩
          obtain ⟨k18, sd18, hk18, hC18, hg18, hsz18⟩ := hD.grew
          have XR18 := hid (XR17.out.grew hg18 (by omega))
          have XA18 := hid (XA17.out.grew hg18 (by omega))
          have D18 := hid (D17.out.grew hg18 (by omega))
          have C18 := hid hC18
          have hR18 : Grew p w w18 := hR17.trans hg18
          have hz18 : wr.heap.size ≤ w18.heap.size := hg18.size
          clear XR17 XA17 D17 C17 hD hg18 hC18 hsz18
          have hy4 : y = 0 ∨ y = 1 ∨ y = 2 ∨ (y ≠ 0 ∧ y ≠ 1 ∧ y ≠ 2) := by omega
          clear h0y h1y
          rcases hy4 with rfl | rfl | rfl | ⟨y0, y1, y2⟩
          · have r0 := XR18.out.c 0 rfl
            have rf0 := XR18.out.f 0 rfl
            have r1 := XR18.out.c 1 rfl
            have rf1 := XR18.out.f 1 rfl
            have r2 := XR18.out.c 2 rfl
            have rf2 := XR18.out.f 2 rfl
            have rz := XR18.out.size
            have a0 := XA18.out.c 0 rfl
            have af0 := XA18.out.f 0 rfl
            have a1 := XA18.out.c 1 rfl
            have af1 := XA18.out.f 1 rfl
            have a2 := XA18.out.c 2 rfl
            have af2 := XA18.out.f 2 rfl
            have az := XA18.out.size
            obtain ⟨w19, hV⟩ : ∃ V, V = w18.alloc (.cells #[.int .i64 0, .int .i64 1000000, .int .i64 1000001] 3) := ⟨_, rfl⟩
            have XR19 := hid (XR18.out.alloc (.cells #[.int .i64 0, .int .i64 1000000, .int .i64 1000001] 3))
            rw [← hV] at XR19
            have XA19 := hid (XA18.out.alloc (.cells #[.int .i64 0, .int .i64 1000000, .int .i64 1000001] 3))
            rw [← hV] at XA19
            have D19 := hid (D18.out.later (below1 w18 (.cells #[.int .i64 0, .int .i64 1000000, .int .i64 1000001] 3)))
            rw [← hV] at D19
            have C19 := hid (C18.out.later (below1 w18 (.cells #[.int .i64 0, .int .i64 1000000, .int .i64 1000001] 3)))
            rw [← hV] at C19
            have hR19 : Grew p w w19 := by rw [hV]; exact hR18.trans (Grew.alloc p _ _)
            have hz19 : w18.heap.size ≤ w19.heap.size := by rw [hV]; simp
            have H19 := hid hV
            clear hV XR18 XA18 D18 C18
            have XU19 : Hid (Bx w19 w18.heap.size [.int .i64 0, .int .i64 1000000, .int .i64 1000001]) := by rw [H19.out]; exact Bx.new [.int .i64 0, .int .i64 1000000, .int .i64 1000001] _ rfl
            have hy19 : w18.heap.size < w19.heap.size := XU19.out.size
            go_wp2_with fail
            clear r0 rf0 r1 rf1 r2 rf2 rz a0 af0 a1 af1 a2 af2 az
            rw [← H19.out]
            clear H19
            refine (among_in [0, 1000000, 1000001] w18.heap.size p co cap bs k18 sd18 w19 hl (by omega) C19.out (by simp) (by simp) XU19.out (by omega)).mono ?_
            rintro e w20 ⟨⟨z, hmz, rfl⟩, hD⟩
            obtain ⟨k20, sd20, hk20, hC20, hg20, hsz20⟩ := hD.grew
            have XR20 := hid (XR19.out.grew hg20 (by omega))
            have XA20 := hid (XA19.out.grew hg20 (by omega))
            have XU20 := hid (XU19.out.grew hg20 (by omega))
            have D20 := hid (D19.out.grew hg20 (by omega))
            have C20 := hid hC20
            have hR20 : Grew p w w20 := hR19.trans hg20
            have hz20 : w19.heap.size ≤ w20.heap.size := hg20.size
            clear XR19 XA19 XU19 D19 C19 hD hg20 hC20 hsz20
            have hz3 : z = 0 ∨ z = 1000000 ∨ z = 1000001 := by simpa using hmz
            clear hmz
            have r0 := XR20.out.c 0 rfl
            have rf0 := XR20.out.f 0 rfl
            have r1 := XR20.out.c 1 rfl
            have rf1 := XR20.out.f 1 rfl
            have r2 := XR20.out.c 2 rfl
            have rf2 := XR20.out.f 2 rfl
            have rz := XR20.out.size
            have a0 := XA20.out.c 0 rfl
            have af0 := XA20.out.f 0 rfl
            have a1 := XA20.out.c 1 rfl
            have af1 := XA20.out.f 1 rfl
            have a2 := XA20.out.c 2 rfl
            have af2 := XA20.out.f 2 rfl
            have az := XA20.out.size
            have u0 := XU20.out.c 0 rfl
            have uf0 := XU20.out.f 0 rfl
            have u1 := XU20.out.c 1 rfl
            have uf1 := XU20.out.f 1 rfl
            have u2 := XU20.out.c 2 rfl
            have uf2 := XU20.out.f 2 rfl
            have uz := XU20.out.size
            obtain ⟨w21, hV⟩ : ∃ V, V = (w20.setCell ⟨w2.heap.size, 1, none⟩ (.int .i64 z)) := ⟨_, rfl⟩
            have XR21 := hid ((XR20.out.other (a := ⟨w2.heap.size, 1, none⟩) (by dsimp only; omega) (.int .i64 z)))
            rw [← hV] at XR21
            have XA21 := hid ((XA20.out.set 1 (.int .i64 z)))
            rw [← hV] at XA21
            have XU21 := hid ((XU20.out.other (a := ⟨w2.heap.size, 1, none⟩) (by dsimp only; omega) (.int .i64 z)))
            rw [← hV] at XU21
            have D21 := hid ((D20.out.setOff (a := ⟨w2.heap.size, 1, none⟩) (by dsimp only; omega) (.int .i64 z)))
            rw [← hV] at D21
            have C21 := hid ((C20.out.other (a := ⟨w2.heap.size, 1, none⟩) (by dsimp only; omega) (.int .i64 z)))
            rw [← hV] at C21
            have hR21 : Grew p w w21 := by rw [hV]; exact (hR20.set (a := ⟨w2.heap.size, 1, none⟩) (by dsimp only; omega) (.int .i64 z))
            have hz21 : w20.heap.size ≤ w21.heap.size := by rw [hV]; simp
            have H21 := hid hV
            clear hV XR20 XA20 XU20 D20 C20
            go_upto_region 27 with fail
            clear r0 rf0 r1 rf1 r2 rf2 rz a0 af0 a1 af1 a2 af2 az u0 uf0 u1 uf1 u2 uf2 uz
            rw [← H21.out]
            clear H21
            have r0 := XR21.out.c 0 rfl
            have rf0 := XR21.out.f 0 rfl
            have r1 := XR21.out.c 1 rfl
            have rf1 := XR21.out.f 1 rfl
            have r2 := XR21.out.c 2 rfl
            have rf2 := XR21.out.f 2 rfl
            have rz := XR21.out.size
            have a0 := XA21.out.c 0 rfl
            have af0 := XA21.out.f 0 rfl
            have a1 := XA21.out.c 1 rfl
            have af1 := XA21.out.f 1 rfl
            have a2 := XA21.out.c 2 rfl
            have af2 := XA21.out.f 2 rfl
            have az := XA21.out.size
            have u0 := XU21.out.c 0 rfl
            have uf0 := XU21.out.f 0 rfl
            have u1 := XU21.out.c 1 rfl
            have uf1 := XU21.out.f 1 rfl
            have u2 := XU21.out.c 2 rfl
            have uf2 := XU21.out.f 2 rfl
            have uz := XU21.out.size
            obtain ⟨w22, hV⟩ : ∃ V, V = (((w21.setCell ⟨w.heap.size, 0, none⟩ (.int .i64 now)).setCell ⟨w.heap.size, 1, none⟩ (.int .i64 z)).setCell ⟨w.heap.size, 2, none⟩ (.slice ta ts.length tc)) := ⟨_, rfl⟩
            have XR22 := hid ((((XR21.out.set 0 (.int .i64 now)).set 1 (.int .i64 z)).set 2 (.slice ta ts.length tc)))
            rw [← hV] at XR22
            have XA22 := hid ((((XA21.out.other (a := ⟨w.heap.size, 0, none⟩) (by dsimp only; omega) (.int .i64 now)).other (a := ⟨w.heap.size, 1, none⟩) (by dsimp only; omega) (.int .i64 z)).other (a := ⟨w.heap.size, 2, none⟩) (by dsimp only; omega) (.slice ta ts.length tc)))
            rw [← hV] at XA22
            have XU22 := hid ((((XU21.out.other (a := ⟨w.heap.size, 0, none⟩) (by dsimp only; omega) (.int .i64 now)).other (a := ⟨w.heap.size, 1, none⟩) (by dsimp only; omega) (.int .i64 z)).other (a := ⟨w.heap.size, 2, none⟩) (by dsimp only; omega) (.slice ta ts.length tc)))
            rw [← hV] at XU22
            have D22 := hid ((((D21.out.setOff (a := ⟨w.heap.size, 0, none⟩) (by dsimp only; omega) (.int .i64 now)).setOff (a := ⟨w.heap.size, 1, none⟩) (by dsimp only; omega) (.int .i64 z)).setOff (a := ⟨w.heap.size, 2, none⟩) (by dsimp only; omega) (.slice ta ts.length tc)))
            rw [← hV] at D22
            have C22 := hid ((((C21.out.other (a := ⟨w.heap.size, 0, none⟩) (by dsimp only; omega) (.int .i64 now)).other (a := ⟨w.heap.size, 1, none⟩) (by dsimp only; omega) (.int .i64 z)).other (a := ⟨w.heap.size, 2, none⟩) (by dsimp only; omega) (.slice ta ts.length tc)))
            rw [← hV] at C22
            have hR22 : Grew p w w22 := by rw [hV]; exact (((hR21.set (a := ⟨w.heap.size, 0, none⟩) (by dsimp only; omega) (.int .i64 now)).set (a := ⟨w.heap.size, 1, none⟩) (by dsimp only; omega) (.int .i64 z)).set (a := ⟨w.heap.size, 2, none⟩) (by dsimp only; omega) (.slice ta ts.length tc))
            have hz22 : w21.heap.size ≤ w22.heap.size := by rw [hV]; simp
            have H22 := hid hV
            clear hV XR21 XA21 XU21 D21 C21
            go_wp2
            clear r0 rf0 r1 rf1 r2 rf2 rz a0 af0 a1 af1 a2 af2 az u0 uf0 u1 uf1 u2 uf2 uz
            rw [← H22.out]
            clear H22
            have r0 := XR22.out.c 0 rfl
            have rf0 := XR22.out.f 0 rfl
            have r1 := XR22.out.c 1 rfl
            have rf1 := XR22.out.f 1 rfl
            have r2 := XR22.out.c 2 rfl
            have rf2 := XR22.out.f 2 rfl
            have rz := XR22.out.size
            have a0 := XA22.out.c 0 rfl
            have af0 := XA22.out.f 0 rfl
            have a1 := XA22.out.c 1 rfl
            have af1 := XA22.out.f 1 rfl
            have a2 := XA22.out.c 2 rfl
            have af2 := XA22.out.f 2 rfl
            have az := XA22.out.size
            have u0 := XU22.out.c 0 rfl
            have uf0 := XU22.out.f 0 rfl
            have u1 := XU22.out.c 1 rfl
            have uf1 := XU22.out.f 1 rfl
            have u2 := XU22.out.c 2 rfl
            have uf2 := XU22.out.f 2 rfl
            have uz := XU22.out.size
            refine bodyPost_ret (v := .agg #[.int .i64 now, .int .i64 z, .slice ta ts.length tc]) (by simp [results, Try.results10, go_sem, r0, r1, r2]) rfl ?_
            exact ⟨⟨now, z, ta, tc, ts, rfl, ⟨by first | exact HIR.out.1 | (unfold Old.I64; omega), by omega⟩, D22.out.wide (by omega) (by omega)⟩, k20, sd20, by omega, C22.out, hR22⟩
          · have r0 := XR18.out.c 0 rfl
            have rf0 := XR18.out.f 0 rfl
            have r1 := XR18.out.c 1 rfl
            have rf1 := XR18.out.f 1 rfl
            have r2 := XR18.out.c 2 rfl
            have rf2 := XR18.out.f 2 rfl
            have rz := XR18.out.size
            have a0 := XA18.out.c 0 rfl
            have af0 := XA18.out.f 0 rfl
            have a1 := XA18.out.c 1 rfl
            have af1 := XA18.out.f 1 rfl
            have a2 := XA18.out.c 2 rfl
            have af2 := XA18.out.f 2 rfl
            have az := XA18.out.size
            obtain ⟨w19, hV⟩ : ∃ V, V = w18.alloc (.cells #[.int .i64 (-1), .int .i64 0, .int .i64 30] 3) := ⟨_, rfl⟩
            have XR19 := hid (XR18.out.alloc (.cells #[.int .i64 (-1), .int .i64 0, .int .i64 30] 3))
            rw [← hV] at XR19
            have XA19 := hid (XA18.out.alloc (.cells #[.int .i64 (-1), .int .i64 0, .int .i64 30] 3))
            rw [← hV] at XA19
            have D19 := hid (D18.out.later (below1 w18 (.cells #[.int .i64 (-1), .int .i64 0, .int .i64 30] 3)))
            rw [← hV] at D19
            have C19 := hid (C18.out.later (below1 w18 (.cells #[.int .i64 (-1), .int .i64 0, .int .i64 30] 3)))
            rw [← hV] at C19
            have hR19 : Grew p w w19 := by rw [hV]; exact hR18.trans (Grew.alloc p _ _)
            have hz19 : w18.heap.size ≤ w19.heap.size := by rw [hV]; simp
            have H19 := hid hV
            clear hV XR18 XA18 D18 C18
            have XU19 : Hid (Bx w19 w18.heap.size [.int .i64 (-1), .int .i64 0, .int .i64 30]) := by rw [H19.out]; exact Bx.new [.int .i64 (-1), .int .i64 0, .int .i64 30] _ rfl
            have hy19 : w18.heap.size < w19.heap.size := XU19.out.size
            go_wp2_with fail
            clear r0 rf0 r1 rf1 r2 rf2 rz a0 af0 a1 af1 a2 af2 az
            rw [← H19.out]
            clear H19
            refine (among_in [-1, 0, 30] w18.heap.size p co cap bs k18 sd18 w19 hl (by omega) C19.out (by simp) (by simp) XU19.out (by omega)).mono ?_
            rintro e w20 ⟨⟨z, hmz, rfl⟩, hD⟩
            obtain ⟨k20, sd20, hk20, hC20, hg20, hsz20⟩ := hD.grew
            have XR20 := hid (XR19.out.grew hg20 (by omega))
            have XA20 := hid (XA19.out.grew hg20 (by omega))
            have XU20 := hid (XU19.out.grew hg20 (by omega))
            have D20 := hid (D19.out.grew hg20 (by omega))
            have C20 := hid hC20
            have hR20 : Grew p w w20 := hR19.trans hg20
            have hz20 : w19.heap.size ≤ w20.heap.size := hg20.size
            clear XR19 XA19 XU19 D19 C19 hD hg20 hC20 hsz20
            have hz3 : z = -1 ∨ z = 0 ∨ z = 30 := by simpa using hmz
            clear hmz
            have r0 := XR20.out.c 0 rfl
            have rf0 := XR20.out.f 0 rfl
            have r1 := XR20.out.c 1 rfl
            have rf1 := XR20.out.f 1 rfl
            have r2 := XR20.out.c 2 rfl
            have rf2 := XR20.out.f 2 rfl
            have rz := XR20.out.size
            have a0 := XA20.out.c 0 rfl
            have af0 := XA20.out.f 0 rfl
            have a1 := XA20.out.c 1 rfl
            have af1 := XA20.out.f 1 rfl
            have a2 := XA20.out.c 2 rfl
            have af2 := XA20.out.f 2 rfl
            have az := XA20.out.size
            have u0 := XU20.out.c 0 rfl
            have uf0 := XU20.out.f 0 rfl
            have u1 := XU20.out.c 1 rfl
            have uf1 := XU20.out.f 1 rfl
            have u2 := XU20.out.c 2 rfl
            have uf2 := XU20.out.f 2 rfl
            have uz := XU20.out.size
            obtain ⟨w21, hV⟩ : ∃ V, V = (w20.setCell ⟨w2.heap.size, 0, none⟩ (.int .i64 z)) := ⟨_, rfl⟩
            have XR21 := hid ((XR20.out.other (a := ⟨w2.heap.size, 0, none⟩) (by dsimp only; omega) (.int .i64 z)))
            rw [← hV] at XR21
            have XA21 := hid ((XA20.out.set 0 (.int .i64 z)))
            rw [← hV] at XA21
            have XU21 := hid ((XU20.out.other (a := ⟨w2.heap.size, 0, none⟩) (by dsimp only; omega) (.int .i64 z)))
            rw [← hV] at XU21
            have D21 := hid ((D20.out.setOff (a := ⟨w2.heap.size, 0, none⟩) (by dsimp only; omega) (.int .i64 z)))
            rw [← hV] at D21
            have C21 := hid ((C20.out.other (a := ⟨w2.heap.size, 0, none⟩) (by dsimp only; omega) (.int .i64 z)))
            rw [← hV] at C21
            have hR21 : Grew p w w21 := by rw [hV]; exact (hR20.set (a := ⟨w2.heap.size, 0, none⟩) (by dsimp only; omega) (.int .i64 z))
            have hz21 : w20.heap.size ≤ w21.heap.size := by rw [hV]; simp
            have H21 := hid hV
            clear hV XR20 XA20 XU20 D20 C20
            go_upto_region 27 with fail
            clear r0 rf0 r1 rf1 r2 rf2 rz a0 af0 a1 af1 a2 af2 az u0 uf0 u1 uf1 u2 uf2 uz
            rw [← H21.out]
            clear H21
            have r0 := XR21.out.c 0 rfl
            have rf0 := XR21.out.f 0 rfl
            have r1 := XR21.out.c 1 rfl
            have rf1 := XR21.out.f 1 rfl
            have r2 := XR21.out.c 2 rfl
            have rf2 := XR21.out.f 2 rfl
            have rz := XR21.out.size
            have a0 := XA21.out.c 0 rfl
            have af0 := XA21.out.f 0 rfl
            have a1 := XA21.out.c 1 rfl
            have af1 := XA21.out.f 1 rfl
            have a2 := XA21.out.c 2 rfl
            have af2 := XA21.out.f 2 rfl
            have az := XA21.out.size
            have u0 := XU21.out.c 0 rfl
            have uf0 := XU21.out.f 0 rfl
            have u1 := XU21.out.c 1 rfl
            have uf1 := XU21.out.f 1 rfl
            have u2 := XU21.out.c 2 rfl
            have uf2 := XU21.out.f 2 rfl
            have uz := XU21.out.size
            obtain ⟨w22, hV⟩ : ∃ V, V = (((w21.setCell ⟨w.heap.size, 0, none⟩ (.int .i64 z)).setCell ⟨w.heap.size, 1, none⟩ (.int .i64 sq)).setCell ⟨w.heap.size, 2, none⟩ (.slice ta ts.length tc)) := ⟨_, rfl⟩
            have XR22 := hid ((((XR21.out.set 0 (.int .i64 z)).set 1 (.int .i64 sq)).set 2 (.slice ta ts.length tc)))
            rw [← hV] at XR22
            have XA22 := hid ((((XA21.out.other (a := ⟨w.heap.size, 0, none⟩) (by dsimp only; omega) (.int .i64 z)).other (a := ⟨w.heap.size, 1, none⟩) (by dsimp only; omega) (.int .i64 sq)).other (a := ⟨w.heap.size, 2, none⟩) (by dsimp only; omega) (.slice ta ts.length tc)))
            rw [← hV] at XA22
            have XU22 := hid ((((XU21.out.other (a := ⟨w.heap.size, 0, none⟩) (by dsimp only; omega) (.int .i64 z)).other (a := ⟨w.heap.size, 1, none⟩) (by dsimp only; omega) (.int .i64 sq)).other (a := ⟨w.heap.size, 2, none⟩) (by dsimp only; omega) (.slice ta ts.length tc)))
            rw [← hV] at XU22
            have D22 := hid ((((D21.out.setOff (a := ⟨w.heap.size, 0, none⟩) (by dsimp only; omega) (.int .i64 z)).setOff (a := ⟨w.heap.size, 1, none⟩) (by dsimp only; omega) (.int .i64 sq)).setOff (a := ⟨w.heap.size, 2, none⟩) (by dsimp only; omega) (.slice ta ts.length tc)))
            rw [← hV] at D22
            have C22 := hid ((((C21.out.other (a := ⟨w.heap.size, 0, none⟩) (by dsimp only; omega) (.int .i64 z)).other (a := ⟨w.heap.size, 1, none⟩) (by dsimp only; omega) (.int .i64 sq)).other (a := ⟨w.heap.size, 2, none⟩) (by dsimp only; omega) (.slice ta ts.length tc)))
            rw [← hV] at C22
            have hR22 : Grew p w w22 := by rw [hV]; exact (((hR21.set (a := ⟨w.heap.size, 0, none⟩) (by dsimp only; omega) (.int .i64 z)).set (a := ⟨w.heap.size, 1, none⟩) (by dsimp only; omega) (.int .i64 sq)).set (a := ⟨w.heap.size, 2, none⟩) (by dsimp only; omega) (.slice ta ts.length tc))
            have hz22 : w21.heap.size ≤ w22.heap.size := by rw [hV]; simp
            have H22 := hid hV
            clear hV XR21 XA21 XU21 D21 C21
            go_wp2
            clear r0 rf0 r1 rf1 r2 rf2 rz a0 af0 a1 af1 a2 af2 az u0 uf0 u1 uf1 u2 uf2 uz
            rw [← H22.out]
            clear H22
            have r0 := XR22.out.c 0 rfl
            have rf0 := XR22.out.f 0 rfl
            have r1 := XR22.out.c 1 rfl
            have rf1 := XR22.out.f 1 rfl
            have r2 := XR22.out.c 2 rfl
            have rf2 := XR22.out.f 2 rfl
            have rz := XR22.out.size
            have a0 := XA22.out.c 0 rfl
            have af0 := XA22.out.f 0 rfl
            have a1 := XA22.out.c 1 rfl
            have af1 := XA22.out.f 1 rfl
            have a2 := XA22.out.c 2 rfl
            have af2 := XA22.out.f 2 rfl
            have az := XA22.out.size
            have u0 := XU22.out.c 0 rfl
            have uf0 := XU22.out.f 0 rfl
            have u1 := XU22.out.c 1 rfl
            have uf1 := XU22.out.f 1 rfl
            have u2 := XU22.out.c 2 rfl
            have uf2 := XU22.out.f 2 rfl
            have uz := XU22.out.size
            refine bodyPost_ret (v := .agg #[.int .i64 z, .int .i64 sq, .slice ta ts.length tc]) (by simp [results, Try.results10, go_sem, r0, r1, r2]) rfl ?_
            exact ⟨⟨z, sq, ta, tc, ts, rfl, ⟨by first | exact HIR.out.1 | (unfold Old.I64; omega), by omega⟩, D22.out.wide (by omega) (by omega)⟩, k20, sd20, by omega, C22.out, hR22⟩
          · have r0 := XR18.out.c 0 rfl
            have rf0 := XR18.out.f 0 rfl
            have r1 := XR18.out.c 1 rfl
            have rf1 := XR18.out.f 1 rfl
            have r2 := XR18.out.c 2 rfl
            have rf2 := XR18.out.f 2 rfl
            have rz := XR18.out.size
            have a0 := XA18.out.c 0 rfl
            have af0 := XA18.out.f 0 rfl
            have a1 := XA18.out.c 1 rfl
            have af1 := XA18.out.f 1 rfl
            have a2 := XA18.out.c 2 rfl
            have af2 := XA18.out.f 2 rfl
            have az := XA18.out.size
            go_wp2
            have PD : w18.drew.cell? ⟨w2.heap.size, 2, none⟩ = some (.slice ta ts.length tc) := a2
            go_region_law (first
                | (refine appC (w21.alloc (.cells #[.int .i64 z, .int .i64 z2, .int .i64 z3] 49)) ta tc ts Dl.out (by rfl) (.tmp 81) (.tmp 89) (by rfl) (by rfl) (by simp <;> omega) w21.heap.size (z, z2, z3) (by rfl) _ HN.out (by omega) ?_; intro to3 tc3 w22 hB hD3; obtain ⟨zs, hzs⟩ : ∃ zs, zs = ts ++ [(z, z2, z3)] := ⟨_, rfl⟩; have hzl : zs.length ≤ 31 := (by rw [hzs]; simp <;> omega); rw [← hzs] at hD3 ⊢; clear hzs; have hz22 : w21.heap.size + 1 ≤ w22.heap.size := (by have := hB.size; simpa using this); have XR22 := hid (XRl.out.below hB (by omega)); have XA22 := hid (XAl.out.below hB (by omega)); have D22 := hid hD3; have C22 := hid (Cl.out.below hB (by omega)); have hR22 := hRl.of_below2 hB (by omega); have P22 : w22.cell? ⟨w2.heap.size, 2, none⟩ = some (.slice ta ts.length tc) := XA22.out.c 2 rfl; have rg0 := XR22.out.c 0 rfl; have rh0 := XR22.out.f 0 rfl; have rg1 := XR22.out.c 1 rfl; have rh1 := XR22.out.f 1 rfl; have rg2 := XR22.out.c 2 rfl; have rh2 := XR22.out.f 2 rfl; have ag0 := XA22.out.c 0 rfl; have ah0 := XA22.out.f 0 rfl; have ag1 := XA22.out.c 1 rfl; have ah1 := XA22.out.f 1 rfl; have ag2 := XA22.out.c 2 rfl; have ah2 := XA22.out.f 2 rfl; clear hB hD3)
                | (go_simp; go_at_call 11; have _g := hz20; refine (pick_any 9 p co cap bs k20 sd20 w20 hl (by omega) C20.out).mono ?_; rintro e w21 ⟨⟨z3, rfl, h0z3, h1z3⟩, hD⟩; obtain ⟨k21, sd21, hk21, hC, hg0, hsz⟩ := hD.grew; have hg : Grew p w20 w21 := hg0; have XR21 := hid (XR20.out.grew hg (by omega)); have XA21 := hid (XA20.out.grew hg (by omega)); have D21 := hid (D20.out.grew hg (by omega)); have C21 := hid hC; have hR21 : Grew p w w21 := hR20.trans hg; have hz21 : w20.heap.size ≤ w21.heap.size := hg.size; have P21 : w21.cell? ⟨w2.heap.size, 2, none⟩ = some (.slice ta ts.length tc) := XA21.out.c 2 rfl; have XRl := hid (XR21.out.alloc (.cells #[.int .i64 z, .int .i64 z2, .int .i64 z3] 49)); have XAl := hid (XA21.out.alloc (.cells #[.int .i64 z, .int .i64 z2, .int .i64 z3] 49)); have Dl := hid (D21.out.later (below1 w21 (.cells #[.int .i64 z, .int .i64 z2, .int .i64 z3] 49))); have Cl := hid (C21.out.later (below1 w21 (.cells #[.int .i64 z, .int .i64 z2, .int .i64 z3] 49))); have hRl : Grew p w (w21.alloc (.cells #[.int .i64 z, .int .i64 z2, .int .i64 z3] 49)) := hR21.trans (Grew.alloc p _ _); have HN : Hid (kT.In (w21.heap.size + 1) (w21.alloc (.cells #[.int .i64 z, .int .i64 z2, .int .i64 z3] 49)) (some ⟨w21.heap.size, 0, none⟩) [(z, z2, z3)]) := kT_one (by omega) (by simp) (by simp) (by simp); have PL : (w21.alloc (.cells #[.int .i64 z, .int .i64 z2, .int .i64 z3] 49)).cell? ⟨w2.heap.size, 2, none⟩ = some (.slice ta ts.length tc) := XAl.out.c 2 rfl; clear hD hC hg0 hg hsz)
                | (go_simp; go_at_call 11; have _g := hz19; refine (pick_any 30 p co cap bs k19 sd19 w19 hl (by omega) C19.out).mono ?_; rintro e w20 ⟨⟨z2, rfl, h0z2, h1z2⟩, hD⟩; obtain ⟨k20, sd20, hk20, hC, hg0, hsz⟩ := hD.grew; have hg : Grew p w19 w20 := hg0; have XR20 := hid (XR19.out.grew hg (by omega)); have XA20 := hid (XA19.out.grew hg (by omega)); have D20 := hid (D19.out.grew hg (by omega)); have C20 := hid hC; have hR20 : Grew p w w20 := hR19.trans hg; have hz20 : w19.heap.size ≤ w20.heap.size := hg.size; have P20 : w20.cell? ⟨w2.heap.size, 2, none⟩ = some (.slice ta ts.length tc) := XA20.out.c 2 rfl; clear hD hC hg0 hg hsz)
                | (go_simp; go_at_call 11; refine (pick_any 5 p co cap bs k18 sd18 w18.drew hl (by omega) C18.out.drew).mono ?_; rintro e w19 ⟨⟨z, rfl, h0z, h1z⟩, hD⟩; obtain ⟨k19, sd19, hk19, hC, hg0, hsz⟩ := hD.grew; have hg : Grew p w18 w19 := hg0.from; have XR19 := hid (XR18.out.grew hg (by omega)); have XA19 := hid (XA18.out.grew hg (by omega)); have D19 := hid (D18.out.grew hg (by omega)); have C19 := hid hC; have hR19 : Grew p w w19 := hR18.trans hg; have hz19 : w18.heap.size ≤ w19.heap.size := hg.size; have P19 : w19.cell? ⟨w2.heap.size, 2, none⟩ = some (.slice ta ts.length tc) := XA19.out.c 2 rfl; clear hD hC hg0 hg hsz))
            all_goals
              obtain ⟨w23, hV⟩ : ∃ V, V = (w22.setCell ⟨w2.heap.size, 2, none⟩ (.slice to3 zs.length tc3)) := ⟨_, rfl⟩
              have XR23 := hid ((XR22.out.other (a := ⟨w2.heap.size, 2, none⟩) (by dsimp only; omega) (.slice to3 zs.length tc3)))
              rw [← hV] at XR23
              have XA23 := hid ((XA22.out.set 2 (.slice to3 zs.length tc3)))
              rw [← hV] at XA23
              have D23 := hid ((D22.out.setOff (a := ⟨w2.heap.size, 2, none⟩) (by dsimp only; omega) (.slice to3 zs.length tc3)))
              rw [← hV] at D23
              have C23 := hid ((C22.out.other (a := ⟨w2.heap.size, 2, none⟩) (by dsimp only; omega) (.slice to3 zs.length tc3)))
              rw [← hV] at C23
              have hR23 : Grew p w w23 := by rw [hV]; exact (hR22.set (a := ⟨w2.heap.size, 2, none⟩) (by dsimp only; omega) (.slice to3 zs.length tc3))
              have hz23 : w22.heap.size ≤ w23.heap.size := by rw [hV]; simp
              have H23 := hid hV
              clear hV XR22 XA22 D22 C22
              go_upto_region 27 with fail
              clear rg0 rh0 rg1 rh1 rg2 rh2 ag0 ah0 ag1 ah1 ag2 ah2
              rw [← H23.out]
              clear H23
              have r0 := XR23.out.c 0 rfl
              have rf0 := XR23.out.f 0 rfl
              have r1 := XR23.out.c 1 rfl
              have rf1 := XR23.out.f 1 rfl
              have r2 := XR23.out.c 2 rfl
              have rf2 := XR23.out.f 2 rfl
              have rz := XR23.out.size
              have a0 := XA23.out.c 0 rfl
              have af0 := XA23.out.f 0 rfl
              have a1 := XA23.out.c 1 rfl
              have af1 := XA23.out.f 1 rfl
              have a2 := XA23.out.c 2 rfl
              have af2 := XA23.out.f 2 rfl
              have az := XA23.out.size
              obtain ⟨w24, hV⟩ : ∃ V, V = (((w23.setCell ⟨w.heap.size, 0, none⟩ (.int .i64 now)).setCell ⟨w.heap.size, 1, none⟩ (.int .i64 sq)).setCell ⟨w.heap.size, 2, none⟩ (.slice to3 zs.length tc3)) := ⟨_, rfl⟩
              have XR24 := hid ((((XR23.out.set 0 (.int .i64 now)).set 1 (.int .i64 sq)).set 2 (.slice to3 zs.length tc3)))
              rw [← hV] at XR24
              have XA24 := hid ((((XA23.out.other (a := ⟨w.heap.size, 0, none⟩) (by dsimp only; omega) (.int .i64 now)).other (a := ⟨w.heap.size, 1, none⟩) (by dsimp only; omega) (.int .i64 sq)).other (a := ⟨w.heap.size, 2, none⟩) (by dsimp only; omega) (.slice to3 zs.length tc3)))
              rw [← hV] at XA24
              have D24 := hid ((((D23.out.setOff (a := ⟨w.heap.size, 0, none⟩) (by dsimp only; omega) (.int .i64 now)).setOff (a := ⟨w.heap.size, 1, none⟩) (by dsimp only; omega) (.int .i64 sq)).setOff (a := ⟨w.heap.size, 2, none⟩) (by dsimp only; omega) (.slice to3 zs.length tc3)))
              rw [← hV] at D24
              have C24 := hid ((((C23.out.other (a := ⟨w.heap.size, 0, none⟩) (by dsimp only; omega) (.int .i64 now)).other (a := ⟨w.heap.size, 1, none⟩) (by dsimp only; omega) (.int .i64 sq)).other (a := ⟨w.heap.size, 2, none⟩) (by dsimp only; omega) (.slice to3 zs.length tc3)))
              rw [← hV] at C24
              have hR24 : Grew p w w24 := by rw [hV]; exact (((hR23.set (a := ⟨w.heap.size, 0, none⟩) (by dsimp only; omega) (.int .i64 now)).set (a := ⟨w.heap.size, 1, none⟩) (by dsimp only; omega) (.int .i64 sq)).set (a := ⟨w.heap.size, 2, none⟩) (by dsimp only; omega) (.slice to3 zs.length tc3))
              have hz24 : w23.heap.size ≤ w24.heap.size := by rw [hV]; simp
              have H24 := hid hV
              clear hV XR23 XA23 D23 C23
              go_wp2
              clear r0 rf0 r1 rf1 r2 rf2 rz a0 af0 a1 af1 a2 af2 az
              rw [← H24.out]
              clear H24
              have r0 := XR24.out.c 0 rfl
              have rf0 := XR24.out.f 0 rfl
              have r1 := XR24.out.c 1 rfl
              have rf1 := XR24.out.f 1 rfl
              have r2 := XR24.out.c 2 rfl
              have rf2 := XR24.out.f 2 rfl
              have rz := XR24.out.size
              have a0 := XA24.out.c 0 rfl
              have af0 := XA24.out.f 0 rfl
              have a1 := XA24.out.c 1 rfl
              have af1 := XA24.out.f 1 rfl
              have a2 := XA24.out.c 2 rfl
              have af2 := XA24.out.f 2 rfl
              have az := XA24.out.size
              refine bodyPost_ret (v := .agg #[.int .i64 now, .int .i64 sq, .slice to3 zs.length tc3]) (by simp [results, Try.results10, go_sem, r0, r1, r2]) rfl ?_
              exact ⟨⟨now, sq, to3, tc3, zs, rfl, ⟨by first | exact HIR.out.1 | (unfold Old.I64; omega), by omega⟩, D24.out.wide (by omega) (by omega)⟩, k21, sd21, by omega, C24.out, hR24⟩
          · have e0 : (y == 0) = false := by simpa using y0
            have f0 : decide (y = 0) = false := by simpa using y0
            have e1 : (y == 1) = false := by simpa using y1
            have f1 : decide (y = 1) = false := by simpa using y1
            have e2 : (y == 2) = false := by simpa using y2
            have f2 : decide (y = 2) = false := by simpa using y2
            have r0 := XR18.out.c 0 rfl
            have rf0 := XR18.out.f 0 rfl
            have r1 := XR18.out.c 1 rfl
            have rf1 := XR18.out.f 1 rfl
            have r2 := XR18.out.c 2 rfl
            have rf2 := XR18.out.f 2 rfl
            have rz := XR18.out.size
            have a0 := XA18.out.c 0 rfl
            have af0 := XA18.out.f 0 rfl
            have a1 := XA18.out.c 1 rfl
            have af1 := XA18.out.f 1 rfl
            have a2 := XA18.out.c 2 rfl
            have af2 := XA18.out.f 2 rfl
            have az := XA18.out.size
            go_upto_region 27 with fail
            clear r0 rf0 r1 rf1 r2 rf2 rz a0 af0 a1 af1 a2 af2 az
            have r0 := XR18.out.c 0 rfl
            have rf0 := XR18.out.f 0 rfl
            have r1 := XR18.out.c 1 rfl
            have rf1 := XR18.out.f 1 rfl
            have r2 := XR18.out.c 2 rfl
            have rf2 := XR18.out.f 2 rfl
            have rz := XR18.out.size
            have a0 := XA18.out.c 0 rfl
            have af0 := XA18.out.f 0 rfl
            have a1 := XA18.out.c 1 rfl
            have af1 := XA18.out.f 1 rfl
            have a2 := XA18.out.c 2 rfl
            have af2 := XA18.out.f 2 rfl
            have az := XA18.out.size
            obtain ⟨w19, hV⟩ : ∃ V, V = (((w18.setCell ⟨w.heap.size, 0, none⟩ (.int .i64 now)).setCell ⟨w.heap.size, 1, none⟩ (.int .i64 sq)).setCell ⟨w.heap.size, 2, none⟩ (.slice ta ts.length tc)) := ⟨_, rfl⟩
            have XR19 := hid ((((XR18.out.set 0 (.int .i64 now)).set 1 (.int .i64 sq)).set 2 (.slice ta ts.length tc)))
            rw [← hV] at XR19
            have XA19 := hid ((((XA18.out.other (a := ⟨w.heap.size, 0, none⟩) (by dsimp only; omega) (.int .i64 now)).other (a := ⟨w.heap.size, 1, none⟩) (by dsimp only; omega) (.int .i64 sq)).other (a := ⟨w.heap.size, 2, none⟩) (by dsimp only; omega) (.slice ta ts.length tc)))
            rw [← hV] at XA19
            have D19 := hid ((((D18.out.setOff (a := ⟨w.heap.size, 0, none⟩) (by dsimp only; omega) (.int .i64 now)).setOff (a := ⟨w.heap.size, 1, none⟩) (by dsimp only; omega) (.int .i64 sq)).setOff (a := ⟨w.heap.size, 2, none⟩) (by dsimp only; omega) (.slice ta ts.length tc)))
            rw [← hV] at D19
            have C19 := hid ((((C18.out.other (a := ⟨w.heap.size, 0, none⟩) (by dsimp only; omega) (.int .i64 now)).other (a := ⟨w.heap.size, 1, none⟩) (by dsimp only; omega) (.int .i64 sq)).other (a := ⟨w.heap.size, 2, none⟩) (by dsimp only; omega) (.slice ta ts.length tc)))
            rw [← hV] at C19
            have hR19 : Grew p w w19 := by rw [hV]; exact (((hR18.set (a := ⟨w.heap.size, 0, none⟩) (by dsimp only; omega) (.int .i64 now)).set (a := ⟨w.heap.size, 1, none⟩) (by dsimp only; omega) (.int .i64 sq)).set (a := ⟨w.heap.size, 2, none⟩) (by dsimp only; omega) (.slice ta ts.length tc))
            have hz19 : w18.heap.size ≤ w19.heap.size := by rw [hV]; simp
            have H19 := hid hV
            clear hV XR18 XA18 D18 C18
            go_wp2
            clear r0 rf0 r1 rf1 r2 rf2 rz a0 af0 a1 af1 a2 af2 az
            rw [← H19.out]
            clear H19
            have r0 := XR19.out.c 0 rfl
            have rf0 := XR19.out.f 0 rfl
            have r1 := XR19.out.c 1 rfl
            have rf1 := XR19.out.f 1 rfl
            have r2 := XR19.out.c 2 rfl
            have rf2 := XR19.out.f 2 rfl
            have rz := XR19.out.size
            have a0 := XA19.out.c 0 rfl
            have af0 := XA19.out.f 0 rfl
            have a1 := XA19.out.c 1 rfl
            have af1 := XA19.out.f 1 rfl
            have a2 := XA19.out.c 2 rfl
            have af2 := XA19.out.f 2 rfl
            have az := XA19.out.size
            refine bodyPost_ret (v := .agg #[.int .i64 now, .int .i64 sq, .slice ta ts.length tc]) (by simp [results, Try.results10, go_sem, r0, r1, r2]) rfl ?_
            exact ⟨⟨now, sq, ta, tc, ts, rfl, ⟨by first | exact HIR.out.1 | (unfold Old.I64; omega), by omega⟩, D19.out.wide (by omega) (by omega)⟩, k18, sd18, by omega, C19.out, hR19⟩
end Go.Proofs.Ytpbgkkemaioidaa
