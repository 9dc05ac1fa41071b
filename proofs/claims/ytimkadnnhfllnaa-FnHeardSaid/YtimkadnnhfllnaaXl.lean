
/- A drawn topic. No conditions but those written. -/
import Derived.Test.YtimkadnnhfllnaaXk
import Derived.Deep.Cut
import Derived.Deep.DeepCutAuto
import Derived.Deep.RegionLaw
namespace Go.Proofs.Ytimkadnnhfllnaa
open Go.RowKit

set_option maxRecDepth 10000 in
set_option maxHeartbeats 64000000 in
theorem topic_any (p : Nat) (co : Option Addr) (cap : Nat) (bs : List Int) (k : Nat) (sd : Int) (w : World) (hl : bs.length ≤ 9223372036854775807) (ha : k ≤ 1000000000) (hC : Cur w p co cap bs k sd) :
    Calls Try.prog 12 #[.pointer (some ⟨p, 0, none⟩)] w fun e w' => (∃ (sd0 : Int) (o : Option Addr) (c : Nat) (us : List LSub), e = .returned (.agg #[.int .i64 sd0, .slice o us.length c]) ∧ (us.length ≤ 11 ∧ Fits us) ∧ TW w.heap.size w'.heap.size w' o c us) ∧ DrawnG w p co cap bs k 600 w' := by
  have hp := hC.1
  have C0 := hid hC
  have hR0 := Grew.refl p w
  clear hC
  obtain ⟨w1, hV⟩ : ∃ V, V = w.alloc (.cells #[.int .i64 0, .slice none 0 0] 25) := ⟨_, rfl⟩
  have C1 := hid (C0.out.later (below1 w (.cells #[.int .i64 0, .slice none 0 0] 25)))
  rw [← hV] at C1
  have hR1 : Grew p w w1 := by rw [hV]; exact hR0.trans (Grew.alloc p _ _)
  have hz1 : w.heap.size ≤ w1.heap.size := by rw [hV]; simp
  have H1 := hid hV
  clear hV C0
  have XR1 : Hid (Bx w1 w.heap.size [.int .i64 0, .slice none 0 0]) := by rw [H1.out]; exact Bx.new [.int .i64 0, .slice none 0 0] _ rfl
  have hy1 : w.heap.size < w1.heap.size := XR1.out.size
  obtain ⟨w2, hV⟩ : ∃ V, V = w1.alloc (.cells #[.int .i64 0, .slice none 0 0] 25) := ⟨_, rfl⟩
  have XR2 := hid (XR1.out.alloc (.cells #[.int .i64 0, .slice none 0 0] 25))
  rw [← hV] at XR2
  have C2 := hid (C1.out.later (below1 w1 (.cells #[.int .i64 0, .slice none 0 0] 25)))
  rw [← hV] at C2
  have hR2 : Grew p w w2 := by rw [hV]; exact hR1.trans (Grew.alloc p _ _)
  have hz2 : w1.heap.size ≤ w2.heap.size := by rw [hV]; simp
  have H2 := hid hV
  clear hV XR1 C1
  have XA2 : Hid (Bx w2 w1.heap.size [.int .i64 0, .slice none 0 0]) := by rw [H2.out]; exact Bx.new [.int .i64 0, .slice none 0 0] _ rfl
  have hy2 : w1.heap.size < w2.heap.size := XA2.out.size
  have hw1 : w1.heap.size = w.heap.size + 1 := by rw [H1.out]; simp
  rw [hw1] at XA2
  rw [hw1] at hy2
  clear hw1
  go_enter Try.func12, Try.ntmps12
  have r0 := XR2.out.c 0 rfl
  have rf0 := XR2.out.f 0 rfl
  have r1 := XR2.out.c 1 rfl
  have rf1 := XR2.out.f 1 rfl
  have rz := XR2.out.size
  have a0 := XA2.out.c 0 rfl
  have af0 := XA2.out.f 0 rfl
  have a1 := XA2.out.c 1 rfl
  have af1 := XA2.out.f 1 rfl
  have az := XA2.out.size
  go_wp2_with fail
  clear r0 rf0 r1 rf1 rz a0 af0 a1 af1 az
  rw [← H1.out]
  clear H1
  rw [← H2.out]
  clear H2
  refine (pick_any 14 p co cap bs k sd w2 hl (by omega) C2.out).mono ?_
  rintro e w3 ⟨⟨n0, rfl, h0n0, h1n0⟩, hD⟩
  obtain ⟨k3, sd3, hk3, hC3, hg3, hsz3⟩ := hD.grew
  have XR3 := hid (XR2.out.grew hg3 (by omega))
  have XA3 := hid (XA2.out.grew hg3 (by omega))
  have C3 := hid hC3
  have hR3 : Grew p w w3 := hR2.trans hg3
  have hz3 : w2.heap.size ≤ w3.heap.size := hg3.size
  clear XR2 XA2 C2 hD hg3 hC3 hsz3
  obtain ⟨m0, rfl⟩ : ∃ m : Nat, n0 = m := ⟨n0.toNat, by omega⟩
  have hm0 : m0 ≤ 40 := by omega
  clear h0n0 h1n0
  have r0 := XR3.out.c 0 rfl
  have rf0 := XR3.out.f 0 rfl
  have r1 := XR3.out.c 1 rfl
  have rf1 := XR3.out.f 1 rfl
  have rz := XR3.out.size
  have a0 := XA3.out.c 0 rfl
  have af0 := XA3.out.f 0 rfl
  have a1 := XA3.out.c 1 rfl
  have af1 := XA3.out.f 1 rfl
  have az := XA3.out.size
  go_wp2_with fail
  clear r0 rf0 r1 rf1 rz a0 af0 a1 af1 az
  refine (one_any 30 p co cap bs k3 sd3 w3 hl (by omega) C3.out).mono ?_
  rintro e w4 ⟨⟨b2, rfl⟩, hD⟩
  obtain ⟨k4, sd4, hk4, hC4, hg4, hsz4⟩ := hD.grew
  have XR4 := hid (XR3.out.grew hg4 (by omega))
  have XA4 := hid (XA3.out.grew hg4 (by omega))
  have C4 := hid hC4
  have hR4 : Grew p w w4 := hR3.trans hg4
  have hz4 : w3.heap.size ≤ w4.heap.size := hg4.size
  clear XR3 XA3 C3 hD hg4 hC4 hsz4
  have r0 := XR4.out.c 0 rfl
  have rf0 := XR4.out.f 0 rfl
  have r1 := XR4.out.c 1 rfl
  have rf1 := XR4.out.f 1 rfl
  have rz := XR4.out.size
  have a0 := XA4.out.c 0 rfl
  have af0 := XA4.out.f 0 rfl
  have a1 := XA4.out.c 1 rfl
  have af1 := XA4.out.f 1 rfl
  have az := XA4.out.size
  go_upto_if 12 with fail
  clear r0 rf0 r1 rf1 rz a0 af0 a1 af1 az
  go_cut [4] (fun s4 wx => ∃ (m : Nat), s4 = .int .i64 (m : Int) ∧ m ≤ 40 ∧ wx = w4)
  case first =>
    cases b2
    · go_wp2_with fail
      go_meet
      exact ⟨m0, rfl, by omega, rfl⟩
    · go_wp2_with fail
      go_meet
      exact ⟨40, rfl, by omega, rfl⟩
  case rest =>
    clear hm0
    obtain ⟨m, rfl, hm, hwc⟩ := hcut
    rw [hwc]
    clear hwc wc
    have D4 : Hid (TW ((w.heap.size + 1) + 1) w4.heap.size w4 none 0 []) := hid tw_nil
    have r0 := XR4.out.c 0 rfl
    have rf0 := XR4.out.f 0 rfl
    have r1 := XR4.out.c 1 rfl
    have rf1 := XR4.out.f 1 rfl
    have rz := XR4.out.size
    have a0 := XA4.out.c 0 rfl
    have af0 := XA4.out.f 0 rfl
    have a1 := XA4.out.c 1 rfl
    have af1 := XA4.out.f 1 rfl
    have az := XA4.out.size
    go_wp2
    clear r0 rf0 r1 rf1 rz a0 af0 a1 af1 az
    go_loopw [5] (fun i wr => ∃ (j k2 : Nat) (sd2 : Int) (sd0 : Int) (o : Option Addr) (c : Nat) (us : List LSub), i = .int .i64 (j : Int) ∧ j ≤ m ∧ Hid (LN us) ∧ k2 + 9 * (m - j) ≤ k + 400 ∧ Hid (Bx wr w.heap.size [.int .i64 0, .slice none 0 0]) ∧ Hid (Bx wr (w.heap.size + 1) [.int .i64 sd0, .slice o us.length c]) ∧ Hid (TW ((w.heap.size + 1) + 1) wr.heap.size wr o c us) ∧ Hid (Cur wr p co cap bs k2 sd2) ∧ Grew p w wr ∧ (w.heap.size + 1) + 1 ≤ wr.heap.size) (fun i _ => m - (intOf i).toNat)
    case atStart => exact ⟨0, k4, sd4, 0, none, 0, [], rfl, by omega, hid ln_nil, by omega, XR4, XA4, D4, C4, hR4, by have := XA4.out.size; omega⟩
    case round =>
      clear XR4 XA4 D4 C4 hR4
      obtain ⟨j, k1, sd1, sd0, o, c, us, rfl, hj, HLN, hk1, XR5, XA5, D5, C5, hR5, hs1⟩ := hrel
      have hus : us.length ≤ 10 := HLN.out.1
      by_cases hjm : j < m
      · have hm1 : decide ((j : Int) < (m : Int)) = true := by simp <;> omega
        have r0 := XR5.out.c 0 rfl
        have rf0 := XR5.out.f 0 rfl
        have r1 := XR5.out.c 1 rfl
        have rf1 := XR5.out.f 1 rfl
        have rz := XR5.out.size
        have a0 := XA5.out.c 0 rfl
        have af0 := XA5.out.f 0 rfl
        have a1 := XA5.out.c 1 rfl
        have af1 := XA5.out.f 1 rfl
        have az := XA5.out.size
        obtain ⟨w6, hV⟩ : ∃ V, V = wr.alloc (.cells #[.int .i64 sd0, .slice o us.length c] 25) := ⟨_, rfl⟩
        have XR6 := hid (XR5.out.alloc (.cells #[.int .i64 sd0, .slice o us.length c] 25))
        rw [← hV] at XR6
        have XA6 := hid (XA5.out.alloc (.cells #[.int .i64 sd0, .slice o us.length c] 25))
        rw [← hV] at XA6
        have D6 := hid (D5.out.later (below1 wr (.cells #[.int .i64 sd0, .slice o us.length c] 25)))
        rw [← hV] at D6
        have C6 := hid (C5.out.later (below1 wr (.cells #[.int .i64 sd0, .slice o us.length c] 25)))
        rw [← hV] at C6
        have hR6 : Grew p w w6 := by rw [hV]; exact hR5.trans (Grew.alloc p _ _)
        have hz6 : wr.heap.size ≤ w6.heap.size := by rw [hV]; simp
        have H6 := hid hV
        clear hV XR5 XA5 D5 C5
        have XX6 : Hid (Bx w6 wr.heap.size [.int .i64 sd0, .slice o us.length c]) := by rw [H6.out]; exact Bx.new [.int .i64 sd0, .slice o us.length c] _ rfl
        have hy6 : wr.heap.size < w6.heap.size := XX6.out.size
        go_wp2_with fail
        clear r0 rf0 r1 rf1 rz a0 af0 a1 af1 az
        rw [← H6.out]
        clear H6
        refine (pick_any 7 p co cap bs k1 sd1 w6 hl (by omega) C6.out).mono ?_
        rintro e w7 ⟨⟨y, rfl, h0y, h1y⟩, hD⟩
        obtain ⟨k7, sd7, hk7, hC7, hg7, hsz7⟩ := hD.grew
        have XR7 := hid (XR6.out.grew hg7 (by omega))
        have XA7 := hid (XA6.out.grew hg7 (by omega))
        have XX7 := hid (XX6.out.grew hg7 (by omega))
        have D7 := hid (D6.out.grew hg7 (by omega))
        have C7 := hid hC7
        have hR7 : Grew p w w7 := hR6.trans hg7
        have hz7 : w6.heap.size ≤ w7.heap.size := hg7.size
        clear XR6 XA6 XX6 D6 C6 hD hg7 hC7 hsz7
        have hy5 : y = 0 ∨ y = 1 ∨ y = 2 ∨ y = 3 ∨ (y ≠ 0 ∧ y ≠ 1 ∧ y ≠ 2 ∧ y ≠ 3) := by omega
        clear h0y h1y
        rcases hy5 with rfl | rfl | rfl | rfl | ⟨y0, y1, y2, y3⟩
        · have r0 := XR7.out.c 0 rfl
          have rf0 := XR7.out.f 0 rfl
          have r1 := XR7.out.c 1 rfl
          have rf1 := XR7.out.f 1 rfl
          have rz := XR7.out.size
          have a0 := XA7.out.c 0 rfl
          have af0 := XA7.out.f 0 rfl
          have a1 := XA7.out.c 1 rfl
          have af1 := XA7.out.f 1 rfl
          have az := XA7.out.size
          have x0 := XX7.out.c 0 rfl
          have xf0 := XX7.out.f 0 rfl
          have x1 := XX7.out.c 1 rfl
          have xf1 := XX7.out.f 1 rfl
          have xz := XX7.out.size
          go_wp2
          have PD0 : w7.drew.cell? ⟨(w.heap.size + 1), 0, none⟩ = some (.int .i64 sd0) := a0
          have PD1 : w7.drew.cell? ⟨(w.heap.size + 1), 1, none⟩ = some (.slice o us.length c) := a1
          go_region_law (first
              | (go_simp; go_at_call 27; have _g := hz10; refine (stepSub sd0 o c us _ _ b3 w10 (by omega) HLN.out.fits D10.out).mono ?_; rintro e w11 ⟨⟨vsd, vo, vc, vus, cv, rfl, hS1⟩, hy⟩; have hb : Below w10.heap.size w10 w11 := hy; have XR11 := hid (XR10.out.grew (Grew.of_below (p := p) hb) (by omega)); have XA11 := hid (XA10.out.grew (Grew.of_below (p := p) hb) (by omega)); have XX11 := hid (XX10.out.grew (Grew.of_below (p := p) hb) (by omega)); have D11 := hid (D10.out.grew (Grew.of_below (p := p) hb) (by omega)); have C11 := hid (C10.out.later hb); have hR11 : Grew p w w11 := hR10.trans (Grew.of_below (p := p) hb); have hz11 : w10.heap.size ≤ w11.heap.size := hb.size; have P11a := XA11.out.c 0 rfl; have P11b := XA11.out.c 1 rfl; have rg0 := XR11.out.c 0 rfl; have rh0 := XR11.out.f 0 rfl; have rg1 := XR11.out.c 1 rfl; have rh1 := XR11.out.f 1 rfl; have ag0 := XA11.out.c 0 rfl; have ah0 := XA11.out.f 0 rfl; have ag1 := XA11.out.c 1 rfl; have ah1 := XA11.out.f 1 rfl; have xg0 := XX11.out.c 0 rfl; have xh0 := XX11.out.f 0 rfl; have xg1 := XX11.out.c 1 rfl; have xh1 := XX11.out.f 1 rfl; clear hy hb)
              | (go_simp; go_at_call 26; have _g := hz9; refine (one_any 2 p co cap bs k9 sd9 w9 hl (by omega) C9.out).mono ?_; rintro e w10 ⟨⟨b3, rfl⟩, hD⟩; obtain ⟨k10, sd10, hk10, hC, hg0, hsz⟩ := hD.grew; have hg : Grew p w9 w10 := hg0; have XR10 := hid (XR9.out.grew hg (by omega)); have XA10 := hid (XA9.out.grew hg (by omega)); have XX10 := hid (XX9.out.grew hg (by omega)); have D10 := hid (D9.out.grew hg (by omega)); have C10 := hid hC; have hR10 : Grew p w w10 := hR9.trans hg; have hz10 : w9.heap.size ≤ w10.heap.size := hg.size; have P10a := XA10.out.c 0 rfl; have P10b := XA10.out.c 1 rfl; clear hD hC hg0 hg hsz)
              | (go_simp; go_at_call 25; have _g := hz8; refine (pick_any 3 p co cap bs k8 sd8 w8 hl (by omega) C8.out).mono ?_; rintro e w9 ⟨⟨z2, rfl, h0z2, h1z2⟩, hD⟩; obtain ⟨k9, sd9, hk9, hC, hg0, hsz⟩ := hD.grew; have hg : Grew p w8 w9 := hg0; have XR9 := hid (XR8.out.grew hg (by omega)); have XA9 := hid (XA8.out.grew hg (by omega)); have XX9 := hid (XX8.out.grew hg (by omega)); have D9 := hid (D8.out.grew hg (by omega)); have C9 := hid hC; have hR9 : Grew p w w9 := hR8.trans hg; have hz9 : w8.heap.size ≤ w9.heap.size := hg.size; have P9a := XA9.out.c 0 rfl; have P9b := XA9.out.c 1 rfl; clear hD hC hg0 hg hsz)
              | (go_simp; go_at_call 25; refine (pick_any 6 p co cap bs k7 sd7 w7.drew hl (by omega) C7.out.drew).mono ?_; rintro e w8 ⟨⟨z, rfl, h0z, h1z⟩, hD⟩; obtain ⟨k8, sd8, hk8, hC, hg0, hsz⟩ := hD.grew; have hg : Grew p w7 w8 := hg0.from; have XR8 := hid (XR7.out.grew hg (by omega)); have XA8 := hid (XA7.out.grew hg (by omega)); have XX8 := hid (XX7.out.grew hg (by omega)); have D8 := hid (D7.out.grew hg (by omega)); have C8 := hid hC; have hR8 : Grew p w w8 := hR7.trans hg; have hz8 : w7.heap.size ≤ w8.heap.size := hg.size; have P8a := XA8.out.c 0 rfl; have P8b := XA8.out.c 1 rfl; clear hD hC hg0 hg hsz))
          all_goals
            by_cases hc : cv = 0
            · obtain ⟨hS, hE⟩ := hS1 hc
              have E11 := hid hE
              have HS := hid hS
              have hc1 : (cv == 0) = true := by simpa using hc
              have hc2 : decide (cv = 0) = true := by simpa using hc
              clear hc hS hE hS1
              obtain ⟨w12, hV⟩ : ∃ V, V = ((w11.setCell ⟨wr.heap.size, 0, none⟩ (.int .i64 vsd)).setCell ⟨wr.heap.size, 1, none⟩ (.slice vo vus.length vc)) := ⟨_, rfl⟩
              have XR12 := hid (((XR11.out.other (a := ⟨wr.heap.size, 0, none⟩) (by dsimp only; omega) (.int .i64 vsd)).other (a := ⟨wr.heap.size, 1, none⟩) (by dsimp only; omega) (.slice vo vus.length vc)))
              rw [← hV] at XR12
              have XA12 := hid (((XA11.out.other (a := ⟨wr.heap.size, 0, none⟩) (by dsimp only; omega) (.int .i64 vsd)).other (a := ⟨wr.heap.size, 1, none⟩) (by dsimp only; omega) (.slice vo vus.length vc)))
              rw [← hV] at XA12
              have XX12 := hid (((XX11.out.set 0 (.int .i64 vsd)).set 1 (.slice vo vus.length vc)))
              rw [← hV] at XX12
              have D12 := hid (((D11.out.setOff (a := ⟨wr.heap.size, 0, none⟩) (by dsimp only; omega) (.int .i64 vsd)).setOff (a := ⟨wr.heap.size, 1, none⟩) (by dsimp only; omega) (.slice vo vus.length vc)))
              rw [← hV] at D12
              have E12 := hid (((E11.out.setOff (a := ⟨wr.heap.size, 0, none⟩) (by dsimp only; omega) (.int .i64 vsd)).setOff (a := ⟨wr.heap.size, 1, none⟩) (by dsimp only; omega) (.slice vo vus.length vc)))
              rw [← hV] at E12
              have C12 := hid (((C11.out.other (a := ⟨wr.heap.size, 0, none⟩) (by dsimp only; omega) (.int .i64 vsd)).other (a := ⟨wr.heap.size, 1, none⟩) (by dsimp only; omega) (.slice vo vus.length vc)))
              rw [← hV] at C12
              have hR12 : Grew p w w12 := by rw [hV]; exact ((hR11.set (a := ⟨wr.heap.size, 0, none⟩) (by dsimp only; omega) (.int .i64 vsd)).set (a := ⟨wr.heap.size, 1, none⟩) (by dsimp only; omega) (.slice vo vus.length vc))
              have hz12 : w11.heap.size ≤ w12.heap.size := by rw [hV]; simp
              have H12 := hid hV
              clear hV XR11 XA11 XX11 D11 E11 C11
              go_upto_region 20 with fail
              clear rg0 rh0 rg1 rh1 ag0 ah0 ag1 ah1 xg0 xh0 xg1 xh1
              rw [← H12.out]
              clear H12
              have r0 := XR12.out.c 0 rfl
              have rf0 := XR12.out.f 0 rfl
              have r1 := XR12.out.c 1 rfl
              have rf1 := XR12.out.f 1 rfl
              have rz := XR12.out.size
              have a0 := XA12.out.c 0 rfl
              have af0 := XA12.out.f 0 rfl
              have a1 := XA12.out.c 1 rfl
              have af1 := XA12.out.f 1 rfl
              have az := XA12.out.size
              have x0 := XX12.out.c 0 rfl
              have xf0 := XX12.out.f 0 rfl
              have x1 := XX12.out.c 1 rfl
              have xf1 := XX12.out.f 1 rfl
              have xz := XX12.out.size
              obtain ⟨w13, hV⟩ : ∃ V, V = ((w12.setCell ⟨(w.heap.size + 1), 0, none⟩ (.int .i64 vsd)).setCell ⟨(w.heap.size + 1), 1, none⟩ (.slice vo vus.length vc)) := ⟨_, rfl⟩
              have XR13 := hid (((XR12.out.other (a := ⟨(w.heap.size + 1), 0, none⟩) (by dsimp only; omega) (.int .i64 vsd)).other (a := ⟨(w.heap.size + 1), 1, none⟩) (by dsimp only; omega) (.slice vo vus.length vc)))
              rw [← hV] at XR13
              have XA13 := hid (((XA12.out.set 0 (.int .i64 vsd)).set 1 (.slice vo vus.length vc)))
              rw [← hV] at XA13
              have XX13 := hid (((XX12.out.other (a := ⟨(w.heap.size + 1), 0, none⟩) (by dsimp only; omega) (.int .i64 vsd)).other (a := ⟨(w.heap.size + 1), 1, none⟩) (by dsimp only; omega) (.slice vo vus.length vc)))
              rw [← hV] at XX13
              have D13 := hid (((D12.out.setOff (a := ⟨(w.heap.size + 1), 0, none⟩) (by dsimp only; omega) (.int .i64 vsd)).setOff (a := ⟨(w.heap.size + 1), 1, none⟩) (by dsimp only; omega) (.slice vo vus.length vc)))
              rw [← hV] at D13
              have E13 := hid (((E12.out.setOff (a := ⟨(w.heap.size + 1), 0, none⟩) (by dsimp only; omega) (.int .i64 vsd)).setOff (a := ⟨(w.heap.size + 1), 1, none⟩) (by dsimp only; omega) (.slice vo vus.length vc)))
              rw [← hV] at E13
              have C13 := hid (((C12.out.other (a := ⟨(w.heap.size + 1), 0, none⟩) (by dsimp only; omega) (.int .i64 vsd)).other (a := ⟨(w.heap.size + 1), 1, none⟩) (by dsimp only; omega) (.slice vo vus.length vc)))
              rw [← hV] at C13
              have hR13 : Grew p w w13 := by rw [hV]; exact ((hR12.set (a := ⟨(w.heap.size + 1), 0, none⟩) (by dsimp only; omega) (.int .i64 vsd)).set (a := ⟨(w.heap.size + 1), 1, none⟩) (by dsimp only; omega) (.slice vo vus.length vc))
              have hz13 : w12.heap.size ≤ w13.heap.size := by rw [hV]; simp
              have H13 := hid hV
              clear hV XR12 XA12 XX12 D12 E12 C12
              go_wp2
              clear r0 rf0 r1 rf1 rz a0 af0 a1 af1 az x0 xf0 x1 xf1 xz
              rw [← H13.out]
              clear H13
              go_roundw
              case rel => exact ⟨j + 1, k10, sd10, vsd, vo, vc, vus, by go_num, by omega, HS, by omega, XR13, XA13, hid (E13.out.wide (by omega) (by omega)), C13, hR13, by omega⟩
              case measure => simp [intOf] <;> omega
            · have hc1 : (cv == 0) = false := by simpa using hc
              have hc2 : decide (cv = 0) = false := by simpa using hc
              clear hc hS1
              obtain ⟨w12, hV⟩ : ∃ V, V = ((w11.setCell ⟨wr.heap.size, 0, none⟩ (.int .i64 vsd)).setCell ⟨wr.heap.size, 1, none⟩ (.slice vo vus.length vc)) := ⟨_, rfl⟩
              have XR12 := hid (((XR11.out.other (a := ⟨wr.heap.size, 0, none⟩) (by dsimp only; omega) (.int .i64 vsd)).other (a := ⟨wr.heap.size, 1, none⟩) (by dsimp only; omega) (.slice vo vus.length vc)))
              rw [← hV] at XR12
              have XA12 := hid (((XA11.out.other (a := ⟨wr.heap.size, 0, none⟩) (by dsimp only; omega) (.int .i64 vsd)).other (a := ⟨wr.heap.size, 1, none⟩) (by dsimp only; omega) (.slice vo vus.length vc)))
              rw [← hV] at XA12
              have XX12 := hid (((XX11.out.set 0 (.int .i64 vsd)).set 1 (.slice vo vus.length vc)))
              rw [← hV] at XX12
              have D12 := hid (((D11.out.setOff (a := ⟨wr.heap.size, 0, none⟩) (by dsimp only; omega) (.int .i64 vsd)).setOff (a := ⟨wr.heap.size, 1, none⟩) (by dsimp only; omega) (.slice vo vus.length vc)))
              rw [← hV] at D12
              have C12 := hid (((C11.out.other (a := ⟨wr.heap.size, 0, none⟩) (by dsimp only; omega) (.int .i64 vsd)).other (a := ⟨wr.heap.size, 1, none⟩) (by dsimp only; omega) (.slice vo vus.length vc)))
              rw [← hV] at C12
              have hR12 : Grew p w w12 := by rw [hV]; exact ((hR11.set (a := ⟨wr.heap.size, 0, none⟩) (by dsimp only; omega) (.int .i64 vsd)).set (a := ⟨wr.heap.size, 1, none⟩) (by dsimp only; omega) (.slice vo vus.length vc))
              have hz12 : w11.heap.size ≤ w12.heap.size := by rw [hV]; simp
              have H12 := hid hV
              clear hV XR11 XA11 XX11 D11 C11
              go_upto_region 20 with fail
              clear rg0 rh0 rg1 rh1 ag0 ah0 ag1 ah1 xg0 xh0 xg1 xh1
              rw [← H12.out]
              clear H12
              have r0 := XR12.out.c 0 rfl
              have rf0 := XR12.out.f 0 rfl
              have r1 := XR12.out.c 1 rfl
              have rf1 := XR12.out.f 1 rfl
              have rz := XR12.out.size
              have a0 := XA12.out.c 0 rfl
              have af0 := XA12.out.f 0 rfl
              have a1 := XA12.out.c 1 rfl
              have af1 := XA12.out.f 1 rfl
              have az := XA12.out.size
              have x0 := XX12.out.c 0 rfl
              have xf0 := XX12.out.f 0 rfl
              have x1 := XX12.out.c 1 rfl
              have xf1 := XX12.out.f 1 rfl
              have xz := XX12.out.size
              go_wp2
              clear r0 rf0 r1 rf1 rz a0 af0 a1 af1 az x0 xf0 x1 xf1 xz
              go_roundw
              case rel => exact ⟨j + 1, k10, sd10, sd0, o, c, us, by go_num, by omega, HLN, by omega, XR12, XA12, hid (D12.out.wide (by omega) (by omega)), C12, hR12, by omega⟩
              case measure => simp [intOf] <;> omega
        · have r0 := XR7.out.c 0 rfl
          have rf0 := XR7.out.f 0 rfl
          have r1 := XR7.out.c 1 rfl
          have rf1 := XR7.out.f 1 rfl
          have rz := XR7.out.size
          have a0 := XA7.out.c 0 rfl
          have af0 := XA7.out.f 0 rfl
          have a1 := XA7.out.c 1 rfl
          have af1 := XA7.out.f 1 rfl
          have az := XA7.out.size
          have x0 := XX7.out.c 0 rfl
          have xf0 := XX7.out.f 0 rfl
          have x1 := XX7.out.c 1 rfl
          have xf1 := XX7.out.f 1 rfl
          have xz := XX7.out.size
          go_wp2
          have PD0 : w7.drew.cell? ⟨(w.heap.size + 1), 0, none⟩ = some (.int .i64 sd0) := a0
          have PD1 : w7.drew.cell? ⟨(w.heap.size + 1), 1, none⟩ = some (.slice o us.length c) := a1
          go_region_law (first
              | (go_simp; go_at_call 27; have _g := hz10; refine (stepSub sd0 o c us _ _ b3 w10 (by omega) HLN.out.fits D10.out).mono ?_; rintro e w11 ⟨⟨vsd, vo, vc, vus, cv, rfl, hS1⟩, hy⟩; have hb : Below w10.heap.size w10 w11 := hy; have XR11 := hid (XR10.out.grew (Grew.of_below (p := p) hb) (by omega)); have XA11 := hid (XA10.out.grew (Grew.of_below (p := p) hb) (by omega)); have XX11 := hid (XX10.out.grew (Grew.of_below (p := p) hb) (by omega)); have D11 := hid (D10.out.grew (Grew.of_below (p := p) hb) (by omega)); have C11 := hid (C10.out.later hb); have hR11 : Grew p w w11 := hR10.trans (Grew.of_below (p := p) hb); have hz11 : w10.heap.size ≤ w11.heap.size := hb.size; have P11a := XA11.out.c 0 rfl; have P11b := XA11.out.c 1 rfl; have rg0 := XR11.out.c 0 rfl; have rh0 := XR11.out.f 0 rfl; have rg1 := XR11.out.c 1 rfl; have rh1 := XR11.out.f 1 rfl; have ag0 := XA11.out.c 0 rfl; have ah0 := XA11.out.f 0 rfl; have ag1 := XA11.out.c 1 rfl; have ah1 := XA11.out.f 1 rfl; have xg0 := XX11.out.c 0 rfl; have xh0 := XX11.out.f 0 rfl; have xg1 := XX11.out.c 1 rfl; have xh1 := XX11.out.f 1 rfl; clear hy hb)
              | (go_simp; go_at_call 26; have _g := hz9; refine (one_any 2 p co cap bs k9 sd9 w9 hl (by omega) C9.out).mono ?_; rintro e w10 ⟨⟨b3, rfl⟩, hD⟩; obtain ⟨k10, sd10, hk10, hC, hg0, hsz⟩ := hD.grew; have hg : Grew p w9 w10 := hg0; have XR10 := hid (XR9.out.grew hg (by omega)); have XA10 := hid (XA9.out.grew hg (by omega)); have XX10 := hid (XX9.out.grew hg (by omega)); have D10 := hid (D9.out.grew hg (by omega)); have C10 := hid hC; have hR10 : Grew p w w10 := hR9.trans hg; have hz10 : w9.heap.size ≤ w10.heap.size := hg.size; have P10a := XA10.out.c 0 rfl; have P10b := XA10.out.c 1 rfl; clear hD hC hg0 hg hsz)
              | (go_simp; go_at_call 25; have _g := hz8; refine (pick_any 3 p co cap bs k8 sd8 w8 hl (by omega) C8.out).mono ?_; rintro e w9 ⟨⟨z2, rfl, h0z2, h1z2⟩, hD⟩; obtain ⟨k9, sd9, hk9, hC, hg0, hsz⟩ := hD.grew; have hg : Grew p w8 w9 := hg0; have XR9 := hid (XR8.out.grew hg (by omega)); have XA9 := hid (XA8.out.grew hg (by omega)); have XX9 := hid (XX8.out.grew hg (by omega)); have D9 := hid (D8.out.grew hg (by omega)); have C9 := hid hC; have hR9 : Grew p w w9 := hR8.trans hg; have hz9 : w8.heap.size ≤ w9.heap.size := hg.size; have P9a := XA9.out.c 0 rfl; have P9b := XA9.out.c 1 rfl; clear hD hC hg0 hg hsz)
              | (go_simp; go_at_call 25; refine (pick_any 6 p co cap bs k7 sd7 w7.drew hl (by omega) C7.out.drew).mono ?_; rintro e w8 ⟨⟨z, rfl, h0z, h1z⟩, hD⟩; obtain ⟨k8, sd8, hk8, hC, hg0, hsz⟩ := hD.grew; have hg : Grew p w7 w8 := hg0.from; have XR8 := hid (XR7.out.grew hg (by omega)); have XA8 := hid (XA7.out.grew hg (by omega)); have XX8 := hid (XX7.out.grew hg (by omega)); have D8 := hid (D7.out.grew hg (by omega)); have C8 := hid hC; have hR8 : Grew p w w8 := hR7.trans hg; have hz8 : w7.heap.size ≤ w8.heap.size := hg.size; have P8a := XA8.out.c 0 rfl; have P8b := XA8.out.c 1 rfl; clear hD hC hg0 hg hsz))
          all_goals
            by_cases hc : cv = 0
            · obtain ⟨hS, hE⟩ := hS1 hc
              have E11 := hid hE
              have HS := hid hS
              have hc1 : (cv == 0) = true := by simpa using hc
              have hc2 : decide (cv = 0) = true := by simpa using hc
              clear hc hS hE hS1
              obtain ⟨w12, hV⟩ : ∃ V, V = ((w11.setCell ⟨wr.heap.size, 0, none⟩ (.int .i64 vsd)).setCell ⟨wr.heap.size, 1, none⟩ (.slice vo vus.length vc)) := ⟨_, rfl⟩
              have XR12 := hid (((XR11.out.other (a := ⟨wr.heap.size, 0, none⟩) (by dsimp only; omega) (.int .i64 vsd)).other (a := ⟨wr.heap.size, 1, none⟩) (by dsimp only; omega) (.slice vo vus.length vc)))
              rw [← hV] at XR12
              have XA12 := hid (((XA11.out.other (a := ⟨wr.heap.size, 0, none⟩) (by dsimp only; omega) (.int .i64 vsd)).other (a := ⟨wr.heap.size, 1, none⟩) (by dsimp only; omega) (.slice vo vus.length vc)))
              rw [← hV] at XA12
              have XX12 := hid (((XX11.out.set 0 (.int .i64 vsd)).set 1 (.slice vo vus.length vc)))
              rw [← hV] at XX12
              have D12 := hid (((D11.out.setOff (a := ⟨wr.heap.size, 0, none⟩) (by dsimp only; omega) (.int .i64 vsd)).setOff (a := ⟨wr.heap.size, 1, none⟩) (by dsimp only; omega) (.slice vo vus.length vc)))
              rw [← hV] at D12
              have E12 := hid (((E11.out.setOff (a := ⟨wr.heap.size, 0, none⟩) (by dsimp only; omega) (.int .i64 vsd)).setOff (a := ⟨wr.heap.size, 1, none⟩) (by dsimp only; omega) (.slice vo vus.length vc)))
              rw [← hV] at E12
              have C12 := hid (((C11.out.other (a := ⟨wr.heap.size, 0, none⟩) (by dsimp only; omega) (.int .i64 vsd)).other (a := ⟨wr.heap.size, 1, none⟩) (by dsimp only; omega) (.slice vo vus.length vc)))
              rw [← hV] at C12
              have hR12 : Grew p w w12 := by rw [hV]; exact ((hR11.set (a := ⟨wr.heap.size, 0, none⟩) (by dsimp only; omega) (.int .i64 vsd)).set (a := ⟨wr.heap.size, 1, none⟩) (by dsimp only; omega) (.slice vo vus.length vc))
              have hz12 : w11.heap.size ≤ w12.heap.size := by rw [hV]; simp
              have H12 := hid hV
              clear hV XR11 XA11 XX11 D11 E11 C11
              go_upto_region 20 with fail
              clear rg0 rh0 rg1 rh1 ag0 ah0 ag1 ah1 xg0 xh0 xg1 xh1
              rw [← H12.out]
              clear H12
              have r0 := XR12.out.c 0 rfl
              have rf0 := XR12.out.f 0 rfl
              have r1 := XR12.out.c 1 rfl
              have rf1 := XR12.out.f 1 rfl
              have rz := XR12.out.size
              have a0 := XA12.out.c 0 rfl
              have af0 := XA12.out.f 0 rfl
              have a1 := XA12.out.c 1 rfl
              have af1 := XA12.out.f 1 rfl
              have az := XA12.out.size
              have x0 := XX12.out.c 0 rfl
              have xf0 := XX12.out.f 0 rfl
              have x1 := XX12.out.c 1 rfl
              have xf1 := XX12.out.f 1 rfl
              have xz := XX12.out.size
              obtain ⟨w13, hV⟩ : ∃ V, V = ((w12.setCell ⟨(w.heap.size + 1), 0, none⟩ (.int .i64 vsd)).setCell ⟨(w.heap.size + 1), 1, none⟩ (.slice vo vus.length vc)) := ⟨_, rfl⟩
              have XR13 := hid (((XR12.out.other (a := ⟨(w.heap.size + 1), 0, none⟩) (by dsimp only; omega) (.int .i64 vsd)).other (a := ⟨(w.heap.size + 1), 1, none⟩) (by dsimp only; omega) (.slice vo vus.length vc)))
              rw [← hV] at XR13
              have XA13 := hid (((XA12.out.set 0 (.int .i64 vsd)).set 1 (.slice vo vus.length vc)))
              rw [← hV] at XA13
              have XX13 := hid (((XX12.out.other (a := ⟨(w.heap.size + 1), 0, none⟩) (by dsimp only; omega) (.int .i64 vsd)).other (a := ⟨(w.heap.size + 1), 1, none⟩) (by dsimp only; omega) (.slice vo vus.length vc)))
              rw [← hV] at XX13
              have D13 := hid (((D12.out.setOff (a := ⟨(w.heap.size + 1), 0, none⟩) (by dsimp only; omega) (.int .i64 vsd)).setOff (a := ⟨(w.heap.size + 1), 1, none⟩) (by dsimp only; omega) (.slice vo vus.length vc)))
              rw [← hV] at D13
              have E13 := hid (((E12.out.setOff (a := ⟨(w.heap.size + 1), 0, none⟩) (by dsimp only; omega) (.int .i64 vsd)).setOff (a := ⟨(w.heap.size + 1), 1, none⟩) (by dsimp only; omega) (.slice vo vus.length vc)))
              rw [← hV] at E13
              have C13 := hid (((C12.out.other (a := ⟨(w.heap.size + 1), 0, none⟩) (by dsimp only; omega) (.int .i64 vsd)).other (a := ⟨(w.heap.size + 1), 1, none⟩) (by dsimp only; omega) (.slice vo vus.length vc)))
              rw [← hV] at C13
              have hR13 : Grew p w w13 := by rw [hV]; exact ((hR12.set (a := ⟨(w.heap.size + 1), 0, none⟩) (by dsimp only; omega) (.int .i64 vsd)).set (a := ⟨(w.heap.size + 1), 1, none⟩) (by dsimp only; omega) (.slice vo vus.length vc))
              have hz13 : w12.heap.size ≤ w13.heap.size := by rw [hV]; simp
              have H13 := hid hV
              clear hV XR12 XA12 XX12 D12 E12 C12
              go_wp2
              clear r0 rf0 r1 rf1 rz a0 af0 a1 af1 az x0 xf0 x1 xf1 xz
              rw [← H13.out]
              clear H13
              go_roundw
              case rel => exact ⟨j + 1, k10, sd10, vsd, vo, vc, vus, by go_num, by omega, HS, by omega, XR13, XA13, hid (E13.out.wide (by omega) (by omega)), C13, hR13, by omega⟩
              case measure => simp [intOf] <;> omega
            · have hc1 : (cv == 0) = false := by simpa using hc
              have hc2 : decide (cv = 0) = false := by simpa using hc
              clear hc hS1
              obtain ⟨w12, hV⟩ : ∃ V, V = ((w11.setCell ⟨wr.heap.size, 0, none⟩ (.int .i64 vsd)).setCell ⟨wr.heap.size, 1, none⟩ (.slice vo vus.length vc)) := ⟨_, rfl⟩
              have XR12 := hid (((XR11.out.other (a := ⟨wr.heap.size, 0, none⟩) (by dsimp only; omega) (.int .i64 vsd)).other (a := ⟨wr.heap.size, 1, none⟩) (by dsimp only; omega) (.slice vo vus.length vc)))
              rw [← hV] at XR12
              have XA12 := hid (((XA11.out.other (a := ⟨wr.heap.size, 0, none⟩) (by dsimp only; omega) (.int .i64 vsd)).other (a := ⟨wr.heap.size, 1, none⟩) (by dsimp only; omega) (.slice vo vus.length vc)))
              rw [← hV] at XA12
              have XX12 := hid (((XX11.out.set 0 (.int .i64 vsd)).set 1 (.slice vo vus.length vc)))
              rw [← hV] at XX12
              have D12 := hid (((D11.out.setOff (a := ⟨wr.heap.size, 0, none⟩) (by dsimp only; omega) (.int .i64 vsd)).setOff (a := ⟨wr.heap.size, 1, none⟩) (by dsimp only; omega) (.slice vo vus.length vc)))
              rw [← hV] at D12
              have C12 := hid (((C11.out.other (a := ⟨wr.heap.size, 0, none⟩) (by dsimp only; omega) (.int .i64 vsd)).other (a := ⟨wr.heap.size, 1, none⟩) (by dsimp only; omega) (.slice vo vus.length vc)))
              rw [← hV] at C12
              have hR12 : Grew p w w12 := by rw [hV]; exact ((hR11.set (a := ⟨wr.heap.size, 0, none⟩) (by dsimp only; omega) (.int .i64 vsd)).set (a := ⟨wr.heap.size, 1, none⟩) (by dsimp only; omega) (.slice vo vus.length vc))
              have hz12 : w11.heap.size ≤ w12.heap.size := by rw [hV]; simp
              have H12 := hid hV
              clear hV XR11 XA11 XX11 D11 C11
              go_upto_region 20 with fail
              clear rg0 rh0 rg1 rh1 ag0 ah0 ag1 ah1 xg0 xh0 xg1 xh1
              rw [← H12.out]
              clear H12
              have r0 := XR12.out.c 0 rfl
              have rf0 := XR12.out.f 0 rfl
              have r1 := XR12.out.c 1 rfl
              have rf1 := XR12.out.f 1 rfl
              have rz := XR12.out.size
              have a0 := XA12.out.c 0 rfl
              have af0 := XA12.out.f 0 rfl
              have a1 := XA12.out.c 1 rfl
              have af1 := XA12.out.f 1 rfl
              have az := XA12.out.size
              have x0 := XX12.out.c 0 rfl
              have xf0 := XX12.out.f 0 rfl
              have x1 := XX12.out.c 1 rfl
              have xf1 := XX12.out.f 1 rfl
              have xz := XX12.out.size
              go_wp2
              clear r0 rf0 r1 rf1 rz a0 af0 a1 af1 az x0 xf0 x1 xf1 xz
              go_roundw
              case rel => exact ⟨j + 1, k10, sd10, sd0, o, c, us, by go_num, by omega, HLN, by omega, XR12, XA12, hid (D12.out.wide (by omega) (by omega)), C12, hR12, by omega⟩
              case measure => simp [intOf] <;> omega
        · have r0 := XR7.out.c 0 rfl
          have rf0 := XR7.out.f 0 rfl
          have r1 := XR7.out.c 1 rfl
          have rf1 := XR7.out.f 1 rfl
          have rz := XR7.out.size
          have a0 := XA7.out.c 0 rfl
          have af0 := XA7.out.f 0 rfl
          have a1 := XA7.out.c 1 rfl
          have af1 := XA7.out.f 1 rfl
          have az := XA7.out.size
          have x0 := XX7.out.c 0 rfl
          have xf0 := XX7.out.f 0 rfl
          have x1 := XX7.out.c 1 rfl
          have xf1 := XX7.out.f 1 rfl
          have xz := XX7.out.size
          go_wp2
          have PD0 : w7.drew.cell? ⟨(w.heap.size + 1), 0, none⟩ = some (.int .i64 sd0) := a0
          have PD1 : w7.drew.cell? ⟨(w.heap.size + 1), 1, none⟩ = some (.slice o us.length c) := a1
          go_region_law (first
              | (go_simp; go_at_call 28; have _g := hz8; refine (stepHear sd0 o c us z w8 (by omega) HLN.out.fits D8.out).mono ?_; rintro e w9 ⟨⟨vsd, vo, vc, vus, xv, cv, rfl, hS1⟩, hy⟩; have hb : Below w8.heap.size w8 w9 := hy; have XR9 := hid (XR8.out.grew (Grew.of_below (p := p) hb) (by omega)); have XA9 := hid (XA8.out.grew (Grew.of_below (p := p) hb) (by omega)); have XX9 := hid (XX8.out.grew (Grew.of_below (p := p) hb) (by omega)); have D9 := hid (D8.out.grew (Grew.of_below (p := p) hb) (by omega)); have C9 := hid (C8.out.later hb); have hR9 : Grew p w w9 := hR8.trans (Grew.of_below (p := p) hb); have hz9 : w8.heap.size ≤ w9.heap.size := hb.size; have P9a := XA9.out.c 0 rfl; have P9b := XA9.out.c 1 rfl; have rg0 := XR9.out.c 0 rfl; have rh0 := XR9.out.f 0 rfl; have rg1 := XR9.out.c 1 rfl; have rh1 := XR9.out.f 1 rfl; have ag0 := XA9.out.c 0 rfl; have ah0 := XA9.out.f 0 rfl; have ag1 := XA9.out.c 1 rfl; have ah1 := XA9.out.f 1 rfl; have xg0 := XX9.out.c 0 rfl; have xh0 := XX9.out.f 0 rfl; have xg1 := XX9.out.c 1 rfl; have xh1 := XX9.out.f 1 rfl; clear hy hb)
              | (go_simp; go_at_call 25; refine (pick_any 6 p co cap bs k7 sd7 w7.drew hl (by omega) C7.out.drew).mono ?_; rintro e w8 ⟨⟨z, rfl, h0z, h1z⟩, hD⟩; obtain ⟨k8, sd8, hk8, hC, hg0, hsz⟩ := hD.grew; have hg : Grew p w7 w8 := hg0.from; have XR8 := hid (XR7.out.grew hg (by omega)); have XA8 := hid (XA7.out.grew hg (by omega)); have XX8 := hid (XX7.out.grew hg (by omega)); have D8 := hid (D7.out.grew hg (by omega)); have C8 := hid hC; have hR8 : Grew p w w8 := hR7.trans hg; have hz8 : w7.heap.size ≤ w8.heap.size := hg.size; have P8a := XA8.out.c 0 rfl; have P8b := XA8.out.c 1 rfl; clear hD hC hg0 hg hsz))
          all_goals
            by_cases hc : cv = 0
            · obtain ⟨hS, hE⟩ := hS1 hc
              have E9 := hid hE
              have HS := hid hS
              have hc1 : (cv == 0) = true := by simpa using hc
              have hc2 : decide (cv = 0) = true := by simpa using hc
              clear hc hS hE hS1
              obtain ⟨w10, hV⟩ : ∃ V, V = ((w9.setCell ⟨wr.heap.size, 0, none⟩ (.int .i64 vsd)).setCell ⟨wr.heap.size, 1, none⟩ (.slice vo vus.length vc)) := ⟨_, rfl⟩
              have XR10 := hid (((XR9.out.other (a := ⟨wr.heap.size, 0, none⟩) (by dsimp only; omega) (.int .i64 vsd)).other (a := ⟨wr.heap.size, 1, none⟩) (by dsimp only; omega) (.slice vo vus.length vc)))
              rw [← hV] at XR10
              have XA10 := hid (((XA9.out.other (a := ⟨wr.heap.size, 0, none⟩) (by dsimp only; omega) (.int .i64 vsd)).other (a := ⟨wr.heap.size, 1, none⟩) (by dsimp only; omega) (.slice vo vus.length vc)))
              rw [← hV] at XA10
              have XX10 := hid (((XX9.out.set 0 (.int .i64 vsd)).set 1 (.slice vo vus.length vc)))
              rw [← hV] at XX10
              have D10 := hid (((D9.out.setOff (a := ⟨wr.heap.size, 0, none⟩) (by dsimp only; omega) (.int .i64 vsd)).setOff (a := ⟨wr.heap.size, 1, none⟩) (by dsimp only; omega) (.slice vo vus.length vc)))
              rw [← hV] at D10
              have E10 := hid (((E9.out.setOff (a := ⟨wr.heap.size, 0, none⟩) (by dsimp only; omega) (.int .i64 vsd)).setOff (a := ⟨wr.heap.size, 1, none⟩) (by dsimp only; omega) (.slice vo vus.length vc)))
              rw [← hV] at E10
              have C10 := hid (((C9.out.other (a := ⟨wr.heap.size, 0, none⟩) (by dsimp only; omega) (.int .i64 vsd)).other (a := ⟨wr.heap.size, 1, none⟩) (by dsimp only; omega) (.slice vo vus.length vc)))
              rw [← hV] at C10
              have hR10 : Grew p w w10 := by rw [hV]; exact ((hR9.set (a := ⟨wr.heap.size, 0, none⟩) (by dsimp only; omega) (.int .i64 vsd)).set (a := ⟨wr.heap.size, 1, none⟩) (by dsimp only; omega) (.slice vo vus.length vc))
              have hz10 : w9.heap.size ≤ w10.heap.size := by rw [hV]; simp
              have H10 := hid hV
              clear hV XR9 XA9 XX9 D9 E9 C9
              go_upto_region 20 with fail
              clear rg0 rh0 rg1 rh1 ag0 ah0 ag1 ah1 xg0 xh0 xg1 xh1
              rw [← H10.out]
              clear H10
              have r0 := XR10.out.c 0 rfl
              have rf0 := XR10.out.f 0 rfl
              have r1 := XR10.out.c 1 rfl
              have rf1 := XR10.out.f 1 rfl
              have rz := XR10.out.size
              have a0 := XA10.out.c 0 rfl
              have af0 := XA10.out.f 0 rfl
              have a1 := XA10.out.c 1 rfl
              have af1 := XA10.out.f 1 rfl
              have az := XA10.out.size
              have x0 := XX10.out.c 0 rfl
              have xf0 := XX10.out.f 0 rfl
              have x1 := XX10.out.c 1 rfl
              have xf1 := XX10.out.f 1 rfl
              have xz := XX10.out.size
              obtain ⟨w11, hV⟩ : ∃ V, V = ((w10.setCell ⟨(w.heap.size + 1), 0, none⟩ (.int .i64 vsd)).setCell ⟨(w.heap.size + 1), 1, none⟩ (.slice vo vus.length vc)) := ⟨_, rfl⟩
              have XR11 := hid (((XR10.out.other (a := ⟨(w.heap.size + 1), 0, none⟩) (by dsimp only; omega) (.int .i64 vsd)).other (a := ⟨(w.heap.size + 1), 1, none⟩) (by dsimp only; omega) (.slice vo vus.length vc)))
              rw [← hV] at XR11
              have XA11 := hid (((XA10.out.set 0 (.int .i64 vsd)).set 1 (.slice vo vus.length vc)))
              rw [← hV] at XA11
              have XX11 := hid (((XX10.out.other (a := ⟨(w.heap.size + 1), 0, none⟩) (by dsimp only; omega) (.int .i64 vsd)).other (a := ⟨(w.heap.size + 1), 1, none⟩) (by dsimp only; omega) (.slice vo vus.length vc)))
              rw [← hV] at XX11
              have D11 := hid (((D10.out.setOff (a := ⟨(w.heap.size + 1), 0, none⟩) (by dsimp only; omega) (.int .i64 vsd)).setOff (a := ⟨(w.heap.size + 1), 1, none⟩) (by dsimp only; omega) (.slice vo vus.length vc)))
              rw [← hV] at D11
              have E11 := hid (((E10.out.setOff (a := ⟨(w.heap.size + 1), 0, none⟩) (by dsimp only; omega) (.int .i64 vsd)).setOff (a := ⟨(w.heap.size + 1), 1, none⟩) (by dsimp only; omega) (.slice vo vus.length vc)))
              rw [← hV] at E11
              have C11 := hid (((C10.out.other (a := ⟨(w.heap.size + 1), 0, none⟩) (by dsimp only; omega) (.int .i64 vsd)).other (a := ⟨(w.heap.size + 1), 1, none⟩) (by dsimp only; omega) (.slice vo vus.length vc)))
              rw [← hV] at C11
              have hR11 : Grew p w w11 := by rw [hV]; exact ((hR10.set (a := ⟨(w.heap.size + 1), 0, none⟩) (by dsimp only; omega) (.int .i64 vsd)).set (a := ⟨(w.heap.size + 1), 1, none⟩) (by dsimp only; omega) (.slice vo vus.length vc))
              have hz11 : w10.heap.size ≤ w11.heap.size := by rw [hV]; simp
              have H11 := hid hV
              clear hV XR10 XA10 XX10 D10 E10 C10
              go_wp2
              clear r0 rf0 r1 rf1 rz a0 af0 a1 af1 az x0 xf0 x1 xf1 xz
              rw [← H11.out]
              clear H11
              go_roundw
              case rel => exact ⟨j + 1, k8, sd8, vsd, vo, vc, vus, by go_num, by omega, HS, by omega, XR11, XA11, hid (E11.out.wide (by omega) (by omega)), C11, hR11, by omega⟩
              case measure => simp [intOf] <;> omega
            · have hc1 : (cv == 0) = false := by simpa using hc
              have hc2 : decide (cv = 0) = false := by simpa using hc
              clear hc hS1
              obtain ⟨w10, hV⟩ : ∃ V, V = ((w9.setCell ⟨wr.heap.size, 0, none⟩ (.int .i64 vsd)).setCell ⟨wr.heap.size, 1, none⟩ (.slice vo vus.length vc)) := ⟨_, rfl⟩
              have XR10 := hid (((XR9.out.other (a := ⟨wr.heap.size, 0, none⟩) (by dsimp only; omega) (.int .i64 vsd)).other (a := ⟨wr.heap.size, 1, none⟩) (by dsimp only; omega) (.slice vo vus.length vc)))
              rw [← hV] at XR10
              have XA10 := hid (((XA9.out.other (a := ⟨wr.heap.size, 0, none⟩) (by dsimp only; omega) (.int .i64 vsd)).other (a := ⟨wr.heap.size, 1, none⟩) (by dsimp only; omega) (.slice vo vus.length vc)))
              rw [← hV] at XA10
              have XX10 := hid (((XX9.out.set 0 (.int .i64 vsd)).set 1 (.slice vo vus.length vc)))
              rw [← hV] at XX10
              have D10 := hid (((D9.out.setOff (a := ⟨wr.heap.size, 0, none⟩) (by dsimp only; omega) (.int .i64 vsd)).setOff (a := ⟨wr.heap.size, 1, none⟩) (by dsimp only; omega) (.slice vo vus.length vc)))
              rw [← hV] at D10
              have C10 := hid (((C9.out.other (a := ⟨wr.heap.size, 0, none⟩) (by dsimp only; omega) (.int .i64 vsd)).other (a := ⟨wr.heap.size, 1, none⟩) (by dsimp only; omega) (.slice vo vus.length vc)))
              rw [← hV] at C10
              have hR10 : Grew p w w10 := by rw [hV]; exact ((hR9.set (a := ⟨wr.heap.size, 0, none⟩) (by dsimp only; omega) (.int .i64 vsd)).set (a := ⟨wr.heap.size, 1, none⟩) (by dsimp only; omega) (.slice vo vus.length vc))
              have hz10 : w9.heap.size ≤ w10.heap.size := by rw [hV]; simp
              have H10 := hid hV
              clear hV XR9 XA9 XX9 D9 C9
              go_upto_region 20 with fail
              clear rg0 rh0 rg1 rh1 ag0 ah0 ag1 ah1 xg0 xh0 xg1 xh1
              rw [← H10.out]
              clear H10
              have r0 := XR10.out.c 0 rfl
              have rf0 := XR10.out.f 0 rfl
              have r1 := XR10.out.c 1 rfl
              have rf1 := XR10.out.f 1 rfl
              have rz := XR10.out.size
              have a0 := XA10.out.c 0 rfl
              have af0 := XA10.out.f 0 rfl
              have a1 := XA10.out.c 1 rfl
              have af1 := XA10.out.f 1 rfl
              have az := XA10.out.size
              have x0 := XX10.out.c 0 rfl
              have xf0 := XX10.out.f 0 rfl
              have x1 := XX10.out.c 1 rfl
              have xf1 := XX10.out.f 1 rfl
              have xz := XX10.out.size
              go_wp2
              clear r0 rf0 r1 rf1 rz a0 af0 a1 af1 az x0 xf0 x1 xf1 xz
              go_roundw
              case rel => exact ⟨j + 1, k8, sd8, sd0, o, c, us, by go_num, by omega, HLN, by omega, XR10, XA10, hid (D10.out.wide (by omega) (by omega)), C10, hR10, by omega⟩
              case measure => simp [intOf] <;> omega
        · have r0 := XR7.out.c 0 rfl
          have rf0 := XR7.out.f 0 rfl
          have r1 := XR7.out.c 1 rfl
          have rf1 := XR7.out.f 1 rfl
          have rz := XR7.out.size
          have a0 := XA7.out.c 0 rfl
          have af0 := XA7.out.f 0 rfl
          have a1 := XA7.out.c 1 rfl
          have af1 := XA7.out.f 1 rfl
          have az := XA7.out.size
          have x0 := XX7.out.c 0 rfl
          have xf0 := XX7.out.f 0 rfl
          have x1 := XX7.out.c 1 rfl
          have xf1 := XX7.out.f 1 rfl
          have xz := XX7.out.size
          go_wp2_with fail
          clear r0 rf0 r1 rf1 rz a0 af0 a1 af1 az x0 xf0 x1 xf1 xz
          refine (one_any 3 p co cap bs k7 sd7 w7 hl (by omega) C7.out).mono ?_
          rintro e w8 ⟨⟨b3, rfl⟩, hD⟩
          obtain ⟨k8, sd8, hk8, hC8, hg8, hsz8⟩ := hD.grew
          have XR8 := hid (XR7.out.grew hg8 (by omega))
          have XA8 := hid (XA7.out.grew hg8 (by omega))
          have XX8 := hid (XX7.out.grew hg8 (by omega))
          have D8 := hid (D7.out.grew hg8 (by omega))
          have C8 := hid hC8
          have hR8 : Grew p w w8 := hR7.trans hg8
          have hz8 : w7.heap.size ≤ w8.heap.size := hg8.size
          clear XR7 XA7 XX7 D7 C7 hD hg8 hC8 hsz8
          cases b3
          · have r0 := XR8.out.c 0 rfl
            have rf0 := XR8.out.f 0 rfl
            have r1 := XR8.out.c 1 rfl
            have rf1 := XR8.out.f 1 rfl
            have rz := XR8.out.size
            have a0 := XA8.out.c 0 rfl
            have af0 := XA8.out.f 0 rfl
            have a1 := XA8.out.c 1 rfl
            have af1 := XA8.out.f 1 rfl
            have az := XA8.out.size
            have x0 := XX8.out.c 0 rfl
            have xf0 := XX8.out.f 0 rfl
            have x1 := XX8.out.c 1 rfl
            have xf1 := XX8.out.f 1 rfl
            have xz := XX8.out.size
            go_upto_region 20 with fail
            clear r0 rf0 r1 rf1 rz a0 af0 a1 af1 az x0 xf0 x1 xf1 xz
            have r0 := XR8.out.c 0 rfl
            have rf0 := XR8.out.f 0 rfl
            have r1 := XR8.out.c 1 rfl
            have rf1 := XR8.out.f 1 rfl
            have rz := XR8.out.size
            have a0 := XA8.out.c 0 rfl
            have af0 := XA8.out.f 0 rfl
            have a1 := XA8.out.c 1 rfl
            have af1 := XA8.out.f 1 rfl
            have az := XA8.out.size
            have x0 := XX8.out.c 0 rfl
            have xf0 := XX8.out.f 0 rfl
            have x1 := XX8.out.c 1 rfl
            have xf1 := XX8.out.f 1 rfl
            have xz := XX8.out.size
            obtain ⟨w9, hV⟩ : ∃ V, V = ((w8.setCell ⟨(w.heap.size + 1), 0, none⟩ (.int .i64 sd0)).setCell ⟨(w.heap.size + 1), 1, none⟩ (.slice o us.length c)) := ⟨_, rfl⟩
            have XR9 := hid (((XR8.out.other (a := ⟨(w.heap.size + 1), 0, none⟩) (by dsimp only; omega) (.int .i64 sd0)).other (a := ⟨(w.heap.size + 1), 1, none⟩) (by dsimp only; omega) (.slice o us.length c)))
            rw [← hV] at XR9
            have XA9 := hid (((XA8.out.set 0 (.int .i64 sd0)).set 1 (.slice o us.length c)))
            rw [← hV] at XA9
            have XX9 := hid (((XX8.out.other (a := ⟨(w.heap.size + 1), 0, none⟩) (by dsimp only; omega) (.int .i64 sd0)).other (a := ⟨(w.heap.size + 1), 1, none⟩) (by dsimp only; omega) (.slice o us.length c)))
            rw [← hV] at XX9
            have D9 := hid (((D8.out.setOff (a := ⟨(w.heap.size + 1), 0, none⟩) (by dsimp only; omega) (.int .i64 sd0)).setOff (a := ⟨(w.heap.size + 1), 1, none⟩) (by dsimp only; omega) (.slice o us.length c)))
            rw [← hV] at D9
            have C9 := hid (((C8.out.other (a := ⟨(w.heap.size + 1), 0, none⟩) (by dsimp only; omega) (.int .i64 sd0)).other (a := ⟨(w.heap.size + 1), 1, none⟩) (by dsimp only; omega) (.slice o us.length c)))
            rw [← hV] at C9
            have hR9 : Grew p w w9 := by rw [hV]; exact ((hR8.set (a := ⟨(w.heap.size + 1), 0, none⟩) (by dsimp only; omega) (.int .i64 sd0)).set (a := ⟨(w.heap.size + 1), 1, none⟩) (by dsimp only; omega) (.slice o us.length c))
            have hz9 : w8.heap.size ≤ w9.heap.size := by rw [hV]; simp
            have H9 := hid hV
            clear hV XR8 XA8 XX8 D8 C8
            go_wp2
            clear r0 rf0 r1 rf1 rz a0 af0 a1 af1 az x0 xf0 x1 xf1 xz
            rw [← H9.out]
            clear H9
            go_roundw
            case rel => exact ⟨j + 1, k8, sd8, sd0, o, c, us, by go_num, by omega, HLN, by omega, XR9, XA9, hid (D9.out.wide (by omega) (by omega)), C9, hR9, by omega⟩
            case measure => simp [intOf] <;> omega
          · have r0 := XR8.out.c 0 rfl
            have rf0 := XR8.out.f 0 rfl
            have r1 := XR8.out.c 1 rfl
            have rf1 := XR8.out.f 1 rfl
            have rz := XR8.out.size
            have a0 := XA8.out.c 0 rfl
            have af0 := XA8.out.f 0 rfl
            have a1 := XA8.out.c 1 rfl
            have af1 := XA8.out.f 1 rfl
            have az := XA8.out.size
            have x0 := XX8.out.c 0 rfl
            have xf0 := XX8.out.f 0 rfl
            have x1 := XX8.out.c 1 rfl
            have xf1 := XX8.out.f 1 rfl
            have xz := XX8.out.size
            go_wp2
            have PD0 : w8.drew.cell? ⟨(w.heap.size + 1), 0, none⟩ = some (.int .i64 sd0) := a0
            have PD1 : w8.drew.cell? ⟨(w.heap.size + 1), 1, none⟩ = some (.slice o us.length c) := a1
            go_region_law (first
                | (go_simp; go_at_call 29; have _g := hz9; refine (stepUns sd0 o c us z w9 (by omega) HLN.out.fits D9.out).mono ?_; rintro e w10 ⟨⟨vsd, vo, vc, vus, go, gn, gc, cv, rfl, hS1⟩, hy⟩; have hb : Below w9.heap.size w9 w10 := hy; have XR10 := hid (XR9.out.grew (Grew.of_below (p := p) hb) (by omega)); have XA10 := hid (XA9.out.grew (Grew.of_below (p := p) hb) (by omega)); have XX10 := hid (XX9.out.grew (Grew.of_below (p := p) hb) (by omega)); have D10 := hid (D9.out.grew (Grew.of_below (p := p) hb) (by omega)); have C10 := hid (C9.out.later hb); have hR10 : Grew p w w10 := hR9.trans (Grew.of_below (p := p) hb); have hz10 : w9.heap.size ≤ w10.heap.size := hb.size; have P10a := XA10.out.c 0 rfl; have P10b := XA10.out.c 1 rfl; have rg0 := XR10.out.c 0 rfl; have rh0 := XR10.out.f 0 rfl; have rg1 := XR10.out.c 1 rfl; have rh1 := XR10.out.f 1 rfl; have ag0 := XA10.out.c 0 rfl; have ah0 := XA10.out.f 0 rfl; have ag1 := XA10.out.c 1 rfl; have ah1 := XA10.out.f 1 rfl; have xg0 := XX10.out.c 0 rfl; have xh0 := XX10.out.f 0 rfl; have xg1 := XX10.out.c 1 rfl; have xh1 := XX10.out.f 1 rfl; clear hy hb)
                | (go_simp; go_at_call 25; refine (pick_any 6 p co cap bs k8 sd8 w8.drew hl (by omega) C8.out.drew).mono ?_; rintro e w9 ⟨⟨z, rfl, h0z, h1z⟩, hD⟩; obtain ⟨k9, sd9, hk9, hC, hg0, hsz⟩ := hD.grew; have hg : Grew p w8 w9 := hg0.from; have XR9 := hid (XR8.out.grew hg (by omega)); have XA9 := hid (XA8.out.grew hg (by omega)); have XX9 := hid (XX8.out.grew hg (by omega)); have D9 := hid (D8.out.grew hg (by omega)); have C9 := hid hC; have hR9 : Grew p w w9 := hR8.trans hg; have hz9 : w8.heap.size ≤ w9.heap.size := hg.size; have P9a := XA9.out.c 0 rfl; have P9b := XA9.out.c 1 rfl; clear hD hC hg0 hg hsz))
            all_goals
              by_cases hc : cv = 0
              · obtain ⟨hS, hE⟩ := hS1 hc
                have E10 := hid hE
                have HS := hid hS
                have hc1 : (cv == 0) = true := by simpa using hc
                have hc2 : decide (cv = 0) = true := by simpa using hc
                clear hc hS hE hS1
                obtain ⟨w11, hV⟩ : ∃ V, V = ((w10.setCell ⟨wr.heap.size, 0, none⟩ (.int .i64 vsd)).setCell ⟨wr.heap.size, 1, none⟩ (.slice vo vus.length vc)) := ⟨_, rfl⟩
                have XR11 := hid (((XR10.out.other (a := ⟨wr.heap.size, 0, none⟩) (by dsimp only; omega) (.int .i64 vsd)).other (a := ⟨wr.heap.size, 1, none⟩) (by dsimp only; omega) (.slice vo vus.length vc)))
                rw [← hV] at XR11
                have XA11 := hid (((XA10.out.other (a := ⟨wr.heap.size, 0, none⟩) (by dsimp only; omega) (.int .i64 vsd)).other (a := ⟨wr.heap.size, 1, none⟩) (by dsimp only; omega) (.slice vo vus.length vc)))
                rw [← hV] at XA11
                have XX11 := hid (((XX10.out.set 0 (.int .i64 vsd)).set 1 (.slice vo vus.length vc)))
                rw [← hV] at XX11
                have D11 := hid (((D10.out.setOff (a := ⟨wr.heap.size, 0, none⟩) (by dsimp only; omega) (.int .i64 vsd)).setOff (a := ⟨wr.heap.size, 1, none⟩) (by dsimp only; omega) (.slice vo vus.length vc)))
                rw [← hV] at D11
                have E11 := hid (((E10.out.setOff (a := ⟨wr.heap.size, 0, none⟩) (by dsimp only; omega) (.int .i64 vsd)).setOff (a := ⟨wr.heap.size, 1, none⟩) (by dsimp only; omega) (.slice vo vus.length vc)))
                rw [← hV] at E11
                have C11 := hid (((C10.out.other (a := ⟨wr.heap.size, 0, none⟩) (by dsimp only; omega) (.int .i64 vsd)).other (a := ⟨wr.heap.size, 1, none⟩) (by dsimp only; omega) (.slice vo vus.length vc)))
                rw [← hV] at C11
                have hR11 : Grew p w w11 := by rw [hV]; exact ((hR10.set (a := ⟨wr.heap.size, 0, none⟩) (by dsimp only; omega) (.int .i64 vsd)).set (a := ⟨wr.heap.size, 1, none⟩) (by dsimp only; omega) (.slice vo vus.length vc))
                have hz11 : w10.heap.size ≤ w11.heap.size := by rw [hV]; simp
                have H11 := hid hV
                clear hV XR10 XA10 XX10 D10 E10 C10
                go_upto_region 20 with fail
                clear rg0 rh0 rg1 rh1 ag0 ah0 ag1 ah1 xg0 xh0 xg1 xh1
                rw [← H11.out]
                clear H11
                have r0 := XR11.out.c 0 rfl
                have rf0 := XR11.out.f 0 rfl
                have r1 := XR11.out.c 1 rfl
                have rf1 := XR11.out.f 1 rfl
                have rz := XR11.out.size
                have a0 := XA11.out.c 0 rfl
                have af0 := XA11.out.f 0 rfl
                have a1 := XA11.out.c 1 rfl
                have af1 := XA11.out.f 1 rfl
                have az := XA11.out.size
                have x0 := XX11.out.c 0 rfl
                have xf0 := XX11.out.f 0 rfl
                have x1 := XX11.out.c 1 rfl
                have xf1 := XX11.out.f 1 rfl
                have xz := XX11.out.size
                obtain ⟨w12, hV⟩ : ∃ V, V = ((w11.setCell ⟨(w.heap.size + 1), 0, none⟩ (.int .i64 vsd)).setCell ⟨(w.heap.size + 1), 1, none⟩ (.slice vo vus.length vc)) := ⟨_, rfl⟩
                have XR12 := hid (((XR11.out.other (a := ⟨(w.heap.size + 1), 0, none⟩) (by dsimp only; omega) (.int .i64 vsd)).other (a := ⟨(w.heap.size + 1), 1, none⟩) (by dsimp only; omega) (.slice vo vus.length vc)))
                rw [← hV] at XR12
                have XA12 := hid (((XA11.out.set 0 (.int .i64 vsd)).set 1 (.slice vo vus.length vc)))
                rw [← hV] at XA12
                have XX12 := hid (((XX11.out.other (a := ⟨(w.heap.size + 1), 0, none⟩) (by dsimp only; omega) (.int .i64 vsd)).other (a := ⟨(w.heap.size + 1), 1, none⟩) (by dsimp only; omega) (.slice vo vus.length vc)))
                rw [← hV] at XX12
                have D12 := hid (((D11.out.setOff (a := ⟨(w.heap.size + 1), 0, none⟩) (by dsimp only; omega) (.int .i64 vsd)).setOff (a := ⟨(w.heap.size + 1), 1, none⟩) (by dsimp only; omega) (.slice vo vus.length vc)))
                rw [← hV] at D12
                have E12 := hid (((E11.out.setOff (a := ⟨(w.heap.size + 1), 0, none⟩) (by dsimp only; omega) (.int .i64 vsd)).setOff (a := ⟨(w.heap.size + 1), 1, none⟩) (by dsimp only; omega) (.slice vo vus.length vc)))
                rw [← hV] at E12
                have C12 := hid (((C11.out.other (a := ⟨(w.heap.size + 1), 0, none⟩) (by dsimp only; omega) (.int .i64 vsd)).other (a := ⟨(w.heap.size + 1), 1, none⟩) (by dsimp only; omega) (.slice vo vus.length vc)))
                rw [← hV] at C12
                have hR12 : Grew p w w12 := by rw [hV]; exact ((hR11.set (a := ⟨(w.heap.size + 1), 0, none⟩) (by dsimp only; omega) (.int .i64 vsd)).set (a := ⟨(w.heap.size + 1), 1, none⟩) (by dsimp only; omega) (.slice vo vus.length vc))
                have hz12 : w11.heap.size ≤ w12.heap.size := by rw [hV]; simp
                have H12 := hid hV
                clear hV XR11 XA11 XX11 D11 E11 C11
                go_wp2
                clear r0 rf0 r1 rf1 rz a0 af0 a1 af1 az x0 xf0 x1 xf1 xz
                rw [← H12.out]
                clear H12
                go_roundw
                case rel => exact ⟨j + 1, k9, sd9, vsd, vo, vc, vus, by go_num, by omega, HS, by omega, XR12, XA12, hid (E12.out.wide (by omega) (by omega)), C12, hR12, by omega⟩
                case measure => simp [intOf] <;> omega
              · have hc1 : (cv == 0) = false := by simpa using hc
                have hc2 : decide (cv = 0) = false := by simpa using hc
                clear hc hS1
                obtain ⟨w11, hV⟩ : ∃ V, V = ((w10.setCell ⟨wr.heap.size, 0, none⟩ (.int .i64 vsd)).setCell ⟨wr.heap.size, 1, none⟩ (.slice vo vus.length vc)) := ⟨_, rfl⟩
                have XR11 := hid (((XR10.out.other (a := ⟨wr.heap.size, 0, none⟩) (by dsimp only; omega) (.int .i64 vsd)).other (a := ⟨wr.heap.size, 1, none⟩) (by dsimp only; omega) (.slice vo vus.length vc)))
                rw [← hV] at XR11
                have XA11 := hid (((XA10.out.other (a := ⟨wr.heap.size, 0, none⟩) (by dsimp only; omega) (.int .i64 vsd)).other (a := ⟨wr.heap.size, 1, none⟩) (by dsimp only; omega) (.slice vo vus.length vc)))
                rw [← hV] at XA11
                have XX11 := hid (((XX10.out.set 0 (.int .i64 vsd)).set 1 (.slice vo vus.length vc)))
                rw [← hV] at XX11
                have D11 := hid (((D10.out.setOff (a := ⟨wr.heap.size, 0, none⟩) (by dsimp only; omega) (.int .i64 vsd)).setOff (a := ⟨wr.heap.size, 1, none⟩) (by dsimp only; omega) (.slice vo vus.length vc)))
                rw [← hV] at D11
                have C11 := hid (((C10.out.other (a := ⟨wr.heap.size, 0, none⟩) (by dsimp only; omega) (.int .i64 vsd)).other (a := ⟨wr.heap.size, 1, none⟩) (by dsimp only; omega) (.slice vo vus.length vc)))
                rw [← hV] at C11
                have hR11 : Grew p w w11 := by rw [hV]; exact ((hR10.set (a := ⟨wr.heap.size, 0, none⟩) (by dsimp only; omega) (.int .i64 vsd)).set (a := ⟨wr.heap.size, 1, none⟩) (by dsimp only; omega) (.slice vo vus.length vc))
                have hz11 : w10.heap.size ≤ w11.heap.size := by rw [hV]; simp
                have H11 := hid hV
                clear hV XR10 XA10 XX10 D10 C10
                go_upto_region 20 with fail
                clear rg0 rh0 rg1 rh1 ag0 ah0 ag1 ah1 xg0 xh0 xg1 xh1
                rw [← H11.out]
                clear H11
                have r0 := XR11.out.c 0 rfl
                have rf0 := XR11.out.f 0 rfl
                have r1 := XR11.out.c 1 rfl
                have rf1 := XR11.out.f 1 rfl
                have rz := XR11.out.size
                have a0 := XA11.out.c 0 rfl
                have af0 := XA11.out.f 0 rfl
                have a1 := XA11.out.c 1 rfl
                have af1 := XA11.out.f 1 rfl
                have az := XA11.out.size
                have x0 := XX11.out.c 0 rfl
                have xf0 := XX11.out.f 0 rfl
                have x1 := XX11.out.c 1 rfl
                have xf1 := XX11.out.f 1 rfl
                have xz := XX11.out.size
                go_wp2
                clear r0 rf0 r1 rf1 rz a0 af0 a1 af1 az x0 xf0 x1 xf1 xz
                go_roundw
                case rel => exact ⟨j + 1, k9, sd9, sd0, o, c, us, by go_num, by omega, HLN, by omega, XR11, XA11, hid (D11.out.wide (by omega) (by omega)), C11, hR11, by omega⟩
                case measure => simp [intOf] <;> omega
        · have e0 : (y == 0) = false := by simpa using y0
          have e1 : (y == 1) = false := by simpa using y1
          have e2 : (y == 2) = false := by simpa using y2
          have e3 : (y == 3) = false := by simpa using y3
          have r0 := XR7.out.c 0 rfl
          have rf0 := XR7.out.f 0 rfl
          have r1 := XR7.out.c 1 rfl
          have rf1 := XR7.out.f 1 rfl
          have rz := XR7.out.size
          have a0 := XA7.out.c 0 rfl
          have af0 := XA7.out.f 0 rfl
          have a1 := XA7.out.c 1 rfl
          have af1 := XA7.out.f 1 rfl
          have az := XA7.out.size
          have x0 := XX7.out.c 0 rfl
          have xf0 := XX7.out.f 0 rfl
          have x1 := XX7.out.c 1 rfl
          have xf1 := XX7.out.f 1 rfl
          have xz := XX7.out.size
          go_wp2
          have PD0 : w7.drew.cell? ⟨(w.heap.size + 1), 0, none⟩ = some (.int .i64 sd0) := a0
          have PD1 : w7.drew.cell? ⟨(w.heap.size + 1), 1, none⟩ = some (.slice o us.length c) := a1
          go_region_law (first
              | (go_simp; go_at_call 6; have _g := hz8; refine (stepPub sd0 o c us z w8 (by omega) HLN.out.fits D8.out).mono ?_; rintro e w9 ⟨⟨vsd, vo, vc, vus, go, gn, gc, cv, rfl, hS1⟩, hy⟩; have hb : Below w8.heap.size w8 w9 := hy; have XR9 := hid (XR8.out.grew (Grew.of_below (p := p) hb) (by omega)); have XA9 := hid (XA8.out.grew (Grew.of_below (p := p) hb) (by omega)); have XX9 := hid (XX8.out.grew (Grew.of_below (p := p) hb) (by omega)); have D9 := hid (D8.out.grew (Grew.of_below (p := p) hb) (by omega)); have C9 := hid (C8.out.later hb); have hR9 : Grew p w w9 := hR8.trans (Grew.of_below (p := p) hb); have hz9 : w8.heap.size ≤ w9.heap.size := hb.size; have P9a := XA9.out.c 0 rfl; have P9b := XA9.out.c 1 rfl; have rg0 := XR9.out.c 0 rfl; have rh0 := XR9.out.f 0 rfl; have rg1 := XR9.out.c 1 rfl; have rh1 := XR9.out.f 1 rfl; have ag0 := XA9.out.c 0 rfl; have ah0 := XA9.out.f 0 rfl; have ag1 := XA9.out.c 1 rfl; have ah1 := XA9.out.f 1 rfl; have xg0 := XX9.out.c 0 rfl; have xh0 := XX9.out.f 0 rfl; have xg1 := XX9.out.c 1 rfl; have xh1 := XX9.out.f 1 rfl; clear hy hb)
              | (go_simp; go_at_call 25; refine (pick_any 50 p co cap bs k7 sd7 w7.drew hl (by omega) C7.out.drew).mono ?_; rintro e w8 ⟨⟨z, rfl, h0z, h1z⟩, hD⟩; obtain ⟨k8, sd8, hk8, hC, hg0, hsz⟩ := hD.grew; have hg : Grew p w7 w8 := hg0.from; have XR8 := hid (XR7.out.grew hg (by omega)); have XA8 := hid (XA7.out.grew hg (by omega)); have XX8 := hid (XX7.out.grew hg (by omega)); have D8 := hid (D7.out.grew hg (by omega)); have C8 := hid hC; have hR8 : Grew p w w8 := hR7.trans hg; have hz8 : w7.heap.size ≤ w8.heap.size := hg.size; have P8a := XA8.out.c 0 rfl; have P8b := XA8.out.c 1 rfl; clear hD hC hg0 hg hsz))
          all_goals
            by_cases hc : cv = 0
            · obtain ⟨hS, hE⟩ := hS1 hc
              have E9 := hid hE
              have HS := hid hS
              have hc1 : (cv == 0) = true := by simpa using hc
              have hc2 : decide (cv = 0) = true := by simpa using hc
              clear hc hS hE hS1
              obtain ⟨w10, hV⟩ : ∃ V, V = ((w9.setCell ⟨wr.heap.size, 0, none⟩ (.int .i64 vsd)).setCell ⟨wr.heap.size, 1, none⟩ (.slice vo vus.length vc)) := ⟨_, rfl⟩
              have XR10 := hid (((XR9.out.other (a := ⟨wr.heap.size, 0, none⟩) (by dsimp only; omega) (.int .i64 vsd)).other (a := ⟨wr.heap.size, 1, none⟩) (by dsimp only; omega) (.slice vo vus.length vc)))
              rw [← hV] at XR10
              have XA10 := hid (((XA9.out.other (a := ⟨wr.heap.size, 0, none⟩) (by dsimp only; omega) (.int .i64 vsd)).other (a := ⟨wr.heap.size, 1, none⟩) (by dsimp only; omega) (.slice vo vus.length vc)))
              rw [← hV] at XA10
              have XX10 := hid (((XX9.out.set 0 (.int .i64 vsd)).set 1 (.slice vo vus.length vc)))
              rw [← hV] at XX10
              have D10 := hid (((D9.out.setOff (a := ⟨wr.heap.size, 0, none⟩) (by dsimp only; omega) (.int .i64 vsd)).setOff (a := ⟨wr.heap.size, 1, none⟩) (by dsimp only; omega) (.slice vo vus.length vc)))
              rw [← hV] at D10
              have E10 := hid (((E9.out.setOff (a := ⟨wr.heap.size, 0, none⟩) (by dsimp only; omega) (.int .i64 vsd)).setOff (a := ⟨wr.heap.size, 1, none⟩) (by dsimp only; omega) (.slice vo vus.length vc)))
              rw [← hV] at E10
              have C10 := hid (((C9.out.other (a := ⟨wr.heap.size, 0, none⟩) (by dsimp only; omega) (.int .i64 vsd)).other (a := ⟨wr.heap.size, 1, none⟩) (by dsimp only; omega) (.slice vo vus.length vc)))
              rw [← hV] at C10
              have hR10 : Grew p w w10 := by rw [hV]; exact ((hR9.set (a := ⟨wr.heap.size, 0, none⟩) (by dsimp only; omega) (.int .i64 vsd)).set (a := ⟨wr.heap.size, 1, none⟩) (by dsimp only; omega) (.slice vo vus.length vc))
              have hz10 : w9.heap.size ≤ w10.heap.size := by rw [hV]; simp
              have H10 := hid hV
              clear hV XR9 XA9 XX9 D9 E9 C9
              go_upto_region 20 with fail
              clear rg0 rh0 rg1 rh1 ag0 ah0 ag1 ah1 xg0 xh0 xg1 xh1
              rw [← H10.out]
              clear H10
              have r0 := XR10.out.c 0 rfl
              have rf0 := XR10.out.f 0 rfl
              have r1 := XR10.out.c 1 rfl
              have rf1 := XR10.out.f 1 rfl
              have rz := XR10.out.size
              have a0 := XA10.out.c 0 rfl
              have af0 := XA10.out.f 0 rfl
              have a1 := XA10.out.c 1 rfl
              have af1 := XA10.out.f 1 rfl
              have az := XA10.out.size
              have x0 := XX10.out.c 0 rfl
              have xf0 := XX10.out.f 0 rfl
              have x1 := XX10.out.c 1 rfl
              have xf1 := XX10.out.f 1 rfl
              have xz := XX10.out.size
              obtain ⟨w11, hV⟩ : ∃ V, V = ((w10.setCell ⟨(w.heap.size + 1), 0, none⟩ (.int .i64 vsd)).setCell ⟨(w.heap.size + 1), 1, none⟩ (.slice vo vus.length vc)) := ⟨_, rfl⟩
              have XR11 := hid (((XR10.out.other (a := ⟨(w.heap.size + 1), 0, none⟩) (by dsimp only; omega) (.int .i64 vsd)).other (a := ⟨(w.heap.size + 1), 1, none⟩) (by dsimp only; omega) (.slice vo vus.length vc)))
              rw [← hV] at XR11
              have XA11 := hid (((XA10.out.set 0 (.int .i64 vsd)).set 1 (.slice vo vus.length vc)))
              rw [← hV] at XA11
              have XX11 := hid (((XX10.out.other (a := ⟨(w.heap.size + 1), 0, none⟩) (by dsimp only; omega) (.int .i64 vsd)).other (a := ⟨(w.heap.size + 1), 1, none⟩) (by dsimp only; omega) (.slice vo vus.length vc)))
              rw [← hV] at XX11
              have D11 := hid (((D10.out.setOff (a := ⟨(w.heap.size + 1), 0, none⟩) (by dsimp only; omega) (.int .i64 vsd)).setOff (a := ⟨(w.heap.size + 1), 1, none⟩) (by dsimp only; omega) (.slice vo vus.length vc)))
              rw [← hV] at D11
              have E11 := hid (((E10.out.setOff (a := ⟨(w.heap.size + 1), 0, none⟩) (by dsimp only; omega) (.int .i64 vsd)).setOff (a := ⟨(w.heap.size + 1), 1, none⟩) (by dsimp only; omega) (.slice vo vus.length vc)))
              rw [← hV] at E11
              have C11 := hid (((C10.out.other (a := ⟨(w.heap.size + 1), 0, none⟩) (by dsimp only; omega) (.int .i64 vsd)).other (a := ⟨(w.heap.size + 1), 1, none⟩) (by dsimp only; omega) (.slice vo vus.length vc)))
              rw [← hV] at C11
              have hR11 : Grew p w w11 := by rw [hV]; exact ((hR10.set (a := ⟨(w.heap.size + 1), 0, none⟩) (by dsimp only; omega) (.int .i64 vsd)).set (a := ⟨(w.heap.size + 1), 1, none⟩) (by dsimp only; omega) (.slice vo vus.length vc))
              have hz11 : w10.heap.size ≤ w11.heap.size := by rw [hV]; simp
              have H11 := hid hV
              clear hV XR10 XA10 XX10 D10 E10 C10
              go_wp2
              clear r0 rf0 r1 rf1 rz a0 af0 a1 af1 az x0 xf0 x1 xf1 xz
              rw [← H11.out]
              clear H11
              go_roundw
              case rel => exact ⟨j + 1, k8, sd8, vsd, vo, vc, vus, by go_num, by omega, HS, by omega, XR11, XA11, hid (E11.out.wide (by omega) (by omega)), C11, hR11, by omega⟩
              case measure => simp [intOf] <;> omega
            · have hc1 : (cv == 0) = false := by simpa using hc
              have hc2 : decide (cv = 0) = false := by simpa using hc
              clear hc hS1
              obtain ⟨w10, hV⟩ : ∃ V, V = ((w9.setCell ⟨wr.heap.size, 0, none⟩ (.int .i64 vsd)).setCell ⟨wr.heap.size, 1, none⟩ (.slice vo vus.length vc)) := ⟨_, rfl⟩
              have XR10 := hid (((XR9.out.other (a := ⟨wr.heap.size, 0, none⟩) (by dsimp only; omega) (.int .i64 vsd)).other (a := ⟨wr.heap.size, 1, none⟩) (by dsimp only; omega) (.slice vo vus.length vc)))
              rw [← hV] at XR10
              have XA10 := hid (((XA9.out.other (a := ⟨wr.heap.size, 0, none⟩) (by dsimp only; omega) (.int .i64 vsd)).other (a := ⟨wr.heap.size, 1, none⟩) (by dsimp only; omega) (.slice vo vus.length vc)))
              rw [← hV] at XA10
              have XX10 := hid (((XX9.out.set 0 (.int .i64 vsd)).set 1 (.slice vo vus.length vc)))
              rw [← hV] at XX10
              have D10 := hid (((D9.out.setOff (a := ⟨wr.heap.size, 0, none⟩) (by dsimp only; omega) (.int .i64 vsd)).setOff (a := ⟨wr.heap.size, 1, none⟩) (by dsimp only; omega) (.slice vo vus.length vc)))
              rw [← hV] at D10
              have C10 := hid (((C9.out.other (a := ⟨wr.heap.size, 0, none⟩) (by dsimp only; omega) (.int .i64 vsd)).other (a := ⟨wr.heap.size, 1, none⟩) (by dsimp only; omega) (.slice vo vus.length vc)))
              rw [← hV] at C10
              have hR10 : Grew p w w10 := by rw [hV]; exact ((hR9.set (a := ⟨wr.heap.size, 0, none⟩) (by dsimp only; omega) (.int .i64 vsd)).set (a := ⟨wr.heap.size, 1, none⟩) (by dsimp only; omega) (.slice vo vus.length vc))
              have hz10 : w9.heap.size ≤ w10.heap.size := by rw [hV]; simp
              have H10 := hid hV
              clear hV XR9 XA9 XX9 D9 C9
              go_upto_region 20 with fail
              clear rg0 rh0 rg1 rh1 ag0 ah0 ag1 ah1 xg0 xh0 xg1 xh1
              rw [← H10.out]
              clear H10
              have r0 := XR10.out.c 0 rfl
              have rf0 := XR10.out.f 0 rfl
              have r1 := XR10.out.c 1 rfl
              have rf1 := XR10.out.f 1 rfl
              have rz := XR10.out.size
              have a0 := XA10.out.c 0 rfl
              have af0 := XA10.out.f 0 rfl
              have a1 := XA10.out.c 1 rfl
              have af1 := XA10.out.f 1 rfl
              have az := XA10.out.size
              have x0 := XX10.out.c 0 rfl
              have xf0 := XX10.out.f 0 rfl
              have x1 := XX10.out.c 1 rfl
              have xf1 := XX10.out.f 1 rfl
              have xz := XX10.out.size
              go_wp2
              clear r0 rf0 r1 rf1 rz a0 af0 a1 af1 az x0 xf0 x1 xf1 xz
              go_roundw
              case rel => exact ⟨j + 1, k8, sd8, sd0, o, c, us, by go_num, by omega, HLN, by omega, XR10, XA10, hid (D10.out.wide (by omega) (by omega)), C10, hR10, by omega⟩
              case measure => simp [intOf] <;> omega
      · have hm1 : decide ((j : Int) < (m : Int)) = false := by simp <;> omega
        have HFT := hid HLN.out.fits
        have r0 := XR5.out.c 0 rfl
        have rf0 := XR5.out.f 0 rfl
        have r1 := XR5.out.c 1 rfl
        have rf1 := XR5.out.f 1 rfl
        have rz := XR5.out.size
        have a0 := XA5.out.c 0 rfl
        have af0 := XA5.out.f 0 rfl
        have a1 := XA5.out.c 1 rfl
        have af1 := XA5.out.f 1 rfl
        have az := XA5.out.size
        go_wp2_with fail
        clear r0 rf0 r1 rf1 rz a0 af0 a1 af1 az
        refine (pick_any 40 p co cap bs k1 sd1 wr hl (by omega) C5.out).mono ?_
        rintro e w6 ⟨⟨y, rfl, h0y, h1y⟩, hD⟩
        obtain ⟨k6, sd6, hk6, hC6, hg6, hsz6⟩ := hD.grew
        have XR6 := hid (XR5.out.grew hg6 (by omega))
        have XA6 := hid (XA5.out.grew hg6 (by omega))
        have D6 := hid (D5.out.grew hg6 (by omega))
        have C6 := hid hC6
        have hR6 : Grew p w w6 := hR5.trans hg6
        have hz6 : wr.heap.size ≤ w6.heap.size := hg6.size
        clear XR5 XA5 D5 C5 hD hg6 hC6 hsz6
        have hy4 : y = 0 ∨ y = 1 ∨ y = 2 ∨ (y ≠ 0 ∧ y ≠ 1 ∧ y ≠ 2) := by omega
        clear h0y h1y
        rcases hy4 with rfl | rfl | rfl | ⟨y0, y1, y2⟩
        · have r0 := XR6.out.c 0 rfl
          have rf0 := XR6.out.f 0 rfl
          have r1 := XR6.out.c 1 rfl
          have rf1 := XR6.out.f 1 rfl
          have rz := XR6.out.size
          have a0 := XA6.out.c 0 rfl
          have af0 := XA6.out.f 0 rfl
          have a1 := XA6.out.c 1 rfl
          have af1 := XA6.out.f 1 rfl
          have az := XA6.out.size
          obtain ⟨w7, hV⟩ : ∃ V, V = w6.alloc (.cells #[.int .i64 (-1), .int .i64 1000000, .int .i64 1000001] 3) := ⟨_, rfl⟩
          have XR7 := hid (XR6.out.alloc (.cells #[.int .i64 (-1), .int .i64 1000000, .int .i64 1000001] 3))
          rw [← hV] at XR7
          have XA7 := hid (XA6.out.alloc (.cells #[.int .i64 (-1), .int .i64 1000000, .int .i64 1000001] 3))
          rw [← hV] at XA7
          have D7 := hid (D6.out.later (below1 w6 (.cells #[.int .i64 (-1), .int .i64 1000000, .int .i64 1000001] 3)))
          rw [← hV] at D7
          have C7 := hid (C6.out.later (below1 w6 (.cells #[.int .i64 (-1), .int .i64 1000000, .int .i64 1000001] 3)))
          rw [← hV] at C7
          have hR7 : Grew p w w7 := by rw [hV]; exact hR6.trans (Grew.alloc p _ _)
          have hz7 : w6.heap.size ≤ w7.heap.size := by rw [hV]; simp
          have H7 := hid hV
          clear hV XR6 XA6 D6 C6
          have XU7 : Hid (Bx w7 w6.heap.size [.int .i64 (-1), .int .i64 1000000, .int .i64 1000001]) := by rw [H7.out]; exact Bx.new [.int .i64 (-1), .int .i64 1000000, .int .i64 1000001] _ rfl
          have hy7 : w6.heap.size < w7.heap.size := XU7.out.size
          go_wp2_with fail
          clear r0 rf0 r1 rf1 rz a0 af0 a1 af1 az
          rw [← H7.out]
          clear H7
          refine (among_in [-1, 1000000, 1000001] w6.heap.size p co cap bs k6 sd6 w7 hl (by omega) C7.out (by simp) (by simp) XU7.out (by omega)).mono ?_
          rintro e w8 ⟨⟨z, _, rfl⟩, hD⟩
          obtain ⟨k8, sd8, hk8, hC8, hg8, hsz8⟩ := hD.grew
          have XR8 := hid (XR7.out.grew hg8 (by omega))
          have XA8 := hid (XA7.out.grew hg8 (by omega))
          have XU8 := hid (XU7.out.grew hg8 (by omega))
          have D8 := hid (D7.out.grew hg8 (by omega))
          have C8 := hid hC8
          have hR8 : Grew p w w8 := hR7.trans hg8
          have hz8 : w7.heap.size ≤ w8.heap.size := hg8.size
          clear XR7 XA7 XU7 D7 C7 hD hg8 hC8 hsz8
          have r0 := XR8.out.c 0 rfl
          have rf0 := XR8.out.f 0 rfl
          have r1 := XR8.out.c 1 rfl
          have rf1 := XR8.out.f 1 rfl
          have rz := XR8.out.size
          have a0 := XA8.out.c 0 rfl
          have af0 := XA8.out.f 0 rfl
          have a1 := XA8.out.c 1 rfl
          have af1 := XA8.out.f 1 rfl
          have az := XA8.out.size
          have u0 := XU8.out.c 0 rfl
          have uf0 := XU8.out.f 0 rfl
          have u1 := XU8.out.c 1 rfl
          have uf1 := XU8.out.f 1 rfl
          have u2 := XU8.out.c 2 rfl
          have uf2 := XU8.out.f 2 rfl
          have uz := XU8.out.size
          obtain ⟨w9, hV⟩ : ∃ V, V = (w8.setCell ⟨(w.heap.size + 1), 0, none⟩ (.int .i64 z)) := ⟨_, rfl⟩
          have XR9 := hid ((XR8.out.other (a := ⟨(w.heap.size + 1), 0, none⟩) (by dsimp only; omega) (.int .i64 z)))
          rw [← hV] at XR9
          have XA9 := hid ((XA8.out.set 0 (.int .i64 z)))
          rw [← hV] at XA9
          have XU9 := hid ((XU8.out.other (a := ⟨(w.heap.size + 1), 0, none⟩) (by dsimp only; omega) (.int .i64 z)))
          rw [← hV] at XU9
          have D9 := hid ((D8.out.setOff (a := ⟨(w.heap.size + 1), 0, none⟩) (by dsimp only; omega) (.int .i64 z)))
          rw [← hV] at D9
          have C9 := hid ((C8.out.other (a := ⟨(w.heap.size + 1), 0, none⟩) (by dsimp only; omega) (.int .i64 z)))
          rw [← hV] at C9
          have hR9 : Grew p w w9 := by rw [hV]; exact (hR8.set (a := ⟨(w.heap.size + 1), 0, none⟩) (by dsimp only; omega) (.int .i64 z))
          have hz9 : w8.heap.size ≤ w9.heap.size := by rw [hV]; simp
          have H9 := hid hV
          clear hV XR8 XA8 XU8 D8 C8
          go_upto_region 30 with fail
          clear r0 rf0 r1 rf1 rz a0 af0 a1 af1 az u0 uf0 u1 uf1 u2 uf2 uz
          rw [← H9.out]
          clear H9
          have r0 := XR9.out.c 0 rfl
          have rf0 := XR9.out.f 0 rfl
          have r1 := XR9.out.c 1 rfl
          have rf1 := XR9.out.f 1 rfl
          have rz := XR9.out.size
          have a0 := XA9.out.c 0 rfl
          have af0 := XA9.out.f 0 rfl
          have a1 := XA9.out.c 1 rfl
          have af1 := XA9.out.f 1 rfl
          have az := XA9.out.size
          have u0 := XU9.out.c 0 rfl
          have uf0 := XU9.out.f 0 rfl
          have u1 := XU9.out.c 1 rfl
          have uf1 := XU9.out.f 1 rfl
          have u2 := XU9.out.c 2 rfl
          have uf2 := XU9.out.f 2 rfl
          have uz := XU9.out.size
          obtain ⟨w10, hV⟩ : ∃ V, V = ((w9.setCell ⟨w.heap.size, 0, none⟩ (.int .i64 z)).setCell ⟨w.heap.size, 1, none⟩ (.slice o us.length c)) := ⟨_, rfl⟩
          have XR10 := hid (((XR9.out.set 0 (.int .i64 z)).set 1 (.slice o us.length c)))
          rw [← hV] at XR10
          have XA10 := hid (((XA9.out.other (a := ⟨w.heap.size, 0, none⟩) (by dsimp only; omega) (.int .i64 z)).other (a := ⟨w.heap.size, 1, none⟩) (by dsimp only; omega) (.slice o us.length c)))
          rw [← hV] at XA10
          have XU10 := hid (((XU9.out.other (a := ⟨w.heap.size, 0, none⟩) (by dsimp only; omega) (.int .i64 z)).other (a := ⟨w.heap.size, 1, none⟩) (by dsimp only; omega) (.slice o us.length c)))
          rw [← hV] at XU10
          have D10 := hid (((D9.out.setOff (a := ⟨w.heap.size, 0, none⟩) (by dsimp only; omega) (.int .i64 z)).setOff (a := ⟨w.heap.size, 1, none⟩) (by dsimp only; omega) (.slice o us.length c)))
          rw [← hV] at D10
          have C10 := hid (((C9.out.other (a := ⟨w.heap.size, 0, none⟩) (by dsimp only; omega) (.int .i64 z)).other (a := ⟨w.heap.size, 1, none⟩) (by dsimp only; omega) (.slice o us.length c)))
          rw [← hV] at C10
          have hR10 : Grew p w w10 := by rw [hV]; exact ((hR9.set (a := ⟨w.heap.size, 0, none⟩) (by dsimp only; omega) (.int .i64 z)).set (a := ⟨w.heap.size, 1, none⟩) (by dsimp only; omega) (.slice o us.length c))
          have hz10 : w9.heap.size ≤ w10.heap.size := by rw [hV]; simp
          have H10 := hid hV
          clear hV XR9 XA9 XU9 D9 C9
          go_wp2
          clear r0 rf0 r1 rf1 rz a0 af0 a1 af1 az u0 uf0 u1 uf1 u2 uf2 uz
          rw [← H10.out]
          clear H10
          have r0 := XR10.out.c 0 rfl
          have rf0 := XR10.out.f 0 rfl
          have r1 := XR10.out.c 1 rfl
          have rf1 := XR10.out.f 1 rfl
          have rz := XR10.out.size
          have a0 := XA10.out.c 0 rfl
          have af0 := XA10.out.f 0 rfl
          have a1 := XA10.out.c 1 rfl
          have af1 := XA10.out.f 1 rfl
          have az := XA10.out.size
          have u0 := XU10.out.c 0 rfl
          have uf0 := XU10.out.f 0 rfl
          have u1 := XU10.out.c 1 rfl
          have uf1 := XU10.out.f 1 rfl
          have u2 := XU10.out.c 2 rfl
          have uf2 := XU10.out.f 2 rfl
          have uz := XU10.out.size
          refine bodyPost_ret (v := .agg #[.int .i64 z, .slice o us.length c]) (by simp [results, Try.results12, go_sem, r0, r1]) rfl ?_
          exact ⟨⟨z, o, c, us, rfl, ⟨by omega, HFT.out⟩, D10.out.wide (by omega) (by omega)⟩, k8, sd8, by omega, C10.out, hR10⟩
        · have r0 := XR6.out.c 0 rfl
          have rf0 := XR6.out.f 0 rfl
          have r1 := XR6.out.c 1 rfl
          have rf1 := XR6.out.f 1 rfl
          have rz := XR6.out.size
          have a0 := XA6.out.c 0 rfl
          have af0 := XA6.out.f 0 rfl
          have a1 := XA6.out.c 1 rfl
          have af1 := XA6.out.f 1 rfl
          have az := XA6.out.size
          go_wp2
          have PD : w6.drew.cell? ⟨(w.heap.size + 1), 1, none⟩ = some (.slice o us.length c) := a1
          have PB : (w6.alloc (.cells #[.int .i64 0, .int .i64 1, .int .i64 20, .int .i64 21] 3)).drew.cell? ⟨(w.heap.size + 1), 1, none⟩ = some (.slice o us.length c) := (XA6.out.alloc (.cells #[.int .i64 0, .int .i64 1, .int .i64 20, .int .i64 21] 3)).c 1 rfl
          go_region_law (first
              | (refine appT (w9.alloc (.cells #[.int .i64 z, .int .i64 z2, .bool false, .int .i64 z3, .slice none 0 0] 36)) o c us Dl.out (by rfl) (.tmp 83) (.tmp 92) (by rfl) (by rfl) (by simp <;> omega) w9.heap.size z z2 z3 false (by rfl) _ HN.out (by omega) ?_; intro to3 tc3 w10 hB hD3; obtain ⟨zs, hzs⟩ : ∃ zs, zs = us ++ [((z, z2, false, z3, (none, 0, [])) : LSub)] := ⟨_, rfl⟩; have hzl : zs.length ≤ 11 := (by rw [hzs]; simp <;> omega); have HFZ : Hid (Fits zs) := hid (by rw [hzs]; intro a ha; rcases List.mem_append.1 ha with h | h; exact HFT.out a h; simp at h; subst h; simp); rw [← hzs] at hD3 ⊢; clear hzs; have hz10 : w9.heap.size + 1 ≤ w10.heap.size := (by have := hB.size; simpa using this); have XR10 := hid (XRl.out.below hB (by omega)); have XA10 := hid (XAl.out.below hB (by omega)); have D10 := hid hD3; have C10 := hid (Cl.out.below hB (by omega)); have hR10 := hRl.of_below2 hB (by omega); have P10 : w10.cell? ⟨(w.heap.size + 1), 1, none⟩ = some (.slice o us.length c) := XA10.out.c 1 rfl; have rg0 := XR10.out.c 0 rfl; have rh0 := XR10.out.f 0 rfl; have rg1 := XR10.out.c 1 rfl; have rh1 := XR10.out.f 1 rfl; have ag0 := XA10.out.c 0 rfl; have ah0 := XA10.out.f 0 rfl; have ag1 := XA10.out.c 1 rfl; have ah1 := XA10.out.f 1 rfl; clear hB hD3)
              | (go_simp; go_at_call 25; have _g := z2; refine (pick_any 2 p co cap bs k8 sd8 w8 hl (by omega) C8.out).mono ?_; rintro e w9 ⟨⟨z3, rfl, h0z3, h1z3⟩, hD⟩; obtain ⟨k9, sd9, hk9, hC, hg0, hsz⟩ := hD.grew; have hg : Grew p w8 w9 := hg0; have XR9 := hid ((XR8.out).grew hg (by omega)); have XA9 := hid ((XA8.out).grew hg (by omega)); have D9 := hid ((D8.out).grew hg (by omega)); have C9 := hid hC; have hR9 : Grew p w w9 := hR8.trans hg; have hz9 : w8.heap.size ≤ w9.heap.size := hg.size; have P9 : w9.cell? ⟨(w.heap.size + 1), 1, none⟩ = some (.slice o us.length c) := XA9.out.c 1 rfl; have XRl := hid (XR9.out.alloc (.cells #[.int .i64 z, .int .i64 z2, .bool false, .int .i64 z3, .slice none 0 0] 36)); have XAl := hid (XA9.out.alloc (.cells #[.int .i64 z, .int .i64 z2, .bool false, .int .i64 z3, .slice none 0 0] 36)); have Dl := hid (D9.out.later (below1 w9 (.cells #[.int .i64 z, .int .i64 z2, .bool false, .int .i64 z3, .slice none 0 0] 36))); have Cl := hid (C9.out.later (below1 w9 (.cells #[.int .i64 z, .int .i64 z2, .bool false, .int .i64 z3, .slice none 0 0] 36))); have hRl : Grew p w (w9.alloc (.cells #[.int .i64 z, .int .i64 z2, .bool false, .int .i64 z3, .slice none 0 0] 36)) := hR9.trans (Grew.alloc p _ _); have HN : Hid (hSub.In (w9.heap.size + 1) (w9.alloc (.cells #[.int .i64 z, .int .i64 z2, .bool false, .int .i64 z3, .slice none 0 0] 36)) (some ⟨w9.heap.size, 0, none⟩) [((z, z2, false, z3, (none, 0, [])) : LSub)]) := hSub_one (by omega) (Bx.new _ _ rfl); have PL : (w9.alloc (.cells #[.int .i64 z, .int .i64 z2, .bool false, .int .i64 z3, .slice none 0 0] 36)).cell? ⟨(w.heap.size + 1), 1, none⟩ = some (.slice o us.length c) := XAl.out.c 1 rfl; clear hD hC hg0 hg hsz)
              | (go_simp; go_at_call 30; have _g := XUB; refine (among_in [0, 1, 20, 21] w6.heap.size p co cap bs k7 sd7 w7 hl (by omega) C7.out (by simp) (by simp) XUB.out (by omega)).mono ?_; rintro e w8 ⟨⟨z2, _, rfl⟩, hD⟩; obtain ⟨k8, sd8, hk8, hC, hg0, hsz⟩ := hD.grew; have hg : Grew p w7 w8 := hg0; have XR8 := hid ((XR7.out).grew hg (by omega)); have XA8 := hid ((XA7.out).grew hg (by omega)); have D8 := hid ((D7.out).grew hg (by omega)); have C8 := hid hC; have hR8 : Grew p w w8 := hR7.trans hg; have hz8 : w7.heap.size ≤ w8.heap.size := hg.size; have P8 : w8.cell? ⟨(w.heap.size + 1), 1, none⟩ = some (.slice o us.length c) := XA8.out.c 1 rfl; clear hD hC hg0 hg hsz)
              | (go_simp; go_at_call 30; have _g := XU; refine (among_in [0, 1, 20, 21] w7.heap.size p co cap bs k7 sd7 (w7.alloc (.cells #[.int .i64 0, .int .i64 1, .int .i64 20, .int .i64 21] 3)) hl (by omega) (C7.out.later (below1 w7 (.cells #[.int .i64 0, .int .i64 1, .int .i64 20, .int .i64 21] 3))) (by simp) (by simp) XU.out (by omega)).mono ?_; rintro e w8 ⟨⟨z2, _, rfl⟩, hD⟩; obtain ⟨k8, sd8, hk8, hC, hg0, hsz⟩ := hD.grew; have hg : Grew p (w7.alloc (.cells #[.int .i64 0, .int .i64 1, .int .i64 20, .int .i64 21] 3)) w8 := hg0; have XR8 := hid ((XR7.out.alloc (.cells #[.int .i64 0, .int .i64 1, .int .i64 20, .int .i64 21] 3)).grew hg (by omega)); have XA8 := hid ((XA7.out.alloc (.cells #[.int .i64 0, .int .i64 1, .int .i64 20, .int .i64 21] 3)).grew hg (by omega)); have D8 := hid ((D7.out.later (below1 w7 (.cells #[.int .i64 0, .int .i64 1, .int .i64 20, .int .i64 21] 3))).grew hg (by omega)); have C8 := hid hC; have hR8 : Grew p w w8 := (hR7.trans (Grew.alloc p w7 (.cells #[.int .i64 0, .int .i64 1, .int .i64 20, .int .i64 21] 3))).trans hg; have hz8 : w7.heap.size + 1 ≤ w8.heap.size := (by have := hg.size; simpa using this); have P8 : w8.cell? ⟨(w.heap.size + 1), 1, none⟩ = some (.slice o us.length c) := XA8.out.c 1 rfl; clear hD hC hg0 hg hsz)
              | (go_simp; go_at_call 25; refine (pick_any 9 p co cap bs k6 sd6 (w6.alloc (.cells #[.int .i64 0, .int .i64 1, .int .i64 20, .int .i64 21] 3)).drew hl (by omega) (C6.out.later (below1 w6 (.cells #[.int .i64 0, .int .i64 1, .int .i64 20, .int .i64 21] 3))).drew).mono ?_; rintro e w7 ⟨⟨z, rfl, h0z, h1z⟩, hD⟩; obtain ⟨k7, sd7, hk7, hC, hg0, hsz⟩ := hD.grew; have hg : Grew p (w6.alloc (.cells #[.int .i64 0, .int .i64 1, .int .i64 20, .int .i64 21] 3)) w7 := hg0.from; have XR7 := hid ((XR6.out.alloc (.cells #[.int .i64 0, .int .i64 1, .int .i64 20, .int .i64 21] 3)).grew hg (by omega)); have XA7 := hid ((XA6.out.alloc (.cells #[.int .i64 0, .int .i64 1, .int .i64 20, .int .i64 21] 3)).grew hg (by omega)); have D7 := hid ((D6.out.later (below1 w6 (.cells #[.int .i64 0, .int .i64 1, .int .i64 20, .int .i64 21] 3))).grew hg (by omega)); have C7 := hid hC; have hR7 : Grew p w w7 := (hR6.trans (Grew.alloc p w6 (.cells #[.int .i64 0, .int .i64 1, .int .i64 20, .int .i64 21] 3))).trans hg; have hz7 : w6.heap.size + 1 ≤ w7.heap.size := (by have := hg.size; simpa using this); have P7 : w7.cell? ⟨(w.heap.size + 1), 1, none⟩ = some (.slice o us.length c) := XA7.out.c 1 rfl; have XUB : Hid (Bx w7 w6.heap.size [.int .i64 0, .int .i64 1, .int .i64 20, .int .i64 21]) := hid ((Bx.new (w := w6) [.int .i64 0, .int .i64 1, .int .i64 20, .int .i64 21] _ rfl).grew hg (by omega)); clear hD hC hg0 hg hsz)
              | (go_simp; go_at_call 25; refine (pick_any 9 p co cap bs k6 sd6 w6.drew hl (by omega) C6.out.drew).mono ?_; rintro e w7 ⟨⟨z, rfl, h0z, h1z⟩, hD⟩; obtain ⟨k7, sd7, hk7, hC, hg0, hsz⟩ := hD.grew; have hg : Grew p w6 w7 := hg0.from; have XR7 := hid ((XR6.out).grew hg (by omega)); have XA7 := hid ((XA6.out).grew hg (by omega)); have D7 := hid ((D6.out).grew hg (by omega)); have C7 := hid hC; have hR7 : Grew p w w7 := hR6.trans hg; have hz7 : w6.heap.size ≤ w7.heap.size := hg.size; have P7 : w7.cell? ⟨(w.heap.size + 1), 1, none⟩ = some (.slice o us.length c) := XA7.out.c 1 rfl; have XU : Hid (Bx (w7.alloc (.cells #[.int .i64 0, .int .i64 1, .int .i64 20, .int .i64 21] 3)) w7.heap.size [.int .i64 0, .int .i64 1, .int .i64 20, .int .i64 21]) := hid (Bx.new (w := w7) [.int .i64 0, .int .i64 1, .int .i64 20, .int .i64 21] _ rfl); have PU : (w7.alloc (.cells #[.int .i64 0, .int .i64 1, .int .i64 20, .int .i64 21] 3)).cell? ⟨(w.heap.size + 1), 1, none⟩ = some (.slice o us.length c) := (XA7.out.alloc (.cells #[.int .i64 0, .int .i64 1, .int .i64 20, .int .i64 21] 3)).c 1 rfl; clear hD hC hg0 hg hsz))
          all_goals
            obtain ⟨w11, hV⟩ : ∃ V, V = (w10.setCell ⟨(w.heap.size + 1), 1, none⟩ (.slice to3 zs.length tc3)) := ⟨_, rfl⟩
            have XR11 := hid ((XR10.out.other (a := ⟨(w.heap.size + 1), 1, none⟩) (by dsimp only; omega) (.slice to3 zs.length tc3)))
            rw [← hV] at XR11
            have XA11 := hid ((XA10.out.set 1 (.slice to3 zs.length tc3)))
            rw [← hV] at XA11
            have D11 := hid ((D10.out.setOff (a := ⟨(w.heap.size + 1), 1, none⟩) (by dsimp only; omega) (.slice to3 zs.length tc3)))
            rw [← hV] at D11
            have C11 := hid ((C10.out.other (a := ⟨(w.heap.size + 1), 1, none⟩) (by dsimp only; omega) (.slice to3 zs.length tc3)))
            rw [← hV] at C11
            have hR11 : Grew p w w11 := by rw [hV]; exact (hR10.set (a := ⟨(w.heap.size + 1), 1, none⟩) (by dsimp only; omega) (.slice to3 zs.length tc3))
            have hz11 : w10.heap.size ≤ w11.heap.size := by rw [hV]; simp
            have H11 := hid hV
            clear hV XR10 XA10 D10 C10
            go_upto_region 30 with fail
            clear rg0 rh0 rg1 rh1 ag0 ah0 ag1 ah1
            rw [← H11.out]
            clear H11
            have r0 := XR11.out.c 0 rfl
            have rf0 := XR11.out.f 0 rfl
            have r1 := XR11.out.c 1 rfl
            have rf1 := XR11.out.f 1 rfl
            have rz := XR11.out.size
            have a0 := XA11.out.c 0 rfl
            have af0 := XA11.out.f 0 rfl
            have a1 := XA11.out.c 1 rfl
            have af1 := XA11.out.f 1 rfl
            have az := XA11.out.size
            obtain ⟨w12, hV⟩ : ∃ V, V = ((w11.setCell ⟨w.heap.size, 0, none⟩ (.int .i64 sd0)).setCell ⟨w.heap.size, 1, none⟩ (.slice to3 zs.length tc3)) := ⟨_, rfl⟩
            have XR12 := hid (((XR11.out.set 0 (.int .i64 sd0)).set 1 (.slice to3 zs.length tc3)))
            rw [← hV] at XR12
            have XA12 := hid (((XA11.out.other (a := ⟨w.heap.size, 0, none⟩) (by dsimp only; omega) (.int .i64 sd0)).other (a := ⟨w.heap.size, 1, none⟩) (by dsimp only; omega) (.slice to3 zs.length tc3)))
            rw [← hV] at XA12
            have D12 := hid (((D11.out.setOff (a := ⟨w.heap.size, 0, none⟩) (by dsimp only; omega) (.int .i64 sd0)).setOff (a := ⟨w.heap.size, 1, none⟩) (by dsimp only; omega) (.slice to3 zs.length tc3)))
            rw [← hV] at D12
            have C12 := hid (((C11.out.other (a := ⟨w.heap.size, 0, none⟩) (by dsimp only; omega) (.int .i64 sd0)).other (a := ⟨w.heap.size, 1, none⟩) (by dsimp only; omega) (.slice to3 zs.length tc3)))
            rw [← hV] at C12
            have hR12 : Grew p w w12 := by rw [hV]; exact ((hR11.set (a := ⟨w.heap.size, 0, none⟩) (by dsimp only; omega) (.int .i64 sd0)).set (a := ⟨w.heap.size, 1, none⟩) (by dsimp only; omega) (.slice to3 zs.length tc3))
            have hz12 : w11.heap.size ≤ w12.heap.size := by rw [hV]; simp
            have H12 := hid hV
            clear hV XR11 XA11 D11 C11
            go_wp2
            clear r0 rf0 r1 rf1 rz a0 af0 a1 af1 az
            rw [← H12.out]
            clear H12
            have r0 := XR12.out.c 0 rfl
            have rf0 := XR12.out.f 0 rfl
            have r1 := XR12.out.c 1 rfl
            have rf1 := XR12.out.f 1 rfl
            have rz := XR12.out.size
            have a0 := XA12.out.c 0 rfl
            have af0 := XA12.out.f 0 rfl
            have a1 := XA12.out.c 1 rfl
            have af1 := XA12.out.f 1 rfl
            have az := XA12.out.size
            refine bodyPost_ret (v := .agg #[.int .i64 sd0, .slice to3 zs.length tc3]) (by simp [results, Try.results12, go_sem, r0, r1]) rfl ?_
            exact ⟨⟨sd0, to3, tc3, zs, rfl, ⟨by omega, HFZ.out⟩, D12.out.wide (by omega) (by omega)⟩, k9, sd9, by omega, C12.out, hR12⟩
        · by_cases hu0 : us.length = 0
          · obtain rfl : us = [] := List.length_eq_zero_iff.1 hu0
            clear hu0
            have XB : Hid (Bx w6 (w.heap.size + 1) [.int .i64 sd0, .slice o 0 c]) := XA6
            clear XA6
            have XA6 := XB
            clear XB
            have r0 := XR6.out.c 0 rfl
            have rf0 := XR6.out.f 0 rfl
            have r1 := XR6.out.c 1 rfl
            have rf1 := XR6.out.f 1 rfl
            have rz := XR6.out.size
            have a0 := XA6.out.c 0 rfl
            have af0 := XA6.out.f 0 rfl
            have a1 := XA6.out.c 1 rfl
            have af1 := XA6.out.f 1 rfl
            have az := XA6.out.size
            go_upto_region 30 with fail
            clear r0 rf0 r1 rf1 rz a0 af0 a1 af1 az
            have r0 := XR6.out.c 0 rfl
            have rf0 := XR6.out.f 0 rfl
            have r1 := XR6.out.c 1 rfl
            have rf1 := XR6.out.f 1 rfl
            have rz := XR6.out.size
            have a0 := XA6.out.c 0 rfl
            have af0 := XA6.out.f 0 rfl
            have a1 := XA6.out.c 1 rfl
            have af1 := XA6.out.f 1 rfl
            have az := XA6.out.size
            obtain ⟨w7, hV⟩ : ∃ V, V = ((w6.setCell ⟨w.heap.size, 0, none⟩ (.int .i64 sd0)).setCell ⟨w.heap.size, 1, none⟩ (.slice o 0 c)) := ⟨_, rfl⟩
            have XR7 := hid (((XR6.out.set 0 (.int .i64 sd0)).set 1 (.slice o 0 c)))
            rw [← hV] at XR7
            have XA7 := hid (((XA6.out.other (a := ⟨w.heap.size, 0, none⟩) (by dsimp only; omega) (.int .i64 sd0)).other (a := ⟨w.heap.size, 1, none⟩) (by dsimp only; omega) (.slice o 0 c)))
            rw [← hV] at XA7
            have D7 := hid (((D6.out.setOff (a := ⟨w.heap.size, 0, none⟩) (by dsimp only; omega) (.int .i64 sd0)).setOff (a := ⟨w.heap.size, 1, none⟩) (by dsimp only; omega) (.slice o 0 c)))
            rw [← hV] at D7
            have C7 := hid (((C6.out.other (a := ⟨w.heap.size, 0, none⟩) (by dsimp only; omega) (.int .i64 sd0)).other (a := ⟨w.heap.size, 1, none⟩) (by dsimp only; omega) (.slice o 0 c)))
            rw [← hV] at C7
            have hR7 : Grew p w w7 := by rw [hV]; exact ((hR6.set (a := ⟨w.heap.size, 0, none⟩) (by dsimp only; omega) (.int .i64 sd0)).set (a := ⟨w.heap.size, 1, none⟩) (by dsimp only; omega) (.slice o 0 c))
            have hz7 : w6.heap.size ≤ w7.heap.size := by rw [hV]; simp
            have H7 := hid hV
            clear hV XR6 XA6 D6 C6
            go_wp2
            clear r0 rf0 r1 rf1 rz a0 af0 a1 af1 az
            rw [← H7.out]
            clear H7
            have r0 := XR7.out.c 0 rfl
            have rf0 := XR7.out.f 0 rfl
            have r1 := XR7.out.c 1 rfl
            have rf1 := XR7.out.f 1 rfl
            have rz := XR7.out.size
            have a0 := XA7.out.c 0 rfl
            have af0 := XA7.out.f 0 rfl
            have a1 := XA7.out.c 1 rfl
            have af1 := XA7.out.f 1 rfl
            have az := XA7.out.size
            refine bodyPost_ret (v := .agg #[.int .i64 sd0, .slice o 0 c]) (by simp [results, Try.results12, go_sem, r0, r1]) rfl ?_
            exact ⟨⟨sd0, o, c, [], rfl, ⟨by omega, HFT.out⟩, D7.out.wide (by omega) (by omega)⟩, k6, sd6, by omega, C7.out, hR7⟩
          · obtain ⟨g, nd, kap, dp, dr, x, rfl, hex, hg1, hg2, hg3, hgc, hgd, hgf, hgw⟩ := dropT D6.out (by omega)
            have hI0 : (0 : Int) < (us.length : Int) := by omega
            have hI1 : decide ((0 : Int) < (us.length : Int)) = true := by simpa using hI0
            cases dr
            · clear hgw hex hgf hgd
              have r0 := XR6.out.c 0 rfl
              have rf0 := XR6.out.f 0 rfl
              have r1 := XR6.out.c 1 rfl
              have rf1 := XR6.out.f 1 rfl
              have rz := XR6.out.size
              have a0 := XA6.out.c 0 rfl
              have af0 := XA6.out.f 0 rfl
              have a1 := XA6.out.c 1 rfl
              have af1 := XA6.out.f 1 rfl
              have az := XA6.out.size
              go_upto_region 30 with fail
              clear r0 rf0 r1 rf1 rz a0 af0 a1 af1 az
              clear hgc
              have r0 := XR6.out.c 0 rfl
              have rf0 := XR6.out.f 0 rfl
              have r1 := XR6.out.c 1 rfl
              have rf1 := XR6.out.f 1 rfl
              have rz := XR6.out.size
              have a0 := XA6.out.c 0 rfl
              have af0 := XA6.out.f 0 rfl
              have a1 := XA6.out.c 1 rfl
              have af1 := XA6.out.f 1 rfl
              have az := XA6.out.size
              obtain ⟨w7, hV⟩ : ∃ V, V = ((w6.setCell ⟨w.heap.size, 0, none⟩ (.int .i64 sd0)).setCell ⟨w.heap.size, 1, none⟩ (.slice (some ⟨g, 0, none⟩) us.length c)) := ⟨_, rfl⟩
              have XR7 := hid (((XR6.out.set 0 (.int .i64 sd0)).set 1 (.slice (some ⟨g, 0, none⟩) us.length c)))
              rw [← hV] at XR7
              have XA7 := hid (((XA6.out.other (a := ⟨w.heap.size, 0, none⟩) (by dsimp only; omega) (.int .i64 sd0)).other (a := ⟨w.heap.size, 1, none⟩) (by dsimp only; omega) (.slice (some ⟨g, 0, none⟩) us.length c)))
              rw [← hV] at XA7
              have D7 := hid (((D6.out.setOff (a := ⟨w.heap.size, 0, none⟩) (by dsimp only; omega) (.int .i64 sd0)).setOff (a := ⟨w.heap.size, 1, none⟩) (by dsimp only; omega) (.slice (some ⟨g, 0, none⟩) us.length c)))
              rw [← hV] at D7
              have C7 := hid (((C6.out.other (a := ⟨w.heap.size, 0, none⟩) (by dsimp only; omega) (.int .i64 sd0)).other (a := ⟨w.heap.size, 1, none⟩) (by dsimp only; omega) (.slice (some ⟨g, 0, none⟩) us.length c)))
              rw [← hV] at C7
              have hR7 : Grew p w w7 := by rw [hV]; exact ((hR6.set (a := ⟨w.heap.size, 0, none⟩) (by dsimp only; omega) (.int .i64 sd0)).set (a := ⟨w.heap.size, 1, none⟩) (by dsimp only; omega) (.slice (some ⟨g, 0, none⟩) us.length c))
              have hz7 : w6.heap.size ≤ w7.heap.size := by rw [hV]; simp
              have H7 := hid hV
              clear hV XR6 XA6 D6 C6
              go_wp2
              clear r0 rf0 r1 rf1 rz a0 af0 a1 af1 az
              rw [← H7.out]
              clear H7
              have r0 := XR7.out.c 0 rfl
              have rf0 := XR7.out.f 0 rfl
              have r1 := XR7.out.c 1 rfl
              have rf1 := XR7.out.f 1 rfl
              have rz := XR7.out.size
              have a0 := XA7.out.c 0 rfl
              have af0 := XA7.out.f 0 rfl
              have a1 := XA7.out.c 1 rfl
              have af1 := XA7.out.f 1 rfl
              have az := XA7.out.size
              refine bodyPost_ret (v := .agg #[.int .i64 sd0, .slice (some ⟨g, 0, none⟩) us.length c]) (by simp [results, Try.results12, go_sem, r0, r1]) rfl ?_
              exact ⟨⟨sd0, some ⟨g, 0, none⟩, c, us, rfl, ⟨by omega, HFT.out⟩, D7.out.wide (by omega) (by omega)⟩, k6, sd6, by omega, C7.out, hR7⟩
            · have TP := hid (hgw 1000000)
              clear hgw
              obtain ⟨zs, hzs⟩ : ∃ zs, zs = us.set 0 (nd, kap, true, 1000000, x) := ⟨_, rfl⟩
              have hzl : us.length = zs.length := by rw [hzs]; simp
              have HFZ : Hid (Fits zs) := hid (by rw [hzs]; intro a ha; rcases List.mem_or_eq_of_mem_set ha with h | h; exact HFT.out a h; have h0 := HFT.out _ (el_mem (show 0 < us.length by omega)); rw [hex] at h0; rw [h]; exact h0)
              rw [← hzs] at TP
              clear hzs hex
              have r0 := XR6.out.c 0 rfl
              have rf0 := XR6.out.f 0 rfl
              have r1 := XR6.out.c 1 rfl
              have rf1 := XR6.out.f 1 rfl
              have rz := XR6.out.size
              have a0 := XA6.out.c 0 rfl
              have af0 := XA6.out.f 0 rfl
              have a1 := XA6.out.c 1 rfl
              have af1 := XA6.out.f 1 rfl
              have az := XA6.out.size
              go_upto_region 30 with fail
              clear r0 rf0 r1 rf1 rz a0 af0 a1 af1 az
              clear hgc hgd hgf
              obtain ⟨w7, hV⟩ : ∃ V, V = w6.setCell ⟨g, 3, none⟩ (.int .i64 1000000) := ⟨_, rfl⟩
              have XR7 : Hid (Bx w7 w.heap.size [.int .i64 0, .slice none 0 0]) := by rw [hV]; exact hid (XR6.out.other (a := ⟨g, 3, none⟩) (by dsimp only; omega) (.int .i64 1000000))
              have XA7 : Hid (Bx w7 (w.heap.size + 1) [.int .i64 sd0, .slice (some ⟨g, 0, none⟩) us.length c]) := by rw [hV]; exact hid (XA6.out.other (a := ⟨g, 3, none⟩) (by dsimp only; omega) (.int .i64 1000000))
              have C7 : Hid (Cur w7 p co cap bs k6 sd6) := by rw [hV]; exact hid (C6.out.other (a := ⟨g, 3, none⟩) (by dsimp only; omega) (.int .i64 1000000))
              have hR7 : Grew p w w7 := by rw [hV]; exact Grew.set (a := ⟨g, 3, none⟩) hR6 (by dsimp only; omega) (.int .i64 1000000)
              have hz7 : w6.heap.size ≤ w7.heap.size := by rw [hV]; simp
              have D7 : Hid (TW ((w.heap.size + 1) + 1) wr.heap.size w7 (some ⟨g, 0, none⟩) c zs) := by rw [hV]; exact TP
              rw [hzl] at XA7
              rw [← hV]
              clear hV TP
              have r0 := XR7.out.c 0 rfl
              have rf0 := XR7.out.f 0 rfl
              have r1 := XR7.out.c 1 rfl
              have rf1 := XR7.out.f 1 rfl
              have rz := XR7.out.size
              have a0 := XA7.out.c 0 rfl
              have af0 := XA7.out.f 0 rfl
              have a1 := XA7.out.c 1 rfl
              have af1 := XA7.out.f 1 rfl
              have az := XA7.out.size
              obtain ⟨w8, hV⟩ : ∃ V, V = ((w7.setCell ⟨w.heap.size, 0, none⟩ (.int .i64 sd0)).setCell ⟨w.heap.size, 1, none⟩ (.slice (some ⟨g, 0, none⟩) zs.length c)) := ⟨_, rfl⟩
              have XR8 := hid (((XR7.out.set 0 (.int .i64 sd0)).set 1 (.slice (some ⟨g, 0, none⟩) zs.length c)))
              rw [← hV] at XR8
              have XA8 := hid (((XA7.out.other (a := ⟨w.heap.size, 0, none⟩) (by dsimp only; omega) (.int .i64 sd0)).other (a := ⟨w.heap.size, 1, none⟩) (by dsimp only; omega) (.slice (some ⟨g, 0, none⟩) zs.length c)))
              rw [← hV] at XA8
              have D8 := hid (((D7.out.setOff (a := ⟨w.heap.size, 0, none⟩) (by dsimp only; omega) (.int .i64 sd0)).setOff (a := ⟨w.heap.size, 1, none⟩) (by dsimp only; omega) (.slice (some ⟨g, 0, none⟩) zs.length c)))
              rw [← hV] at D8
              have C8 := hid (((C7.out.other (a := ⟨w.heap.size, 0, none⟩) (by dsimp only; omega) (.int .i64 sd0)).other (a := ⟨w.heap.size, 1, none⟩) (by dsimp only; omega) (.slice (some ⟨g, 0, none⟩) zs.length c)))
              rw [← hV] at C8
              have hR8 : Grew p w w8 := by rw [hV]; exact ((hR7.set (a := ⟨w.heap.size, 0, none⟩) (by dsimp only; omega) (.int .i64 sd0)).set (a := ⟨w.heap.size, 1, none⟩) (by dsimp only; omega) (.slice (some ⟨g, 0, none⟩) zs.length c))
              have hz8 : w7.heap.size ≤ w8.heap.size := by rw [hV]; simp
              have H8 := hid hV
              clear hV XR7 XA7 D7 C7
              go_wp2
              clear r0 rf0 r1 rf1 rz a0 af0 a1 af1 az
              rw [← H8.out]
              clear H8
              have r0 := XR8.out.c 0 rfl
              have rf0 := XR8.out.f 0 rfl
              have r1 := XR8.out.c 1 rfl
              have rf1 := XR8.out.f 1 rfl
              have rz := XR8.out.size
              have a0 := XA8.out.c 0 rfl
              have af0 := XA8.out.f 0 rfl
              have a1 := XA8.out.c 1 rfl
              have af1 := XA8.out.f 1 rfl
              have az := XA8.out.size
              refine bodyPost_ret (v := .agg #[.int .i64 sd0, .slice (some ⟨g, 0, none⟩) zs.length c]) (by simp [results, Try.results12, go_sem, r0, r1]) rfl ?_
              exact ⟨⟨sd0, some ⟨g, 0, none⟩, c, zs, rfl, ⟨by omega, HFZ.out⟩, D8.out.wide (by omega) (by omega)⟩, k6, sd6, by omega, C8.out, hR8⟩
        · have e0 : (y == 0) = false := by simpa using y0
          have f0 : decide (y = 0) = false := by simpa using y0
          have e1 : (y == 1) = false := by simpa using y1
          have f1 : decide (y = 1) = false := by simpa using y1
          have e2 : (y == 2) = false := by simpa using y2
          have f2 : decide (y = 2) = false := by simpa using y2
          have r0 := XR6.out.c 0 rfl
          have rf0 := XR6.out.f 0 rfl
          have r1 := XR6.out.c 1 rfl
          have rf1 := XR6.out.f 1 rfl
          have rz := XR6.out.size
          have a0 := XA6.out.c 0 rfl
          have af0 := XA6.out.f 0 rfl
          have a1 := XA6.out.c 1 rfl
          have af1 := XA6.out.f 1 rfl
          have az := XA6.out.size
          go_upto_region 30 with fail
          clear r0 rf0 r1 rf1 rz a0 af0 a1 af1 az
          have r0 := XR6.out.c 0 rfl
          have rf0 := XR6.out.f 0 rfl
          have r1 := XR6.out.c 1 rfl
          have rf1 := XR6.out.f 1 rfl
          have rz := XR6.out.size
          have a0 := XA6.out.c 0 rfl
          have af0 := XA6.out.f 0 rfl
          have a1 := XA6.out.c 1 rfl
          have af1 := XA6.out.f 1 rfl
          have az := XA6.out.size
          obtain ⟨w7, hV⟩ : ∃ V, V = ((w6.setCell ⟨w.heap.size, 0, none⟩ (.int .i64 sd0)).setCell ⟨w.heap.size, 1, none⟩ (.slice o us.length c)) := ⟨_, rfl⟩
          have XR7 := hid (((XR6.out.set 0 (.int .i64 sd0)).set 1 (.slice o us.length c)))
          rw [← hV] at XR7
          have XA7 := hid (((XA6.out.other (a := ⟨w.heap.size, 0, none⟩) (by dsimp only; omega) (.int .i64 sd0)).other (a := ⟨w.heap.size, 1, none⟩) (by dsimp only; omega) (.slice o us.length c)))
          rw [← hV] at XA7
          have D7 := hid (((D6.out.setOff (a := ⟨w.heap.size, 0, none⟩) (by dsimp only; omega) (.int .i64 sd0)).setOff (a := ⟨w.heap.size, 1, none⟩) (by dsimp only; omega) (.slice o us.length c)))
          rw [← hV] at D7
          have C7 := hid (((C6.out.other (a := ⟨w.heap.size, 0, none⟩) (by dsimp only; omega) (.int .i64 sd0)).other (a := ⟨w.heap.size, 1, none⟩) (by dsimp only; omega) (.slice o us.length c)))
          rw [← hV] at C7
          have hR7 : Grew p w w7 := by rw [hV]; exact ((hR6.set (a := ⟨w.heap.size, 0, none⟩) (by dsimp only; omega) (.int .i64 sd0)).set (a := ⟨w.heap.size, 1, none⟩) (by dsimp only; omega) (.slice o us.length c))
          have hz7 : w6.heap.size ≤ w7.heap.size := by rw [hV]; simp
          have H7 := hid hV
          clear hV XR6 XA6 D6 C6
          go_wp2
          clear r0 rf0 r1 rf1 rz a0 af0 a1 af1 az
          rw [← H7.out]
          clear H7
          have r0 := XR7.out.c 0 rfl
          have rf0 := XR7.out.f 0 rfl
          have r1 := XR7.out.c 1 rfl
          have rf1 := XR7.out.f 1 rfl
          have rz := XR7.out.size
          have a0 := XA7.out.c 0 rfl
          have af0 := XA7.out.f 0 rfl
          have a1 := XA7.out.c 1 rfl
          have af1 := XA7.out.f 1 rfl
          have az := XA7.out.size
          refine bodyPost_ret (v := .agg #[.int .i64 sd0, .slice o us.length c]) (by simp [results, Try.results12, go_sem, r0, r1]) rfl ?_
          exact ⟨⟨sd0, o, c, us, rfl, ⟨by omega, HFT.out⟩, D7.out.wide (by omega) (by omega)⟩, k6, sd6, by omega, C7.out, hR7⟩
end Go.Proofs.Ytimkadnnhfllnaa
