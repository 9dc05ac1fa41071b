
/- A drawn room. No conditions but those written. -/
import Derived.Test.YtdgnolpimmdgjaaPXbAo
import Derived.Test.YtdgnolpimmdgjaaPMhMi
import Derived.Test.YtdgnolpimmdgjaaPMjOk
import Derived.Test.YtdgnolpimmdgjaaPn
import Derived.Deep.Cut
import Derived.Deep.RegionLaw
namespace Go.Proofs.Ytdgnolpimmdgjaa
open Go.RowKit

theorem stepT {lo hi : Nat} (s1 s2 : Int) (ao : Option Addr) (c : Nat) (q : List (Int × Int)) (nt nm : Int) (w : World) (hq : q.length ≤ 1048576) (hD : kN.RW lo hi w ao c q) :
    Calls Try.prog 51 #[.agg #[.int .i64 s1, .int .i64 s2, .slice ao q.length c], .agg #[.int .i64 nt, .int .i64 nm]] w fun e w' => (∃ (vs1 vs2 : Int) (vao : Option Addr) (vc : Nat) (vq : List (Int × Int)) (cv : Int), e = .returned (.tuple #[.agg #[.int .i64 vs1, .int .i64 vs2, .slice vao vq.length vc], .int .i64 cv]) ∧ (cv < 2 → vs1 = s1 ∧ (0 ≤ vs2 ∧ vs2 ≤ s1) ∧ vq.length ≤ 31) ∧ kN.RW w.heap.size w'.heap.size w' vao vc vq) ∧ Below w.heap.size w w' :=
  (specTake_own s1 s2 ao c q nt nm w hq hD.no hD.in).mono fun _ _ ⟨⟨o, c', e, hF⟩, hb⟩ => ⟨⟨_, _, o, c', _, _, e, takeR_size, Kind.RW.of hF.2⟩, hb⟩
theorem stepG {lo hi : Nat} (s1 s2 : Int) (ao : Option Addr) (c : Nat) (q : List (Int × Int)) (iv : Int) (w : World) (hq : q.length ≤ 1048576) (hD : kN.RW lo hi w ao c q) :
    Calls Try.prog 11 #[.agg #[.int .i64 s1, .int .i64 s2, .slice ao q.length c], .int .i64 iv] w fun e w' => (∃ (vs1 vs2 : Int) (vao : Option Addr) (vc : Nat) (vq : List (Int × Int)) (xo : Option Addr) (xc xn : Nat) (cv : Int), e = .returned (.tuple #[.agg #[.int .i64 vs1, .int .i64 vs2, .slice vao vq.length vc], .slice xo xn xc, .int .i64 cv]) ∧ (cv < 2 → vs1 = s1 ∧ (0 ≤ vs2 ∧ vs2 ≤ s1) ∧ vq.length ≤ 31) ∧ kN.RW w.heap.size w'.heap.size w' vao vc vq) ∧ Below w.heap.size w w' :=
  (specGive_own s1 s2 ao c q iv w hq hD.no hD.in).mono fun _ _ ⟨⟨o, c', o2, c2, e, hF, _⟩, hb⟩ => ⟨⟨_, _, o, c', _, o2, c2, _, _, e, giveR_size, Kind.RW.of hF.2⟩, hb⟩
set_option maxRecDepth 10000 in
set_option maxHeartbeats 16000000 in
theorem room_any (p : Nat) (co : Option Addr) (cap : Nat) (bs : List Int) (k : Nat) (sd : Int) (w : World) (hl : bs.length ≤ 9223372036854775807) (ha : k ≤ 1000000000) (hC : Cur w p co cap bs k sd) :
    Calls Try.prog 27 #[.pointer (some ⟨p, 0, none⟩)] w fun e w' => (∃ (s1 s2 : Int) (ao : Option Addr) (c : Nat) (q : List (Int × Int)), e = .returned (.agg #[.int .i64 s1, .int .i64 s2, .slice ao q.length c]) ∧ (0 ≤ s1 ∧ s1 ≤ 1001 ∧ -1 ≤ s2 ∧ s2 ≤ 1002 ∧ q.length ≤ 40) ∧ kN.RW w.heap.size w'.heap.size w' ao c q) ∧ DrawnG w p co cap bs k 100 w' := by
  have hp := hC.1
  have C0 := hid hC
  have hR0 := Grew.refl p w
  clear hC
  obtain ⟨w1, hV⟩ : ∃ V, V = w.alloc (.cells #[.int .i64 0, .int .i64 0, .slice none 0 0] 34) := ⟨_, rfl⟩
  have C1 := hid (C0.out.later (below1 w (.cells #[.int .i64 0, .int .i64 0, .slice none 0 0] 34)))
  rw [← hV] at C1
  have hR1 : Grew p w w1 := by rw [hV]; exact hR0.trans (Grew.alloc p _ _)
  have hz1 : w.heap.size ≤ w1.heap.size := by rw [hV]; simp
  have H1 := hid hV
  clear hV C0
  have XR1 : Hid (Bx w1 w.heap.size [.int .i64 0, .int .i64 0, .slice none 0 0]) := by rw [H1.out]; exact Bx.new [.int .i64 0, .int .i64 0, .slice none 0 0] _ rfl
  have hy1 : w.heap.size < w1.heap.size := XR1.out.size
  go_enter Try.func27, Try.ntmps27
  have r0 := XR1.out.c 0 rfl
  have rf0 := XR1.out.f 0 rfl
  have r1 := XR1.out.c 1 rfl
  have rf1 := XR1.out.f 1 rfl
  have r2 := XR1.out.c 2 rfl
  have rf2 := XR1.out.f 2 rfl
  have rz := XR1.out.size
  go_wp2_with fail
  clear r0 rf0 r1 rf1 r2 rf2 rz
  rw [← H1.out]
  clear H1
  refine (pick_any 9 p co cap bs k sd w1 hl (by omega) C1.out).mono ?_
  rintro e w2 ⟨⟨x, rfl, h0x, h1x⟩, hD⟩
  obtain ⟨k2, sd2, hk2, hC2, hg2, hsz2⟩ := hD.grew
  have XR2 := hid (XR1.out.grew hg2 (by omega))
  have C2 := hid hC2
  have hR2 : Grew p w w2 := hR1.trans hg2
  have hz2 : w1.heap.size ≤ w2.heap.size := hg2.size
  clear XR1 C1 hD hg2 hC2 hsz2
  have hx4 : x ≤ 8 := by omega
  clear h1x
  have r0 := XR2.out.c 0 rfl
  have rf0 := XR2.out.f 0 rfl
  have r1 := XR2.out.c 1 rfl
  have rf1 := XR2.out.f 1 rfl
  have r2 := XR2.out.c 2 rfl
  have rf2 := XR2.out.f 2 rfl
  have rz := XR2.out.size
  obtain ⟨w3, hV⟩ : ∃ V, V = w2.alloc (.cells #[.int .i64 (1 + x), .int .i64 0, .slice none 0 0] 34) := ⟨_, rfl⟩
  have XR3 := hid (XR2.out.alloc (.cells #[.int .i64 (1 + x), .int .i64 0, .slice none 0 0] 34))
  rw [← hV] at XR3
  have C3 := hid (C2.out.later (below1 w2 (.cells #[.int .i64 (1 + x), .int .i64 0, .slice none 0 0] 34)))
  rw [← hV] at C3
  have hR3 : Grew p w w3 := by rw [hV]; exact hR2.trans (Grew.alloc p _ _)
  have hz3 : w2.heap.size ≤ w3.heap.size := by rw [hV]; simp
  have H3 := hid hV
  clear hV XR2 C2
  have XA3 : Hid (Bx w3 w2.heap.size [.int .i64 (1 + x), .int .i64 0, .slice none 0 0]) := by rw [H3.out]; exact Bx.new [.int .i64 (1 + x), .int .i64 0, .slice none 0 0] _ rfl
  have hy3 : w2.heap.size < w3.heap.size := XA3.out.size
  go_wp2_with fail
  clear r0 rf0 r1 rf1 r2 rf2 rz
  rw [← H3.out]
  clear H3
  refine (pick_any 9 p co cap bs k2 sd2 w3 hl (by omega) C3.out).mono ?_
  rintro e w4 ⟨⟨n, rfl, h0n, h1n⟩, hD⟩
  obtain ⟨k4, sd4, hk4, hC4, hg4, hsz4⟩ := hD.grew
  have XR4 := hid (XR3.out.grew hg4 (by omega))
  have XA4 := hid (XA3.out.grew hg4 (by omega))
  have C4 := hid hC4
  have hR4 : Grew p w w4 := hR3.trans hg4
  have hz4 : w3.heap.size ≤ w4.heap.size := hg4.size
  clear XR3 XA3 C3 hD hg4 hC4 hsz4
  obtain ⟨m, rfl⟩ : ∃ m : Nat, n = m := ⟨n.toNat, by omega⟩
  have hm : m ≤ 8 := by omega
  clear h0n h1n
  have D4 : Hid (kN.RW (w2.heap.size + 1) w4.heap.size w4 none 0 []) := hid Kind.RW.nil
  have r0 := XR4.out.c 0 rfl
  have rf0 := XR4.out.f 0 rfl
  have r1 := XR4.out.c 1 rfl
  have rf1 := XR4.out.f 1 rfl
  have r2 := XR4.out.c 2 rfl
  have rf2 := XR4.out.f 2 rfl
  have rz := XR4.out.size
  have a0 := XA4.out.c 0 rfl
  have af0 := XA4.out.f 0 rfl
  have a1 := XA4.out.c 1 rfl
  have af1 := XA4.out.f 1 rfl
  have a2 := XA4.out.c 2 rfl
  have af2 := XA4.out.f 2 rfl
  have az := XA4.out.size
  go_wp2
  clear r0 rf0 r1 rf1 r2 rf2 rz a0 af0 a1 af1 a2 af2 az
  go_loopw [4] (fun i wr => ∃ (m k2 : Nat) (sd2 : Int) (s1 s2 : Int) (ao : Option Addr) (c : Nat) (q : List (Int × Int)), i = .int .i64 (m : Int) ∧ m ≤ 8 ∧ q.length ≤ 31 ∧ (1 ≤ s1 ∧ s1 ≤ 9 ∧ 0 ≤ s2 ∧ s2 ≤ s1) ∧ k2 + 6 * m ≤ k + 60 ∧ Hid (Bx wr w.heap.size [.int .i64 0, .int .i64 0, .slice none 0 0]) ∧ Hid (Bx wr w2.heap.size [.int .i64 s1, .int .i64 s2, .slice ao q.length c]) ∧ Hid (kN.RW (w2.heap.size + 1) wr.heap.size wr ao c q) ∧ Hid (Cur wr p co cap bs k2 sd2) ∧ Grew p w wr ∧ w2.heap.size + 1 ≤ wr.heap.size) (fun i _ => (intOf i).toNat)
  case atStart => exact ⟨m, k4, sd4, 1 + x, 0, none, 0, [], rfl, hm, by simp, ⟨by omega, by omega, by omega, by omega⟩, by omega, XR4, XA4, D4, C4, hR4, by have := XA4.out.size; omega⟩
  case round =>
    clear XR4 XA4 D4 C4 hR4
    obtain ⟨m, k0, sd0, s1, s2, ao, c, q, rfl, hm, hq, hcn, hk0, XR5, XA5, D5, C5, hR5, hs0⟩ := hrel
    cases m with
    | succ m =>
      have hm0 : decide (0 < ((m + 1 : Nat) : Int)) = true := by simp <;> omega
      have hm1 : (0 : Int) < ((m + 1 : Nat) : Int) := by omega
      have r0 := XR5.out.c 0 rfl
      have rf0 := XR5.out.f 0 rfl
      have r1 := XR5.out.c 1 rfl
      have rf1 := XR5.out.f 1 rfl
      have r2 := XR5.out.c 2 rfl
      have rf2 := XR5.out.f 2 rfl
      have rz := XR5.out.size
      have a0 := XA5.out.c 0 rfl
      have af0 := XA5.out.f 0 rfl
      have a1 := XA5.out.c 1 rfl
      have af1 := XA5.out.f 1 rfl
      have a2 := XA5.out.c 2 rfl
      have af2 := XA5.out.f 2 rfl
      have az := XA5.out.size
      obtain ⟨w6, hV⟩ : ∃ V, V = wr.alloc (.cells #[.int .i64 s1, .int .i64 s2, .slice ao q.length c] 34) := ⟨_, rfl⟩
      have XR6 := hid (XR5.out.alloc (.cells #[.int .i64 s1, .int .i64 s2, .slice ao q.length c] 34))
      rw [← hV] at XR6
      have XA6 := hid (XA5.out.alloc (.cells #[.int .i64 s1, .int .i64 s2, .slice ao q.length c] 34))
      rw [← hV] at XA6
      have D6 := hid (D5.out.later (below1 wr (.cells #[.int .i64 s1, .int .i64 s2, .slice ao q.length c] 34)))
      rw [← hV] at D6
      have C6 := hid (C5.out.later (below1 wr (.cells #[.int .i64 s1, .int .i64 s2, .slice ao q.length c] 34)))
      rw [← hV] at C6
      have hR6 : Grew p w w6 := by rw [hV]; exact hR5.trans (Grew.alloc p _ _)
      have hz6 : wr.heap.size ≤ w6.heap.size := by rw [hV]; simp
      have H6 := hid hV
      clear hV XR5 XA5 D5 C5
      have XX6 : Hid (Bx w6 wr.heap.size [.int .i64 s1, .int .i64 s2, .slice ao q.length c]) := by rw [H6.out]; exact Bx.new [.int .i64 s1, .int .i64 s2, .slice ao q.length c] _ rfl
      have hy6 : wr.heap.size < w6.heap.size := XX6.out.size
      go_wp2_with fail
      clear r0 rf0 r1 rf1 r2 rf2 rz a0 af0 a1 af1 a2 af2 az
      rw [← H6.out]
      clear H6
      refine (one_any 4 p co cap bs k0 sd0 w6 hl (by omega) C6.out).mono ?_
      rintro e w7 ⟨⟨b, rfl⟩, hD⟩
      obtain ⟨k7, sd7, hk7, hC7, hg7, hsz7⟩ := hD.grew
      have XR7 := hid (XR6.out.grew hg7 (by omega))
      have XA7 := hid (XA6.out.grew hg7 (by omega))
      have XX7 := hid (XX6.out.grew hg7 (by omega))
      have D7 := hid (D6.out.grew hg7 (by omega))
      have C7 := hid hC7
      have hR7 : Grew p w w7 := hR6.trans hg7
      have hz7 : w6.heap.size ≤ w7.heap.size := hg7.size
      clear XR6 XA6 XX6 D6 C6 hD hg7 hC7 hsz7
      cases b
      · have r0 := XR7.out.c 0 rfl
        have rf0 := XR7.out.f 0 rfl
        have r1 := XR7.out.c 1 rfl
        have rf1 := XR7.out.f 1 rfl
        have r2 := XR7.out.c 2 rfl
        have rf2 := XR7.out.f 2 rfl
        have rz := XR7.out.size
        have a0 := XA7.out.c 0 rfl
        have af0 := XA7.out.f 0 rfl
        have a1 := XA7.out.c 1 rfl
        have af1 := XA7.out.f 1 rfl
        have a2 := XA7.out.c 2 rfl
        have af2 := XA7.out.f 2 rfl
        have az := XA7.out.size
        have x0 := XX7.out.c 0 rfl
        have xf0 := XX7.out.f 0 rfl
        have x1 := XX7.out.c 1 rfl
        have xf1 := XX7.out.f 1 rfl
        have x2 := XX7.out.c 2 rfl
        have xf2 := XX7.out.f 2 rfl
        have xz := XX7.out.size
        go_wp2
        have PD0 : w7.drew.cell? ⟨w2.heap.size, 0, none⟩ = some (.int .i64 s1) := a0
        have PD1 : w7.drew.cell? ⟨w2.heap.size, 1, none⟩ = some (.int .i64 s2) := a1
        have PD2 : w7.drew.cell? ⟨w2.heap.size, 2, none⟩ = some (.slice ao q.length c) := a2
        go_region_law (first
            | (go_simp; go_at_call 51; have _g := hz9; refine (stepT s1 s2 ao c q z _ w9 (by omega) D9.out).mono ?_; rintro e w10 ⟨⟨vs1, vs2, vao, vc, vq, cv, rfl, hS1, hW1⟩, hy⟩; have hb : Below w9.heap.size w9 w10 := hy; have XR10 := hid (XR9.out.grew (Grew.of_below (p := p) hb) (by omega)); have XA10 := hid (XA9.out.grew (Grew.of_below (p := p) hb) (by omega)); have XX10 := hid (XX9.out.grew (Grew.of_below (p := p) hb) (by omega)); have D10 := hid (D9.out.grew (Grew.of_below (p := p) hb) (by omega)); have C10 := hid (C9.out.later hb); have hR10 : Grew p w w10 := hR9.trans (Grew.of_below (p := p) hb); have hz10 : w9.heap.size ≤ w10.heap.size := hb.size; have E10 := hid (hW1); have HS10 := hid (hS1); have P10a := XA10.out.c 0 rfl; have P10b := XA10.out.c 1 rfl; have P10c := XA10.out.c 2 rfl; have rg0 := XR10.out.c 0 rfl; have rh0 := XR10.out.f 0 rfl; have rg1 := XR10.out.c 1 rfl; have rh1 := XR10.out.f 1 rfl; have rg2 := XR10.out.c 2 rfl; have rh2 := XR10.out.f 2 rfl; have ag0 := XA10.out.c 0 rfl; have ah0 := XA10.out.f 0 rfl; have ag1 := XA10.out.c 1 rfl; have ah1 := XA10.out.f 1 rfl; have ag2 := XA10.out.c 2 rfl; have ah2 := XA10.out.f 2 rfl; have xg0 := XX10.out.c 0 rfl; have xh0 := XX10.out.f 0 rfl; have xg1 := XX10.out.c 1 rfl; have xh1 := XX10.out.f 1 rfl; have xg2 := XX10.out.c 2 rfl; have xh2 := XX10.out.f 2 rfl; clear hy hb hW1 hS1)
            | (go_simp; go_at_call 20; have _g := hz8; refine (pick_any 5 p co cap bs k8 sd8 w8 hl (by omega) C8.out).mono ?_; rintro e w9 ⟨⟨z2, rfl, h0z2, h1z2⟩, hD⟩; obtain ⟨k9, sd9, hk9, hC, hg0, hsz⟩ := hD.grew; have hg : Grew p w8 w9 := hg0; have XR9 := hid (XR8.out.grew hg (by omega)); have XA9 := hid (XA8.out.grew hg (by omega)); have XX9 := hid (XX8.out.grew hg (by omega)); have D9 := hid (D8.out.grew hg (by omega)); have C9 := hid hC; have hR9 : Grew p w w9 := hR8.trans hg; have hz9 : w8.heap.size ≤ w9.heap.size := hg.size; have P9a := XA9.out.c 0 rfl; have P9b := XA9.out.c 1 rfl; have P9c := XA9.out.c 2 rfl; clear hD hC hg0 hg hsz)
            | (go_simp; go_at_call 20; refine (pick_any 6 p co cap bs k7 sd7 w7.drew hl (by omega) C7.out.drew).mono ?_; rintro e w8 ⟨⟨z, rfl, h0z, h1z⟩, hD⟩; obtain ⟨k8, sd8, hk8, hC, hg0, hsz⟩ := hD.grew; have hg : Grew p w7 w8 := hg0.from; have XR8 := hid (XR7.out.grew hg (by omega)); have XA8 := hid (XA7.out.grew hg (by omega)); have XX8 := hid (XX7.out.grew hg (by omega)); have D8 := hid (D7.out.grew hg (by omega)); have C8 := hid hC; have hR8 : Grew p w w8 := hR7.trans hg; have hz8 : w7.heap.size ≤ w8.heap.size := hg.size; have P8a := XA8.out.c 0 rfl; have P8b := XA8.out.c 1 rfl; have P8c := XA8.out.c 2 rfl; clear hD hC hg0 hg hsz))
        all_goals
          have HS1 := hid HS10.out
          clear HS10
          obtain ⟨w11, hV⟩ : ∃ V, V = (((w10.setCell ⟨wr.heap.size, 0, none⟩ (.int .i64 vs1)).setCell ⟨wr.heap.size, 1, none⟩ (.int .i64 vs2)).setCell ⟨wr.heap.size, 2, none⟩ (.slice vao vq.length vc)) := ⟨_, rfl⟩
          have XR11 := hid ((((XR10.out.other (a := ⟨wr.heap.size, 0, none⟩) (by dsimp only; omega) (.int .i64 vs1)).other (a := ⟨wr.heap.size, 1, none⟩) (by dsimp only; omega) (.int .i64 vs2)).other (a := ⟨wr.heap.size, 2, none⟩) (by dsimp only; omega) (.slice vao vq.length vc)))
          rw [← hV] at XR11
          have XA11 := hid ((((XA10.out.other (a := ⟨wr.heap.size, 0, none⟩) (by dsimp only; omega) (.int .i64 vs1)).other (a := ⟨wr.heap.size, 1, none⟩) (by dsimp only; omega) (.int .i64 vs2)).other (a := ⟨wr.heap.size, 2, none⟩) (by dsimp only; omega) (.slice vao vq.length vc)))
          rw [← hV] at XA11
          have XX11 := hid ((((XX10.out.set 0 (.int .i64 vs1)).set 1 (.int .i64 vs2)).set 2 (.slice vao vq.length vc)))
          rw [← hV] at XX11
          have D11 := hid ((((D10.out.setOff (a := ⟨wr.heap.size, 0, none⟩) (by dsimp only; omega) (.int .i64 vs1)).setOff (a := ⟨wr.heap.size, 1, none⟩) (by dsimp only; omega) (.int .i64 vs2)).setOff (a := ⟨wr.heap.size, 2, none⟩) (by dsimp only; omega) (.slice vao vq.length vc)))
          rw [← hV] at D11
          have E11 := hid ((((E10.out.setOff (a := ⟨wr.heap.size, 0, none⟩) (by dsimp only; omega) (.int .i64 vs1)).setOff (a := ⟨wr.heap.size, 1, none⟩) (by dsimp only; omega) (.int .i64 vs2)).setOff (a := ⟨wr.heap.size, 2, none⟩) (by dsimp only; omega) (.slice vao vq.length vc)))
          rw [← hV] at E11
          have C11 := hid ((((C10.out.other (a := ⟨wr.heap.size, 0, none⟩) (by dsimp only; omega) (.int .i64 vs1)).other (a := ⟨wr.heap.size, 1, none⟩) (by dsimp only; omega) (.int .i64 vs2)).other (a := ⟨wr.heap.size, 2, none⟩) (by dsimp only; omega) (.slice vao vq.length vc)))
          rw [← hV] at C11
          have hR11 : Grew p w w11 := by rw [hV]; exact (((hR10.set (a := ⟨wr.heap.size, 0, none⟩) (by dsimp only; omega) (.int .i64 vs1)).set (a := ⟨wr.heap.size, 1, none⟩) (by dsimp only; omega) (.int .i64 vs2)).set (a := ⟨wr.heap.size, 2, none⟩) (by dsimp only; omega) (.slice vao vq.length vc))
          have hz11 : w10.heap.size ≤ w11.heap.size := by rw [hV]; simp
          have H11 := hid hV
          clear hV XR10 XA10 XX10 D10 E10 C10
          go_upto_region 10 with fail
          clear rg0 rh0 rg1 rh1 rg2 rh2 ag0 ah0 ag1 ah1 ag2 ah2 xg0 xh0 xg1 xh1 xg2 xh2
          rw [← H11.out]
          clear H11
          by_cases hc : cv < 2
          · have S1 := hid (HS1.out hc)
            have hc1 : decide (cv < 2) = true := by simpa using hc
            have r0 := XR11.out.c 0 rfl
            have rf0 := XR11.out.f 0 rfl
            have r1 := XR11.out.c 1 rfl
            have rf1 := XR11.out.f 1 rfl
            have r2 := XR11.out.c 2 rfl
            have rf2 := XR11.out.f 2 rfl
            have rz := XR11.out.size
            have a0 := XA11.out.c 0 rfl
            have af0 := XA11.out.f 0 rfl
            have a1 := XA11.out.c 1 rfl
            have af1 := XA11.out.f 1 rfl
            have a2 := XA11.out.c 2 rfl
            have af2 := XA11.out.f 2 rfl
            have az := XA11.out.size
            have x0 := XX11.out.c 0 rfl
            have xf0 := XX11.out.f 0 rfl
            have x1 := XX11.out.c 1 rfl
            have xf1 := XX11.out.f 1 rfl
            have x2 := XX11.out.c 2 rfl
            have xf2 := XX11.out.f 2 rfl
            have xz := XX11.out.size
            obtain ⟨w12, hV⟩ : ∃ V, V = (((w11.setCell ⟨w2.heap.size, 0, none⟩ (.int .i64 vs1)).setCell ⟨w2.heap.size, 1, none⟩ (.int .i64 vs2)).setCell ⟨w2.heap.size, 2, none⟩ (.slice vao vq.length vc)) := ⟨_, rfl⟩
            have XR12 := hid ((((XR11.out.other (a := ⟨w2.heap.size, 0, none⟩) (by dsimp only; omega) (.int .i64 vs1)).other (a := ⟨w2.heap.size, 1, none⟩) (by dsimp only; omega) (.int .i64 vs2)).other (a := ⟨w2.heap.size, 2, none⟩) (by dsimp only; omega) (.slice vao vq.length vc)))
            rw [← hV] at XR12
            have XA12 := hid ((((XA11.out.set 0 (.int .i64 vs1)).set 1 (.int .i64 vs2)).set 2 (.slice vao vq.length vc)))
            rw [← hV] at XA12
            have XX12 := hid ((((XX11.out.other (a := ⟨w2.heap.size, 0, none⟩) (by dsimp only; omega) (.int .i64 vs1)).other (a := ⟨w2.heap.size, 1, none⟩) (by dsimp only; omega) (.int .i64 vs2)).other (a := ⟨w2.heap.size, 2, none⟩) (by dsimp only; omega) (.slice vao vq.length vc)))
            rw [← hV] at XX12
            have D12 := hid ((((D11.out.setOff (a := ⟨w2.heap.size, 0, none⟩) (by dsimp only; omega) (.int .i64 vs1)).setOff (a := ⟨w2.heap.size, 1, none⟩) (by dsimp only; omega) (.int .i64 vs2)).setOff (a := ⟨w2.heap.size, 2, none⟩) (by dsimp only; omega) (.slice vao vq.length vc)))
            rw [← hV] at D12
            have E12 := hid ((((E11.out.setOff (a := ⟨w2.heap.size, 0, none⟩) (by dsimp only; omega) (.int .i64 vs1)).setOff (a := ⟨w2.heap.size, 1, none⟩) (by dsimp only; omega) (.int .i64 vs2)).setOff (a := ⟨w2.heap.size, 2, none⟩) (by dsimp only; omega) (.slice vao vq.length vc)))
            rw [← hV] at E12
            have C12 := hid ((((C11.out.other (a := ⟨w2.heap.size, 0, none⟩) (by dsimp only; omega) (.int .i64 vs1)).other (a := ⟨w2.heap.size, 1, none⟩) (by dsimp only; omega) (.int .i64 vs2)).other (a := ⟨w2.heap.size, 2, none⟩) (by dsimp only; omega) (.slice vao vq.length vc)))
            rw [← hV] at C12
            have hR12 : Grew p w w12 := by rw [hV]; exact (((hR11.set (a := ⟨w2.heap.size, 0, none⟩) (by dsimp only; omega) (.int .i64 vs1)).set (a := ⟨w2.heap.size, 1, none⟩) (by dsimp only; omega) (.int .i64 vs2)).set (a := ⟨w2.heap.size, 2, none⟩) (by dsimp only; omega) (.slice vao vq.length vc))
            have hz12 : w11.heap.size ≤ w12.heap.size := by rw [hV]; simp
            have H12 := hid hV
            clear hV XR11 XA11 XX11 D11 E11 C11
            go_wp2
            clear r0 rf0 r1 rf1 r2 rf2 rz a0 af0 a1 af1 a2 af2 az x0 xf0 x1 xf1 x2 xf2 xz
            rw [← H12.out]
            clear H12
            have S2 := S1.out
            go_roundw
            case rel => exact ⟨m, k9, sd9, vs1, vs2, vao, vc, vq, by go_num, by omega, by omega, by omega, by omega, XR12, XA12, hid (E12.out.wide (by omega) (by omega)), C12, hR12, by omega⟩
            case measure => simp [intOf] <;> omega
          · have hc1 : decide (cv < 2) = false := by simpa using hc
            have r0 := XR11.out.c 0 rfl
            have rf0 := XR11.out.f 0 rfl
            have r1 := XR11.out.c 1 rfl
            have rf1 := XR11.out.f 1 rfl
            have r2 := XR11.out.c 2 rfl
            have rf2 := XR11.out.f 2 rfl
            have rz := XR11.out.size
            have a0 := XA11.out.c 0 rfl
            have af0 := XA11.out.f 0 rfl
            have a1 := XA11.out.c 1 rfl
            have af1 := XA11.out.f 1 rfl
            have a2 := XA11.out.c 2 rfl
            have af2 := XA11.out.f 2 rfl
            have az := XA11.out.size
            have x0 := XX11.out.c 0 rfl
            have xf0 := XX11.out.f 0 rfl
            have x1 := XX11.out.c 1 rfl
            have xf1 := XX11.out.f 1 rfl
            have x2 := XX11.out.c 2 rfl
            have xf2 := XX11.out.f 2 rfl
            have xz := XX11.out.size
            go_wp2
            clear r0 rf0 r1 rf1 r2 rf2 rz a0 af0 a1 af1 a2 af2 az x0 xf0 x1 xf1 x2 xf2 xz
            go_roundw
            case rel => exact ⟨m, k9, sd9, s1, s2, ao, c, q, by go_num, by omega, by omega, by omega, by omega, XR11, XA11, hid (D11.out.wide (by omega) (by omega)), C11, hR11, by omega⟩
            case measure => simp [intOf] <;> omega
      · have r0 := XR7.out.c 0 rfl
        have rf0 := XR7.out.f 0 rfl
        have r1 := XR7.out.c 1 rfl
        have rf1 := XR7.out.f 1 rfl
        have r2 := XR7.out.c 2 rfl
        have rf2 := XR7.out.f 2 rfl
        have rz := XR7.out.size
        have a0 := XA7.out.c 0 rfl
        have af0 := XA7.out.f 0 rfl
        have a1 := XA7.out.c 1 rfl
        have af1 := XA7.out.f 1 rfl
        have a2 := XA7.out.c 2 rfl
        have af2 := XA7.out.f 2 rfl
        have az := XA7.out.size
        have x0 := XX7.out.c 0 rfl
        have xf0 := XX7.out.f 0 rfl
        have x1 := XX7.out.c 1 rfl
        have xf1 := XX7.out.f 1 rfl
        have x2 := XX7.out.c 2 rfl
        have xf2 := XX7.out.f 2 rfl
        have xz := XX7.out.size
        go_wp2
        have PD0 : w7.drew.cell? ⟨w2.heap.size, 0, none⟩ = some (.int .i64 s1) := a0
        have PD1 : w7.drew.cell? ⟨w2.heap.size, 1, none⟩ = some (.int .i64 s2) := a1
        have PD2 : w7.drew.cell? ⟨w2.heap.size, 2, none⟩ = some (.slice ao q.length c) := a2
        go_region_law (first
            | (go_simp; go_at_call 11; have _g := hz8; refine (stepG s1 s2 ao c q z w8 (by omega) D8.out).mono ?_; rintro e w9 ⟨⟨vs1, vs2, vao, vc, vq, xo, xc, xn, cv, rfl, hS1, hW1⟩, hy⟩; have hb : Below w8.heap.size w8 w9 := hy; have XR9 := hid (XR8.out.grew (Grew.of_below (p := p) hb) (by omega)); have XA9 := hid (XA8.out.grew (Grew.of_below (p := p) hb) (by omega)); have XX9 := hid (XX8.out.grew (Grew.of_below (p := p) hb) (by omega)); have D9 := hid (D8.out.grew (Grew.of_below (p := p) hb) (by omega)); have C9 := hid (C8.out.later hb); have hR9 : Grew p w w9 := hR8.trans (Grew.of_below (p := p) hb); have hz9 : w8.heap.size ≤ w9.heap.size := hb.size; have E9 := hid (hW1); have HS9 := hid (hS1); have P9a := XA9.out.c 0 rfl; have P9b := XA9.out.c 1 rfl; have P9c := XA9.out.c 2 rfl; have rg0 := XR9.out.c 0 rfl; have rh0 := XR9.out.f 0 rfl; have rg1 := XR9.out.c 1 rfl; have rh1 := XR9.out.f 1 rfl; have rg2 := XR9.out.c 2 rfl; have rh2 := XR9.out.f 2 rfl; have ag0 := XA9.out.c 0 rfl; have ah0 := XA9.out.f 0 rfl; have ag1 := XA9.out.c 1 rfl; have ah1 := XA9.out.f 1 rfl; have ag2 := XA9.out.c 2 rfl; have ah2 := XA9.out.f 2 rfl; have xg0 := XX9.out.c 0 rfl; have xh0 := XX9.out.f 0 rfl; have xg1 := XX9.out.c 1 rfl; have xh1 := XX9.out.f 1 rfl; have xg2 := XX9.out.c 2 rfl; have xh2 := XX9.out.f 2 rfl; clear hy hb hW1 hS1)
            | (go_simp; go_at_call 20; refine (pick_any _ p co cap bs k7 sd7 w7.drew hl (by omega) C7.out.drew).mono ?_; rintro e w8 ⟨⟨z, rfl, h0z, h1z⟩, hD⟩; obtain ⟨k8, sd8, hk8, hC, hg0, hsz⟩ := hD.grew; have hg : Grew p w7 w8 := hg0.from; have XR8 := hid (XR7.out.grew hg (by omega)); have XA8 := hid (XA7.out.grew hg (by omega)); have XX8 := hid (XX7.out.grew hg (by omega)); have D8 := hid (D7.out.grew hg (by omega)); have C8 := hid hC; have hR8 : Grew p w w8 := hR7.trans hg; have hz8 : w7.heap.size ≤ w8.heap.size := hg.size; have P8a := XA8.out.c 0 rfl; have P8b := XA8.out.c 1 rfl; have P8c := XA8.out.c 2 rfl; clear hD hC hg0 hg hsz))
        all_goals
          have HS1 := hid HS9.out
          clear HS9
          obtain ⟨w10, hV⟩ : ∃ V, V = (((w9.setCell ⟨wr.heap.size, 0, none⟩ (.int .i64 vs1)).setCell ⟨wr.heap.size, 1, none⟩ (.int .i64 vs2)).setCell ⟨wr.heap.size, 2, none⟩ (.slice vao vq.length vc)) := ⟨_, rfl⟩
          have XR10 := hid ((((XR9.out.other (a := ⟨wr.heap.size, 0, none⟩) (by dsimp only; omega) (.int .i64 vs1)).other (a := ⟨wr.heap.size, 1, none⟩) (by dsimp only; omega) (.int .i64 vs2)).other (a := ⟨wr.heap.size, 2, none⟩) (by dsimp only; omega) (.slice vao vq.length vc)))
          rw [← hV] at XR10
          have XA10 := hid ((((XA9.out.other (a := ⟨wr.heap.size, 0, none⟩) (by dsimp only; omega) (.int .i64 vs1)).other (a := ⟨wr.heap.size, 1, none⟩) (by dsimp only; omega) (.int .i64 vs2)).other (a := ⟨wr.heap.size, 2, none⟩) (by dsimp only; omega) (.slice vao vq.length vc)))
          rw [← hV] at XA10
          have XX10 := hid ((((XX9.out.set 0 (.int .i64 vs1)).set 1 (.int .i64 vs2)).set 2 (.slice vao vq.length vc)))
          rw [← hV] at XX10
          have D10 := hid ((((D9.out.setOff (a := ⟨wr.heap.size, 0, none⟩) (by dsimp only; omega) (.int .i64 vs1)).setOff (a := ⟨wr.heap.size, 1, none⟩) (by dsimp only; omega) (.int .i64 vs2)).setOff (a := ⟨wr.heap.size, 2, none⟩) (by dsimp only; omega) (.slice vao vq.length vc)))
          rw [← hV] at D10
          have E10 := hid ((((E9.out.setOff (a := ⟨wr.heap.size, 0, none⟩) (by dsimp only; omega) (.int .i64 vs1)).setOff (a := ⟨wr.heap.size, 1, none⟩) (by dsimp only; omega) (.int .i64 vs2)).setOff (a := ⟨wr.heap.size, 2, none⟩) (by dsimp only; omega) (.slice vao vq.length vc)))
          rw [← hV] at E10
          have C10 := hid ((((C9.out.other (a := ⟨wr.heap.size, 0, none⟩) (by dsimp only; omega) (.int .i64 vs1)).other (a := ⟨wr.heap.size, 1, none⟩) (by dsimp only; omega) (.int .i64 vs2)).other (a := ⟨wr.heap.size, 2, none⟩) (by dsimp only; omega) (.slice vao vq.length vc)))
          rw [← hV] at C10
          have hR10 : Grew p w w10 := by rw [hV]; exact (((hR9.set (a := ⟨wr.heap.size, 0, none⟩) (by dsimp only; omega) (.int .i64 vs1)).set (a := ⟨wr.heap.size, 1, none⟩) (by dsimp only; omega) (.int .i64 vs2)).set (a := ⟨wr.heap.size, 2, none⟩) (by dsimp only; omega) (.slice vao vq.length vc))
          have hz10 : w9.heap.size ≤ w10.heap.size := by rw [hV]; simp
          have H10 := hid hV
          clear hV XR9 XA9 XX9 D9 E9 C9
          go_upto_region 10 with fail
          clear rg0 rh0 rg1 rh1 rg2 rh2 ag0 ah0 ag1 ah1 ag2 ah2 xg0 xh0 xg1 xh1 xg2 xh2
          rw [← H10.out]
          clear H10
          by_cases hc : cv < 2
          · have S1 := hid (HS1.out hc)
            have hc1 : decide (cv < 2) = true := by simpa using hc
            have r0 := XR10.out.c 0 rfl
            have rf0 := XR10.out.f 0 rfl
            have r1 := XR10.out.c 1 rfl
            have rf1 := XR10.out.f 1 rfl
            have r2 := XR10.out.c 2 rfl
            have rf2 := XR10.out.f 2 rfl
            have rz := XR10.out.size
            have a0 := XA10.out.c 0 rfl
            have af0 := XA10.out.f 0 rfl
            have a1 := XA10.out.c 1 rfl
            have af1 := XA10.out.f 1 rfl
            have a2 := XA10.out.c 2 rfl
            have af2 := XA10.out.f 2 rfl
            have az := XA10.out.size
            have x0 := XX10.out.c 0 rfl
            have xf0 := XX10.out.f 0 rfl
            have x1 := XX10.out.c 1 rfl
            have xf1 := XX10.out.f 1 rfl
            have x2 := XX10.out.c 2 rfl
            have xf2 := XX10.out.f 2 rfl
            have xz := XX10.out.size
            obtain ⟨w11, hV⟩ : ∃ V, V = (((w10.setCell ⟨w2.heap.size, 0, none⟩ (.int .i64 vs1)).setCell ⟨w2.heap.size, 1, none⟩ (.int .i64 vs2)).setCell ⟨w2.heap.size, 2, none⟩ (.slice vao vq.length vc)) := ⟨_, rfl⟩
            have XR11 := hid ((((XR10.out.other (a := ⟨w2.heap.size, 0, none⟩) (by dsimp only; omega) (.int .i64 vs1)).other (a := ⟨w2.heap.size, 1, none⟩) (by dsimp only; omega) (.int .i64 vs2)).other (a := ⟨w2.heap.size, 2, none⟩) (by dsimp only; omega) (.slice vao vq.length vc)))
            rw [← hV] at XR11
            have XA11 := hid ((((XA10.out.set 0 (.int .i64 vs1)).set 1 (.int .i64 vs2)).set 2 (.slice vao vq.length vc)))
            rw [← hV] at XA11
            have XX11 := hid ((((XX10.out.other (a := ⟨w2.heap.size, 0, none⟩) (by dsimp only; omega) (.int .i64 vs1)).other (a := ⟨w2.heap.size, 1, none⟩) (by dsimp only; omega) (.int .i64 vs2)).other (a := ⟨w2.heap.size, 2, none⟩) (by dsimp only; omega) (.slice vao vq.length vc)))
            rw [← hV] at XX11
            have D11 := hid ((((D10.out.setOff (a := ⟨w2.heap.size, 0, none⟩) (by dsimp only; omega) (.int .i64 vs1)).setOff (a := ⟨w2.heap.size, 1, none⟩) (by dsimp only; omega) (.int .i64 vs2)).setOff (a := ⟨w2.heap.size, 2, none⟩) (by dsimp only; omega) (.slice vao vq.length vc)))
            rw [← hV] at D11
            have E11 := hid ((((E10.out.setOff (a := ⟨w2.heap.size, 0, none⟩) (by dsimp only; omega) (.int .i64 vs1)).setOff (a := ⟨w2.heap.size, 1, none⟩) (by dsimp only; omega) (.int .i64 vs2)).setOff (a := ⟨w2.heap.size, 2, none⟩) (by dsimp only; omega) (.slice vao vq.length vc)))
            rw [← hV] at E11
            have C11 := hid ((((C10.out.other (a := ⟨w2.heap.size, 0, none⟩) (by dsimp only; omega) (.int .i64 vs1)).other (a := ⟨w2.heap.size, 1, none⟩) (by dsimp only; omega) (.int .i64 vs2)).other (a := ⟨w2.heap.size, 2, none⟩) (by dsimp only; omega) (.slice vao vq.length vc)))
            rw [← hV] at C11
            have hR11 : Grew p w w11 := by rw [hV]; exact (((hR10.set (a := ⟨w2.heap.size, 0, none⟩) (by dsimp only; omega) (.int .i64 vs1)).set (a := ⟨w2.heap.size, 1, none⟩) (by dsimp only; omega) (.int .i64 vs2)).set (a := ⟨w2.heap.size, 2, none⟩) (by dsimp only; omega) (.slice vao vq.length vc))
            have hz11 : w10.heap.size ≤ w11.heap.size := by rw [hV]; simp
            have H11 := hid hV
            clear hV XR10 XA10 XX10 D10 E10 C10
            go_wp2
            clear r0 rf0 r1 rf1 r2 rf2 rz a0 af0 a1 af1 a2 af2 az x0 xf0 x1 xf1 x2 xf2 xz
            rw [← H11.out]
            clear H11
            have S2 := S1.out
            go_roundw
            case rel => exact ⟨m, k8, sd8, vs1, vs2, vao, vc, vq, by go_num, by omega, by omega, by omega, by omega, XR11, XA11, hid (E11.out.wide (by omega) (by omega)), C11, hR11, by omega⟩
            case measure => simp [intOf] <;> omega
          · have hc1 : decide (cv < 2) = false := by simpa using hc
            have r0 := XR10.out.c 0 rfl
            have rf0 := XR10.out.f 0 rfl
            have r1 := XR10.out.c 1 rfl
            have rf1 := XR10.out.f 1 rfl
            have r2 := XR10.out.c 2 rfl
            have rf2 := XR10.out.f 2 rfl
            have rz := XR10.out.size
            have a0 := XA10.out.c 0 rfl
            have af0 := XA10.out.f 0 rfl
            have a1 := XA10.out.c 1 rfl
            have af1 := XA10.out.f 1 rfl
            have a2 := XA10.out.c 2 rfl
            have af2 := XA10.out.f 2 rfl
            have az := XA10.out.size
            have x0 := XX10.out.c 0 rfl
            have xf0 := XX10.out.f 0 rfl
            have x1 := XX10.out.c 1 rfl
            have xf1 := XX10.out.f 1 rfl
            have x2 := XX10.out.c 2 rfl
            have xf2 := XX10.out.f 2 rfl
            have xz := XX10.out.size
            go_wp2
            clear r0 rf0 r1 rf1 r2 rf2 rz a0 af0 a1 af1 a2 af2 az x0 xf0 x1 xf1 x2 xf2 xz
            go_roundw
            case rel => exact ⟨m, k8, sd8, s1, s2, ao, c, q, by go_num, by omega, by omega, by omega, by omega, XR10, XA10, hid (D10.out.wide (by omega) (by omega)), C10, hR10, by omega⟩
            case measure => simp [intOf] <;> omega
    | zero =>
      have r0 := XR5.out.c 0 rfl
      have rf0 := XR5.out.f 0 rfl
      have r1 := XR5.out.c 1 rfl
      have rf1 := XR5.out.f 1 rfl
      have r2 := XR5.out.c 2 rfl
      have rf2 := XR5.out.f 2 rfl
      have rz := XR5.out.size
      have a0 := XA5.out.c 0 rfl
      have af0 := XA5.out.f 0 rfl
      have a1 := XA5.out.c 1 rfl
      have af1 := XA5.out.f 1 rfl
      have a2 := XA5.out.c 2 rfl
      have af2 := XA5.out.f 2 rfl
      have az := XA5.out.size
      go_wp2_with fail
      clear r0 rf0 r1 rf1 r2 rf2 rz a0 af0 a1 af1 a2 af2 az
      refine (pick_any 30 p co cap bs k0 sd0 wr hl (by omega) C5.out).mono ?_
      rintro e w6 ⟨⟨y, rfl, h0y, h1y⟩, hD⟩
      obtain ⟨k6, sd6, hk6, hC6, hg6, hsz6⟩ := hD.grew
      have XR6 := hid (XR5.out.grew hg6 (by omega))
      have XA6 := hid (XA5.out.grew hg6 (by omega))
      have D6 := hid (D5.out.grew hg6 (by omega))
      have C6 := hid hC6
      have hR6 : Grew p w w6 := hR5.trans hg6
      have hz6 : wr.heap.size ≤ w6.heap.size := hg6.size
      clear XR5 XA5 D5 C5 hD hg6 hC6 hsz6
      have hy3 : y = 0 ∨ y = 1 ∨ y = 2 ∨ (y ≠ 0 ∧ y ≠ 1 ∧ y ≠ 2) := by omega
      clear h0y h1y
      rcases hy3 with rfl | rfl | rfl | ⟨y0, y1, y2⟩
      · have r0 := XR6.out.c 0 rfl
        have rf0 := XR6.out.f 0 rfl
        have r1 := XR6.out.c 1 rfl
        have rf1 := XR6.out.f 1 rfl
        have r2 := XR6.out.c 2 rfl
        have rf2 := XR6.out.f 2 rfl
        have rz := XR6.out.size
        have a0 := XA6.out.c 0 rfl
        have af0 := XA6.out.f 0 rfl
        have a1 := XA6.out.c 1 rfl
        have af1 := XA6.out.f 1 rfl
        have a2 := XA6.out.c 2 rfl
        have af2 := XA6.out.f 2 rfl
        have az := XA6.out.size
        obtain ⟨w7, hV⟩ : ∃ V, V = w6.alloc (.cells #[.int .i64 0, .int .i64 1000, .int .i64 1001] 3) := ⟨_, rfl⟩
        have XR7 := hid (XR6.out.alloc (.cells #[.int .i64 0, .int .i64 1000, .int .i64 1001] 3))
        rw [← hV] at XR7
        have XA7 := hid (XA6.out.alloc (.cells #[.int .i64 0, .int .i64 1000, .int .i64 1001] 3))
        rw [← hV] at XA7
        have D7 := hid (D6.out.later (below1 w6 (.cells #[.int .i64 0, .int .i64 1000, .int .i64 1001] 3)))
        rw [← hV] at D7
        have C7 := hid (C6.out.later (below1 w6 (.cells #[.int .i64 0, .int .i64 1000, .int .i64 1001] 3)))
        rw [← hV] at C7
        have hR7 : Grew p w w7 := by rw [hV]; exact hR6.trans (Grew.alloc p _ _)
        have hz7 : w6.heap.size ≤ w7.heap.size := by rw [hV]; simp
        have H7 := hid hV
        clear hV XR6 XA6 D6 C6
        have XU7 : Hid (Bx w7 w6.heap.size [.int .i64 0, .int .i64 1000, .int .i64 1001]) := by rw [H7.out]; exact Bx.new [.int .i64 0, .int .i64 1000, .int .i64 1001] _ rfl
        have hy7 : w6.heap.size < w7.heap.size := XU7.out.size
        go_wp2_with fail
        clear r0 rf0 r1 rf1 r2 rf2 rz a0 af0 a1 af1 a2 af2 az
        rw [← H7.out]
        clear H7
        refine (among_in [0, 1000, 1001] w6.heap.size p co cap bs k6 sd6 w7 hl (by omega) C7.out (by simp) (by simp) XU7.out (by omega)).mono ?_
        rintro e w8 ⟨⟨z, hmz, rfl⟩, hD⟩
        obtain ⟨k8, sd8, hk8, hC8, hg8, hsz8⟩ := hD.grew
        have XR8 := hid (XR7.out.grew hg8 (by omega))
        have XA8 := hid (XA7.out.grew hg8 (by omega))
        have XU8 := hid (XU7.out.grew hg8 (by omega))
        have D8 := hid (D7.out.grew hg8 (by omega))
        have C8 := hid hC8
        have hR8 : Grew p w w8 := hR7.trans hg8
        have hz8 : w7.heap.size ≤ w8.heap.size := hg8.size
        clear XR7 XA7 XU7 D7 C7 hD hg8 hC8 hsz8
        have hzb : 0 ≤ z ∧ z ≤ 1001 := by simp at hmz; omega
        clear hmz
        have r0 := XR8.out.c 0 rfl
        have rf0 := XR8.out.f 0 rfl
        have r1 := XR8.out.c 1 rfl
        have rf1 := XR8.out.f 1 rfl
        have r2 := XR8.out.c 2 rfl
        have rf2 := XR8.out.f 2 rfl
        have rz := XR8.out.size
        have a0 := XA8.out.c 0 rfl
        have af0 := XA8.out.f 0 rfl
        have a1 := XA8.out.c 1 rfl
        have af1 := XA8.out.f 1 rfl
        have a2 := XA8.out.c 2 rfl
        have af2 := XA8.out.f 2 rfl
        have az := XA8.out.size
        have u0 := XU8.out.c 0 rfl
        have uf0 := XU8.out.f 0 rfl
        have u1 := XU8.out.c 1 rfl
        have uf1 := XU8.out.f 1 rfl
        have u2 := XU8.out.c 2 rfl
        have uf2 := XU8.out.f 2 rfl
        have uz := XU8.out.size
        obtain ⟨w9, hV⟩ : ∃ V, V = (w8.setCell ⟨w2.heap.size, 0, none⟩ (.int .i64 z)) := ⟨_, rfl⟩
        have XR9 := hid ((XR8.out.other (a := ⟨w2.heap.size, 0, none⟩) (by dsimp only; omega) (.int .i64 z)))
        rw [← hV] at XR9
        have XA9 := hid ((XA8.out.set 0 (.int .i64 z)))
        rw [← hV] at XA9
        have XU9 := hid ((XU8.out.other (a := ⟨w2.heap.size, 0, none⟩) (by dsimp only; omega) (.int .i64 z)))
        rw [← hV] at XU9
        have D9 := hid ((D8.out.setOff (a := ⟨w2.heap.size, 0, none⟩) (by dsimp only; omega) (.int .i64 z)))
        rw [← hV] at D9
        have C9 := hid ((C8.out.other (a := ⟨w2.heap.size, 0, none⟩) (by dsimp only; omega) (.int .i64 z)))
        rw [← hV] at C9
        have hR9 : Grew p w w9 := by rw [hV]; exact (hR8.set (a := ⟨w2.heap.size, 0, none⟩) (by dsimp only; omega) (.int .i64 z))
        have hz9 : w8.heap.size ≤ w9.heap.size := by rw [hV]; simp
        have H9 := hid hV
        clear hV XR8 XA8 XU8 D8 C8
        go_upto_region 19 with fail
        clear r0 rf0 r1 rf1 r2 rf2 rz a0 af0 a1 af1 a2 af2 az u0 uf0 u1 uf1 u2 uf2 uz
        rw [← H9.out]
        clear H9
        have r0 := XR9.out.c 0 rfl
        have rf0 := XR9.out.f 0 rfl
        have r1 := XR9.out.c 1 rfl
        have rf1 := XR9.out.f 1 rfl
        have r2 := XR9.out.c 2 rfl
        have rf2 := XR9.out.f 2 rfl
        have rz := XR9.out.size
        have a0 := XA9.out.c 0 rfl
        have af0 := XA9.out.f 0 rfl
        have a1 := XA9.out.c 1 rfl
        have af1 := XA9.out.f 1 rfl
        have a2 := XA9.out.c 2 rfl
        have af2 := XA9.out.f 2 rfl
        have az := XA9.out.size
        have u0 := XU9.out.c 0 rfl
        have uf0 := XU9.out.f 0 rfl
        have u1 := XU9.out.c 1 rfl
        have uf1 := XU9.out.f 1 rfl
        have u2 := XU9.out.c 2 rfl
        have uf2 := XU9.out.f 2 rfl
        have uz := XU9.out.size
        obtain ⟨w10, hV⟩ : ∃ V, V = (((w9.setCell ⟨w.heap.size, 0, none⟩ (.int .i64 z)).setCell ⟨w.heap.size, 1, none⟩ (.int .i64 s2)).setCell ⟨w.heap.size, 2, none⟩ (.slice ao q.length c)) := ⟨_, rfl⟩
        have XR10 := hid ((((XR9.out.set 0 (.int .i64 z)).set 1 (.int .i64 s2)).set 2 (.slice ao q.length c)))
        rw [← hV] at XR10
        have XA10 := hid ((((XA9.out.other (a := ⟨w.heap.size, 0, none⟩) (by dsimp only; omega) (.int .i64 z)).other (a := ⟨w.heap.size, 1, none⟩) (by dsimp only; omega) (.int .i64 s2)).other (a := ⟨w.heap.size, 2, none⟩) (by dsimp only; omega) (.slice ao q.length c)))
        rw [← hV] at XA10
        have XU10 := hid ((((XU9.out.other (a := ⟨w.heap.size, 0, none⟩) (by dsimp only; omega) (.int .i64 z)).other (a := ⟨w.heap.size, 1, none⟩) (by dsimp only; omega) (.int .i64 s2)).other (a := ⟨w.heap.size, 2, none⟩) (by dsimp only; omega) (.slice ao q.length c)))
        rw [← hV] at XU10
        have D10 := hid ((((D9.out.setOff (a := ⟨w.heap.size, 0, none⟩) (by dsimp only; omega) (.int .i64 z)).setOff (a := ⟨w.heap.size, 1, none⟩) (by dsimp only; omega) (.int .i64 s2)).setOff (a := ⟨w.heap.size, 2, none⟩) (by dsimp only; omega) (.slice ao q.length c)))
        rw [← hV] at D10
        have C10 := hid ((((C9.out.other (a := ⟨w.heap.size, 0, none⟩) (by dsimp only; omega) (.int .i64 z)).other (a := ⟨w.heap.size, 1, none⟩) (by dsimp only; omega) (.int .i64 s2)).other (a := ⟨w.heap.size, 2, none⟩) (by dsimp only; omega) (.slice ao q.length c)))
        rw [← hV] at C10
        have hR10 : Grew p w w10 := by rw [hV]; exact (((hR9.set (a := ⟨w.heap.size, 0, none⟩) (by dsimp only; omega) (.int .i64 z)).set (a := ⟨w.heap.size, 1, none⟩) (by dsimp only; omega) (.int .i64 s2)).set (a := ⟨w.heap.size, 2, none⟩) (by dsimp only; omega) (.slice ao q.length c))
        have hz10 : w9.heap.size ≤ w10.heap.size := by rw [hV]; simp
        have H10 := hid hV
        clear hV XR9 XA9 XU9 D9 C9
        go_wp2
        clear r0 rf0 r1 rf1 r2 rf2 rz a0 af0 a1 af1 a2 af2 az u0 uf0 u1 uf1 u2 uf2 uz
        rw [← H10.out]
        clear H10
        have r0 := XR10.out.c 0 rfl
        have rf0 := XR10.out.f 0 rfl
        have r1 := XR10.out.c 1 rfl
        have rf1 := XR10.out.f 1 rfl
        have r2 := XR10.out.c 2 rfl
        have rf2 := XR10.out.f 2 rfl
        have rz := XR10.out.size
        have a0 := XA10.out.c 0 rfl
        have af0 := XA10.out.f 0 rfl
        have a1 := XA10.out.c 1 rfl
        have af1 := XA10.out.f 1 rfl
        have a2 := XA10.out.c 2 rfl
        have af2 := XA10.out.f 2 rfl
        have az := XA10.out.size
        have u0 := XU10.out.c 0 rfl
        have uf0 := XU10.out.f 0 rfl
        have u1 := XU10.out.c 1 rfl
        have uf1 := XU10.out.f 1 rfl
        have u2 := XU10.out.c 2 rfl
        have uf2 := XU10.out.f 2 rfl
        have uz := XU10.out.size
        refine bodyPost_ret (v := .agg #[.int .i64 z, .int .i64 s2, .slice ao q.length c]) (by simp [results, Try.results27, go_sem, r0, r1, r2]) rfl ?_
        exact ⟨⟨z, s2, ao, c, q, rfl, ⟨by omega, by omega, by omega, by omega, by omega⟩, D10.out.wide (by omega) (by omega)⟩, k8, sd8, by omega, C10.out, hR10⟩
      · have r0 := XR6.out.c 0 rfl
        have rf0 := XR6.out.f 0 rfl
        have r1 := XR6.out.c 1 rfl
        have rf1 := XR6.out.f 1 rfl
        have r2 := XR6.out.c 2 rfl
        have rf2 := XR6.out.f 2 rfl
        have rz := XR6.out.size
        have a0 := XA6.out.c 0 rfl
        have af0 := XA6.out.f 0 rfl
        have a1 := XA6.out.c 1 rfl
        have af1 := XA6.out.f 1 rfl
        have a2 := XA6.out.c 2 rfl
        have af2 := XA6.out.f 2 rfl
        have az := XA6.out.size
        obtain ⟨w7, hV⟩ : ∃ V, V = w6.alloc (.cells #[.int .i64 (-1), .int .i64 0, .int .i64 (s1 + 1)] 3) := ⟨_, rfl⟩
        have XR7 := hid (XR6.out.alloc (.cells #[.int .i64 (-1), .int .i64 0, .int .i64 (s1 + 1)] 3))
        rw [← hV] at XR7
        have XA7 := hid (XA6.out.alloc (.cells #[.int .i64 (-1), .int .i64 0, .int .i64 (s1 + 1)] 3))
        rw [← hV] at XA7
        have D7 := hid (D6.out.later (below1 w6 (.cells #[.int .i64 (-1), .int .i64 0, .int .i64 (s1 + 1)] 3)))
        rw [← hV] at D7
        have C7 := hid (C6.out.later (below1 w6 (.cells #[.int .i64 (-1), .int .i64 0, .int .i64 (s1 + 1)] 3)))
        rw [← hV] at C7
        have hR7 : Grew p w w7 := by rw [hV]; exact hR6.trans (Grew.alloc p _ _)
        have hz7 : w6.heap.size ≤ w7.heap.size := by rw [hV]; simp
        have H7 := hid hV
        clear hV XR6 XA6 D6 C6
        have XU7 : Hid (Bx w7 w6.heap.size [.int .i64 (-1), .int .i64 0, .int .i64 (s1 + 1)]) := by rw [H7.out]; exact Bx.new [.int .i64 (-1), .int .i64 0, .int .i64 (s1 + 1)] _ rfl
        have hy7 : w6.heap.size < w7.heap.size := XU7.out.size
        go_wp2_with fail
        clear r0 rf0 r1 rf1 r2 rf2 rz a0 af0 a1 af1 a2 af2 az
        rw [← H7.out]
        clear H7
        refine (among_in [-1, 0, s1 + 1] w6.heap.size p co cap bs k6 sd6 w7 hl (by omega) C7.out (by simp) (by simp) XU7.out (by omega)).mono ?_
        rintro e w8 ⟨⟨z, hmz, rfl⟩, hD⟩
        obtain ⟨k8, sd8, hk8, hC8, hg8, hsz8⟩ := hD.grew
        have XR8 := hid (XR7.out.grew hg8 (by omega))
        have XA8 := hid (XA7.out.grew hg8 (by omega))
        have XU8 := hid (XU7.out.grew hg8 (by omega))
        have D8 := hid (D7.out.grew hg8 (by omega))
        have C8 := hid hC8
        have hR8 : Grew p w w8 := hR7.trans hg8
        have hz8 : w7.heap.size ≤ w8.heap.size := hg8.size
        clear XR7 XA7 XU7 D7 C7 hD hg8 hC8 hsz8
        have hzb : -1 ≤ z ∧ z ≤ 1002 := by simp at hmz; omega
        clear hmz
        have r0 := XR8.out.c 0 rfl
        have rf0 := XR8.out.f 0 rfl
        have r1 := XR8.out.c 1 rfl
        have rf1 := XR8.out.f 1 rfl
        have r2 := XR8.out.c 2 rfl
        have rf2 := XR8.out.f 2 rfl
        have rz := XR8.out.size
        have a0 := XA8.out.c 0 rfl
        have af0 := XA8.out.f 0 rfl
        have a1 := XA8.out.c 1 rfl
        have af1 := XA8.out.f 1 rfl
        have a2 := XA8.out.c 2 rfl
        have af2 := XA8.out.f 2 rfl
        have az := XA8.out.size
        have u0 := XU8.out.c 0 rfl
        have uf0 := XU8.out.f 0 rfl
        have u1 := XU8.out.c 1 rfl
        have uf1 := XU8.out.f 1 rfl
        have u2 := XU8.out.c 2 rfl
        have uf2 := XU8.out.f 2 rfl
        have uz := XU8.out.size
        obtain ⟨w9, hV⟩ : ∃ V, V = (w8.setCell ⟨w2.heap.size, 1, none⟩ (.int .i64 z)) := ⟨_, rfl⟩
        have XR9 := hid ((XR8.out.other (a := ⟨w2.heap.size, 1, none⟩) (by dsimp only; omega) (.int .i64 z)))
        rw [← hV] at XR9
        have XA9 := hid ((XA8.out.set 1 (.int .i64 z)))
        rw [← hV] at XA9
        have XU9 := hid ((XU8.out.other (a := ⟨w2.heap.size, 1, none⟩) (by dsimp only; omega) (.int .i64 z)))
        rw [← hV] at XU9
        have D9 := hid ((D8.out.setOff (a := ⟨w2.heap.size, 1, none⟩) (by dsimp only; omega) (.int .i64 z)))
        rw [← hV] at D9
        have C9 := hid ((C8.out.other (a := ⟨w2.heap.size, 1, none⟩) (by dsimp only; omega) (.int .i64 z)))
        rw [← hV] at C9
        have hR9 : Grew p w w9 := by rw [hV]; exact (hR8.set (a := ⟨w2.heap.size, 1, none⟩) (by dsimp only; omega) (.int .i64 z))
        have hz9 : w8.heap.size ≤ w9.heap.size := by rw [hV]; simp
        have H9 := hid hV
        clear hV XR8 XA8 XU8 D8 C8
        go_upto_region 19 with fail
        clear r0 rf0 r1 rf1 r2 rf2 rz a0 af0 a1 af1 a2 af2 az u0 uf0 u1 uf1 u2 uf2 uz
        rw [← H9.out]
        clear H9
        have r0 := XR9.out.c 0 rfl
        have rf0 := XR9.out.f 0 rfl
        have r1 := XR9.out.c 1 rfl
        have rf1 := XR9.out.f 1 rfl
        have r2 := XR9.out.c 2 rfl
        have rf2 := XR9.out.f 2 rfl
        have rz := XR9.out.size
        have a0 := XA9.out.c 0 rfl
        have af0 := XA9.out.f 0 rfl
        have a1 := XA9.out.c 1 rfl
        have af1 := XA9.out.f 1 rfl
        have a2 := XA9.out.c 2 rfl
        have af2 := XA9.out.f 2 rfl
        have az := XA9.out.size
        have u0 := XU9.out.c 0 rfl
        have uf0 := XU9.out.f 0 rfl
        have u1 := XU9.out.c 1 rfl
        have uf1 := XU9.out.f 1 rfl
        have u2 := XU9.out.c 2 rfl
        have uf2 := XU9.out.f 2 rfl
        have uz := XU9.out.size
        obtain ⟨w10, hV⟩ : ∃ V, V = (((w9.setCell ⟨w.heap.size, 0, none⟩ (.int .i64 s1)).setCell ⟨w.heap.size, 1, none⟩ (.int .i64 z)).setCell ⟨w.heap.size, 2, none⟩ (.slice ao q.length c)) := ⟨_, rfl⟩
        have XR10 := hid ((((XR9.out.set 0 (.int .i64 s1)).set 1 (.int .i64 z)).set 2 (.slice ao q.length c)))
        rw [← hV] at XR10
        have XA10 := hid ((((XA9.out.other (a := ⟨w.heap.size, 0, none⟩) (by dsimp only; omega) (.int .i64 s1)).other (a := ⟨w.heap.size, 1, none⟩) (by dsimp only; omega) (.int .i64 z)).other (a := ⟨w.heap.size, 2, none⟩) (by dsimp only; omega) (.slice ao q.length c)))
        rw [← hV] at XA10
        have XU10 := hid ((((XU9.out.other (a := ⟨w.heap.size, 0, none⟩) (by dsimp only; omega) (.int .i64 s1)).other (a := ⟨w.heap.size, 1, none⟩) (by dsimp only; omega) (.int .i64 z)).other (a := ⟨w.heap.size, 2, none⟩) (by dsimp only; omega) (.slice ao q.length c)))
        rw [← hV] at XU10
        have D10 := hid ((((D9.out.setOff (a := ⟨w.heap.size, 0, none⟩) (by dsimp only; omega) (.int .i64 s1)).setOff (a := ⟨w.heap.size, 1, none⟩) (by dsimp only; omega) (.int .i64 z)).setOff (a := ⟨w.heap.size, 2, none⟩) (by dsimp only; omega) (.slice ao q.length c)))
        rw [← hV] at D10
        have C10 := hid ((((C9.out.other (a := ⟨w.heap.size, 0, none⟩) (by dsimp only; omega) (.int .i64 s1)).other (a := ⟨w.heap.size, 1, none⟩) (by dsimp only; omega) (.int .i64 z)).other (a := ⟨w.heap.size, 2, none⟩) (by dsimp only; omega) (.slice ao q.length c)))
        rw [← hV] at C10
        have hR10 : Grew p w w10 := by rw [hV]; exact (((hR9.set (a := ⟨w.heap.size, 0, none⟩) (by dsimp only; omega) (.int .i64 s1)).set (a := ⟨w.heap.size, 1, none⟩) (by dsimp only; omega) (.int .i64 z)).set (a := ⟨w.heap.size, 2, none⟩) (by dsimp only; omega) (.slice ao q.length c))
        have hz10 : w9.heap.size ≤ w10.heap.size := by rw [hV]; simp
        have H10 := hid hV
        clear hV XR9 XA9 XU9 D9 C9
        go_wp2
        clear r0 rf0 r1 rf1 r2 rf2 rz a0 af0 a1 af1 a2 af2 az u0 uf0 u1 uf1 u2 uf2 uz
        rw [← H10.out]
        clear H10
        have r0 := XR10.out.c 0 rfl
        have rf0 := XR10.out.f 0 rfl
        have r1 := XR10.out.c 1 rfl
        have rf1 := XR10.out.f 1 rfl
        have r2 := XR10.out.c 2 rfl
        have rf2 := XR10.out.f 2 rfl
        have rz := XR10.out.size
        have a0 := XA10.out.c 0 rfl
        have af0 := XA10.out.f 0 rfl
        have a1 := XA10.out.c 1 rfl
        have af1 := XA10.out.f 1 rfl
        have a2 := XA10.out.c 2 rfl
        have af2 := XA10.out.f 2 rfl
        have az := XA10.out.size
        have u0 := XU10.out.c 0 rfl
        have uf0 := XU10.out.f 0 rfl
        have u1 := XU10.out.c 1 rfl
        have uf1 := XU10.out.f 1 rfl
        have u2 := XU10.out.c 2 rfl
        have uf2 := XU10.out.f 2 rfl
        have uz := XU10.out.size
        refine bodyPost_ret (v := .agg #[.int .i64 s1, .int .i64 z, .slice ao q.length c]) (by simp [results, Try.results27, go_sem, r0, r1, r2]) rfl ?_
        exact ⟨⟨s1, z, ao, c, q, rfl, ⟨by omega, by omega, by omega, by omega, by omega⟩, D10.out.wide (by omega) (by omega)⟩, k8, sd8, by omega, C10.out, hR10⟩
      · have r0 := XR6.out.c 0 rfl
        have rf0 := XR6.out.f 0 rfl
        have r1 := XR6.out.c 1 rfl
        have rf1 := XR6.out.f 1 rfl
        have r2 := XR6.out.c 2 rfl
        have rf2 := XR6.out.f 2 rfl
        have rz := XR6.out.size
        have a0 := XA6.out.c 0 rfl
        have af0 := XA6.out.f 0 rfl
        have a1 := XA6.out.c 1 rfl
        have af1 := XA6.out.f 1 rfl
        have a2 := XA6.out.c 2 rfl
        have af2 := XA6.out.f 2 rfl
        have az := XA6.out.size
        go_wp2
        have PD : w6.drew.cell? ⟨w2.heap.size, 2, none⟩ = some (.slice ao q.length c) := a2
        have PB : (w6.alloc (.cells #[.int .i64 (-1), .int .i64 1, .int .i64 30] 3)).drew.cell? ⟨w2.heap.size, 2, none⟩ = some (.slice ao q.length c) := (XA6.out.alloc (.cells #[.int .i64 (-1), .int .i64 1, .int .i64 30] 3)).c 2 rfl
        have XU : Hid (Bx (w6.alloc (.cells #[.int .i64 (-1), .int .i64 1, .int .i64 30] 3)).drew w6.heap.size [.int .i64 (-1), .int .i64 1, .int .i64 30]) := hid (Bx.drew (Bx.new (w := w6) [.int .i64 (-1), .int .i64 1, .int .i64 30] _ rfl))
        go_region_law (first
            | (refine Kind.appS kN_ok (w8.alloc (.cells #[.int .i64 z, .int .i64 z2] 68)) (by rfl) (.tmp 65) (.tmp 72) (by rfl) (w2.heap.size + 1) (.slice ao q.length c) q (by rfl) Dl.out.1 (by simp <;> omega) (some ⟨w8.heap.size, 0, none⟩) [(z, z2)] 1 1 (by rfl) rfl (by simp) _ HN.out (by simp <;> omega) ?_; intro v' w9 hO hB hG hn; rw [← HZ.out] at hO; obtain ⟨ao3, c3, rfl, hO3⟩ := hO.as; have hz9 : w8.heap.size + 1 ≤ w9.heap.size := (by have := hB.size; simpa using this); have XR9 := hid (XRl.out.below hB (by omega)); have XA9 := hid (XAl.out.below hB (by omega)); have D9 := hid (Kind.RW.of hO3); have C9 := hid (Cl.out.below hB (by omega)); have hR9 := hRl.of_below2 hB (by omega); have P9 : w9.cell? ⟨w2.heap.size, 2, none⟩ = some (.slice ao q.length c) := XA9.out.c 2 rfl; have rg0 := XR9.out.c 0 rfl; have rh0 := XR9.out.f 0 rfl; have rg1 := XR9.out.c 1 rfl; have rh1 := XR9.out.f 1 rfl; have rg2 := XR9.out.c 2 rfl; have rh2 := XR9.out.f 2 rfl; have ag0 := XA9.out.c 0 rfl; have ah0 := XA9.out.f 0 rfl; have ag1 := XA9.out.c 1 rfl; have ah1 := XA9.out.f 1 rfl; have ag2 := XA9.out.c 2 rfl; have ah2 := XA9.out.f 2 rfl; clear hO hB hG hn hO3)
            | (go_simp; go_at_call 20; have _g := hz7; refine (pick_any 3 p co cap bs k7 sd7 w7 hl (by omega) C7.out).mono ?_; rintro e w8 ⟨⟨z2, rfl, h0z2, h1z2⟩, hD⟩; obtain ⟨k8, sd8, hk8, hC, hg0, hsz⟩ := hD.grew; have hg : Grew p w7 w8 := hg0; have XR8 := hid ((XR7.out).grew hg (by omega)); have XA8 := hid ((XA7.out).grew hg (by omega)); have D8 := hid ((D7.out).grew hg (by omega)); have C8 := hid hC; have hR8 : Grew p w w8 := hR7.trans hg; have hz8 : w7.heap.size ≤ w8.heap.size := hg.size; have P8 : w8.cell? ⟨w2.heap.size, 2, none⟩ = some (.slice ao q.length c) := XA8.out.c 2 rfl; have XRl := hid (XR8.out.alloc (.cells #[.int .i64 z, .int .i64 z2] 68)); have XAl := hid (XA8.out.alloc (.cells #[.int .i64 z, .int .i64 z2] 68)); have Dl := hid (D8.out.later (below1 w8 (.cells #[.int .i64 z, .int .i64 z2] 68))); have Cl := hid (C8.out.later (below1 w8 (.cells #[.int .i64 z, .int .i64 z2] 68))); have hRl : Grew p w (w8.alloc (.cells #[.int .i64 z, .int .i64 z2] 68)) := hR8.trans (Grew.alloc p _ _); have HN : Hid (kN.In (w8.heap.size + 1) (w8.alloc (.cells #[.int .i64 z, .int .i64 z2] 68)) (some ⟨w8.heap.size, 0, none⟩) [(z, z2)]) := kN_one (by omega) (by simp) (by simp); have PL : (w8.alloc (.cells #[.int .i64 z, .int .i64 z2] 68)).cell? ⟨w2.heap.size, 2, none⟩ = some (.slice ao q.length c) := XAl.out.c 2 rfl; obtain ⟨zs, hzs⟩ : ∃ zs, zs = q ++ [(z, z2)] := ⟨_, rfl⟩; have hzl : zs.length ≤ 40 := (by rw [hzs]; simp <;> omega); have HZ := hid hzs; clear hzs; clear hD hC hg0 hg hsz)
            | (go_simp; go_at_call 21; refine (among_in [-1, 1, 30] w6.heap.size p co cap bs k6 sd6 (w6.alloc (.cells #[.int .i64 (-1), .int .i64 1, .int .i64 30] 3)).drew hl (by omega) (C6.out.later (below1 w6 (.cells #[.int .i64 (-1), .int .i64 1, .int .i64 30] 3))).drew (by simp) (by simp) XU.out (by omega)).mono ?_; rintro e w7 ⟨⟨z, _, rfl⟩, hD⟩; obtain ⟨k7, sd7, hk7, hC, hg0, hsz⟩ := hD.grew; have hg : Grew p (w6.alloc (.cells #[.int .i64 (-1), .int .i64 1, .int .i64 30] 3)) w7 := hg0.from; have XR7 := hid ((XR6.out.alloc (.cells #[.int .i64 (-1), .int .i64 1, .int .i64 30] 3)).grew hg (by omega)); have XA7 := hid ((XA6.out.alloc (.cells #[.int .i64 (-1), .int .i64 1, .int .i64 30] 3)).grew hg (by omega)); have D7 := hid ((D6.out.later (below1 w6 (.cells #[.int .i64 (-1), .int .i64 1, .int .i64 30] 3))).grew hg (by omega)); have C7 := hid hC; have hR7 : Grew p w w7 := (hR6.trans (Grew.alloc p w6 (.cells #[.int .i64 (-1), .int .i64 1, .int .i64 30] 3))).trans hg; have hz7 : w6.heap.size + 1 ≤ w7.heap.size := (by have := hg.size; simpa using this); have P7 : w7.cell? ⟨w2.heap.size, 2, none⟩ = some (.slice ao q.length c) := XA7.out.c 2 rfl; clear hD hC hg0 hg hsz))
        all_goals
          obtain ⟨w10, hV⟩ : ∃ V, V = (w9.setCell ⟨w2.heap.size, 2, none⟩ (.slice ao3 zs.length c3)) := ⟨_, rfl⟩
          have XR10 := hid ((XR9.out.other (a := ⟨w2.heap.size, 2, none⟩) (by dsimp only; omega) (.slice ao3 zs.length c3)))
          rw [← hV] at XR10
          have XA10 := hid ((XA9.out.set 2 (.slice ao3 zs.length c3)))
          rw [← hV] at XA10
          have D10 := hid ((D9.out.setOff (a := ⟨w2.heap.size, 2, none⟩) (by dsimp only; omega) (.slice ao3 zs.length c3)))
          rw [← hV] at D10
          have C10 := hid ((C9.out.other (a := ⟨w2.heap.size, 2, none⟩) (by dsimp only; omega) (.slice ao3 zs.length c3)))
          rw [← hV] at C10
          have hR10 : Grew p w w10 := by rw [hV]; exact (hR9.set (a := ⟨w2.heap.size, 2, none⟩) (by dsimp only; omega) (.slice ao3 zs.length c3))
          have hz10 : w9.heap.size ≤ w10.heap.size := by rw [hV]; simp
          have H10 := hid hV
          clear hV XR9 XA9 D9 C9
          go_upto_region 19 with fail
          clear rg0 rh0 rg1 rh1 rg2 rh2 ag0 ah0 ag1 ah1 ag2 ah2
          rw [← H10.out]
          clear H10
          have r0 := XR10.out.c 0 rfl
          have rf0 := XR10.out.f 0 rfl
          have r1 := XR10.out.c 1 rfl
          have rf1 := XR10.out.f 1 rfl
          have r2 := XR10.out.c 2 rfl
          have rf2 := XR10.out.f 2 rfl
          have rz := XR10.out.size
          have a0 := XA10.out.c 0 rfl
          have af0 := XA10.out.f 0 rfl
          have a1 := XA10.out.c 1 rfl
          have af1 := XA10.out.f 1 rfl
          have a2 := XA10.out.c 2 rfl
          have af2 := XA10.out.f 2 rfl
          have az := XA10.out.size
          obtain ⟨w11, hV⟩ : ∃ V, V = (((w10.setCell ⟨w.heap.size, 0, none⟩ (.int .i64 s1)).setCell ⟨w.heap.size, 1, none⟩ (.int .i64 s2)).setCell ⟨w.heap.size, 2, none⟩ (.slice ao3 zs.length c3)) := ⟨_, rfl⟩
          have XR11 := hid ((((XR10.out.set 0 (.int .i64 s1)).set 1 (.int .i64 s2)).set 2 (.slice ao3 zs.length c3)))
          rw [← hV] at XR11
          have XA11 := hid ((((XA10.out.other (a := ⟨w.heap.size, 0, none⟩) (by dsimp only; omega) (.int .i64 s1)).other (a := ⟨w.heap.size, 1, none⟩) (by dsimp only; omega) (.int .i64 s2)).other (a := ⟨w.heap.size, 2, none⟩) (by dsimp only; omega) (.slice ao3 zs.length c3)))
          rw [← hV] at XA11
          have D11 := hid ((((D10.out.setOff (a := ⟨w.heap.size, 0, none⟩) (by dsimp only; omega) (.int .i64 s1)).setOff (a := ⟨w.heap.size, 1, none⟩) (by dsimp only; omega) (.int .i64 s2)).setOff (a := ⟨w.heap.size, 2, none⟩) (by dsimp only; omega) (.slice ao3 zs.length c3)))
          rw [← hV] at D11
          have C11 := hid ((((C10.out.other (a := ⟨w.heap.size, 0, none⟩) (by dsimp only; omega) (.int .i64 s1)).other (a := ⟨w.heap.size, 1, none⟩) (by dsimp only; omega) (.int .i64 s2)).other (a := ⟨w.heap.size, 2, none⟩) (by dsimp only; omega) (.slice ao3 zs.length c3)))
          rw [← hV] at C11
          have hR11 : Grew p w w11 := by rw [hV]; exact (((hR10.set (a := ⟨w.heap.size, 0, none⟩) (by dsimp only; omega) (.int .i64 s1)).set (a := ⟨w.heap.size, 1, none⟩) (by dsimp only; omega) (.int .i64 s2)).set (a := ⟨w.heap.size, 2, none⟩) (by dsimp only; omega) (.slice ao3 zs.length c3))
          have hz11 : w10.heap.size ≤ w11.heap.size := by rw [hV]; simp
          have H11 := hid hV
          clear hV XR10 XA10 D10 C10
          go_wp2
          clear r0 rf0 r1 rf1 r2 rf2 rz a0 af0 a1 af1 a2 af2 az
          rw [← H11.out]
          clear H11
          have r0 := XR11.out.c 0 rfl
          have rf0 := XR11.out.f 0 rfl
          have r1 := XR11.out.c 1 rfl
          have rf1 := XR11.out.f 1 rfl
          have r2 := XR11.out.c 2 rfl
          have rf2 := XR11.out.f 2 rfl
          have rz := XR11.out.size
          have a0 := XA11.out.c 0 rfl
          have af0 := XA11.out.f 0 rfl
          have a1 := XA11.out.c 1 rfl
          have af1 := XA11.out.f 1 rfl
          have a2 := XA11.out.c 2 rfl
          have af2 := XA11.out.f 2 rfl
          have az := XA11.out.size
          refine bodyPost_ret (v := .agg #[.int .i64 s1, .int .i64 s2, .slice ao3 zs.length c3]) (by simp [results, Try.results27, go_sem, r0, r1, r2]) rfl ?_
          exact ⟨⟨s1, s2, ao3, c3, zs, rfl, ⟨by omega, by omega, by omega, by omega, by omega⟩, D11.out.wide (by omega) (by omega)⟩, k8, sd8, by omega, C11.out, hR11⟩
      · have e0 : (y == 0) = false := by simpa using y0
        have f0 : decide (y = 0) = false := by simpa using y0
        have e1 : (y == 1) = false := by simpa using y1
        have f1 : decide (y = 1) = false := by simpa using y1
        have e2 : (y == 2) = false := by simpa using y2
        have f2 : decide (y = 2) = false := by simpa using y2
        have r0 := XR6.out.c 0 rfl
        have rf0 := XR6.out.f 0 rfl
        have r1 := XR6.out.c 1 rfl
        have rf1 := XR6.out.f 1 rfl
        have r2 := XR6.out.c 2 rfl
        have rf2 := XR6.out.f 2 rfl
        have rz := XR6.out.size
        have a0 := XA6.out.c 0 rfl
        have af0 := XA6.out.f 0 rfl
        have a1 := XA6.out.c 1 rfl
        have af1 := XA6.out.f 1 rfl
        have a2 := XA6.out.c 2 rfl
        have af2 := XA6.out.f 2 rfl
        have az := XA6.out.size
        go_upto_region 19 with fail
        clear r0 rf0 r1 rf1 r2 rf2 rz a0 af0 a1 af1 a2 af2 az
        have r0 := XR6.out.c 0 rfl
        have rf0 := XR6.out.f 0 rfl
        have r1 := XR6.out.c 1 rfl
        have rf1 := XR6.out.f 1 rfl
        have r2 := XR6.out.c 2 rfl
        have rf2 := XR6.out.f 2 rfl
        have rz := XR6.out.size
        have a0 := XA6.out.c 0 rfl
        have af0 := XA6.out.f 0 rfl
        have a1 := XA6.out.c 1 rfl
        have af1 := XA6.out.f 1 rfl
        have a2 := XA6.out.c 2 rfl
        have af2 := XA6.out.f 2 rfl
        have az := XA6.out.size
        obtain ⟨w7, hV⟩ : ∃ V, V = (((w6.setCell ⟨w.heap.size, 0, none⟩ (.int .i64 s1)).setCell ⟨w.heap.size, 1, none⟩ (.int .i64 s2)).setCell ⟨w.heap.size, 2, none⟩ (.slice ao q.length c)) := ⟨_, rfl⟩
        have XR7 := hid ((((XR6.out.set 0 (.int .i64 s1)).set 1 (.int .i64 s2)).set 2 (.slice ao q.length c)))
        rw [← hV] at XR7
        have XA7 := hid ((((XA6.out.other (a := ⟨w.heap.size, 0, none⟩) (by dsimp only; omega) (.int .i64 s1)).other (a := ⟨w.heap.size, 1, none⟩) (by dsimp only; omega) (.int .i64 s2)).other (a := ⟨w.heap.size, 2, none⟩) (by dsimp only; omega) (.slice ao q.length c)))
        rw [← hV] at XA7
        have D7 := hid ((((D6.out.setOff (a := ⟨w.heap.size, 0, none⟩) (by dsimp only; omega) (.int .i64 s1)).setOff (a := ⟨w.heap.size, 1, none⟩) (by dsimp only; omega) (.int .i64 s2)).setOff (a := ⟨w.heap.size, 2, none⟩) (by dsimp only; omega) (.slice ao q.length c)))
        rw [← hV] at D7
        have C7 := hid ((((C6.out.other (a := ⟨w.heap.size, 0, none⟩) (by dsimp only; omega) (.int .i64 s1)).other (a := ⟨w.heap.size, 1, none⟩) (by dsimp only; omega) (.int .i64 s2)).other (a := ⟨w.heap.size, 2, none⟩) (by dsimp only; omega) (.slice ao q.length c)))
        rw [← hV] at C7
        have hR7 : Grew p w w7 := by rw [hV]; exact (((hR6.set (a := ⟨w.heap.size, 0, none⟩) (by dsimp only; omega) (.int .i64 s1)).set (a := ⟨w.heap.size, 1, none⟩) (by dsimp only; omega) (.int .i64 s2)).set (a := ⟨w.heap.size, 2, none⟩) (by dsimp only; omega) (.slice ao q.length c))
        have hz7 : w6.heap.size ≤ w7.heap.size := by rw [hV]; simp
        have H7 := hid hV
        clear hV XR6 XA6 D6 C6
        go_wp2
        clear r0 rf0 r1 rf1 r2 rf2 rz a0 af0 a1 af1 a2 af2 az
        rw [← H7.out]
        clear H7
        have r0 := XR7.out.c 0 rfl
        have rf0 := XR7.out.f 0 rfl
        have r1 := XR7.out.c 1 rfl
        have rf1 := XR7.out.f 1 rfl
        have r2 := XR7.out.c 2 rfl
        have rf2 := XR7.out.f 2 rfl
        have rz := XR7.out.size
        have a0 := XA7.out.c 0 rfl
        have af0 := XA7.out.f 0 rfl
        have a1 := XA7.out.c 1 rfl
        have af1 := XA7.out.f 1 rfl
        have a2 := XA7.out.c 2 rfl
        have af2 := XA7.out.f 2 rfl
        have az := XA7.out.size
        refine bodyPost_ret (v := .agg #[.int .i64 s1, .int .i64 s2, .slice ao q.length c]) (by simp [results, Try.results27, go_sem, r0, r1, r2]) rfl ?_
        exact ⟨⟨s1, s2, ao, c, q, rfl, ⟨by omega, by omega, by omega, by omega, by omega⟩, D7.out.wide (by omega) (by omega)⟩, k6, sd6, by omega, C7.out, hR7⟩
end Go.Proofs.Ytdgnolpimmdgjaa
