/- A drawn group. No conditions but those written. Whether a room is good: the specification. No conditions but those written. -/
import Derived.Test.YtdgnolpimmdgjaaPXbAo
import Derived.Deep.Cut
import Derived.Deep.RegionLaw
import Derived.Test.YtdgnolpimmdgjaaPMdGd
namespace Go.Proofs.Ytdgnolpimmdgjaa
section
open Go.RowKit

theorem waitR_grow {cnt : Int} {q : List Int} {iv : Int} : (waitR cnt q iv).2.1.length ≤ q.length + 1 ∧ ((waitR cnt q iv).1 = cnt ∨ (waitR cnt q iv).1 = 0) := by
  unfold waitR; repeat' split
  all_goals simp
theorem stepW {lo hi : Nat} (cnt : Int) (ao : Option Addr) (c : Nat) (q : List Int) (iv : Int) (w : World) (hq : q.length ≤ 1048576) (hD : kI.RW lo hi w ao c q) :
    Calls Try.prog 47 #[.agg #[.int .i64 cnt, .slice ao q.length c], .int .i64 iv] w fun e w' => (∃ (vcnt : Int) (vao : Option Addr) (vc : Nat) (vq : List Int) (cv : Int), e = .returned (.tuple #[.agg #[.int .i64 vcnt, .slice vao vq.length vc], .int .i64 cv]) ∧ (vq.length ≤ q.length + 1 ∧ (vcnt = cnt ∨ vcnt = 0)) ∧ kI.RW w.heap.size w'.heap.size w' vao vc vq) ∧ Below w.heap.size w w' :=
  (specWait_own cnt ao c q iv w hq hD.cap hD.no hD.in).mono fun _ _ ⟨⟨o, c', e, hF⟩, hb⟩ => ⟨⟨_, o, c', _, _, e, waitR_grow, Kind.RW.of hF.2⟩, hb⟩
set_option maxRecDepth 10000 in
set_option maxHeartbeats 8000000 in
theorem groupOf_any (p : Nat) (co : Option Addr) (cap : Nat) (bs : List Int) (k : Nat) (sd : Int) (w : World) (hl : bs.length ≤ 9223372036854775807) (ha : k ≤ 1000000000) (hC : Cur w p co cap bs k sd) :
    Calls Try.prog 18 #[.pointer (some ⟨p, 0, none⟩)] w fun e w' => (∃ (cnt : Int) (ao : Option Addr) (c : Nat) (q : List Int), e = .returned (.agg #[.int .i64 cnt, .slice ao q.length c]) ∧ (-1 ≤ cnt ∧ cnt ≤ 1000001 ∧ q.length ≤ 10) ∧ kI.RW w.heap.size w'.heap.size w' ao c q) ∧ DrawnG w p co cap bs k 40 w' := by
  have hp := hC.1
  have C0 := hid hC
  have hR0 := Grew.refl p w
  clear hC
  obtain ⟨w1, hV⟩ : ∃ V, V = w.alloc (.cells #[.int .i64 0, .slice none 0 0] 25) := ⟨_, rfl⟩
  have C1 := hid (C0.out.later (below1 w (.cells #[.int .i64 0, .slice none 0 0] 25)))
  rw [← hV] at C1
  have hR1 : Grew p w w1 := by rw [hV]; exact hR0.trans (Grew.alloc p _ _)
  have hz1 : w.heap.size ≤ w1.heap.size := by rw [hV]; simp
  have H1 := hid hV
  clear hV C0
  have XR1 : Hid (Bx w1 w.heap.size [.int .i64 0, .slice none 0 0]) := by rw [H1.out]; exact Bx.new [.int .i64 0, .slice none 0 0] _ rfl
  have hy1 : w.heap.size < w1.heap.size := XR1.out.size
  go_enter Try.func18, Try.ntmps18
  have r0 := XR1.out.c 0 rfl
  have rf0 := XR1.out.f 0 rfl
  have r1 := XR1.out.c 1 rfl
  have rf1 := XR1.out.f 1 rfl
  have rz := XR1.out.size
  go_wp2_with fail
  clear r0 rf0 r1 rf1 rz
  rw [← H1.out]
  clear H1
  refine (pick_any 4 p co cap bs k sd w1 hl (by omega) C1.out).mono ?_
  rintro e w2 ⟨⟨x, rfl, h0x, h1x⟩, hD⟩
  obtain ⟨k2, sd2, hk2, hC2, hg2, hsz2⟩ := hD.grew
  have XR2 := hid (XR1.out.grew hg2 (by omega))
  have C2 := hid hC2
  have hR2 : Grew p w w2 := hR1.trans hg2
  have hz2 : w1.heap.size ≤ w2.heap.size := hg2.size
  clear XR1 C1 hD hg2 hC2 hsz2
  have hx4 : x ≤ 3 := by omega
  clear h1x
  have r0 := XR2.out.c 0 rfl
  have rf0 := XR2.out.f 0 rfl
  have r1 := XR2.out.c 1 rfl
  have rf1 := XR2.out.f 1 rfl
  have rz := XR2.out.size
  obtain ⟨w3, hV⟩ : ∃ V, V = w2.alloc (.cells #[.int .i64 x, .slice none 0 0] 25) := ⟨_, rfl⟩
  have XR3 := hid (XR2.out.alloc (.cells #[.int .i64 x, .slice none 0 0] 25))
  rw [← hV] at XR3
  have C3 := hid (C2.out.later (below1 w2 (.cells #[.int .i64 x, .slice none 0 0] 25)))
  rw [← hV] at C3
  have hR3 : Grew p w w3 := by rw [hV]; exact hR2.trans (Grew.alloc p _ _)
  have hz3 : w2.heap.size ≤ w3.heap.size := by rw [hV]; simp
  have H3 := hid hV
  clear hV XR2 C2
  have XA3 : Hid (Bx w3 w2.heap.size [.int .i64 x, .slice none 0 0]) := by rw [H3.out]; exact Bx.new [.int .i64 x, .slice none 0 0] _ rfl
  have hy3 : w2.heap.size < w3.heap.size := XA3.out.size
  go_wp2_with fail
  clear r0 rf0 r1 rf1 rz
  rw [← H3.out]
  clear H3
  refine (pick_any 4 p co cap bs k2 sd2 w3 hl (by omega) C3.out).mono ?_
  rintro e w4 ⟨⟨n, rfl, h0n, h1n⟩, hD⟩
  obtain ⟨k4, sd4, hk4, hC4, hg4, hsz4⟩ := hD.grew
  have XR4 := hid (XR3.out.grew hg4 (by omega))
  have XA4 := hid (XA3.out.grew hg4 (by omega))
  have C4 := hid hC4
  have hR4 : Grew p w w4 := hR3.trans hg4
  have hz4 : w3.heap.size ≤ w4.heap.size := hg4.size
  clear XR3 XA3 C3 hD hg4 hC4 hsz4
  obtain ⟨m, rfl⟩ : ∃ m : Nat, n = m := ⟨n.toNat, by omega⟩
  have hm : m ≤ 3 := by omega
  clear h0n h1n
  have D4 : Hid (kI.RW (w2.heap.size + 1) w4.heap.size w4 none 0 []) := hid Kind.RW.nil
  have r0 := XR4.out.c 0 rfl
  have rf0 := XR4.out.f 0 rfl
  have r1 := XR4.out.c 1 rfl
  have rf1 := XR4.out.f 1 rfl
  have rz := XR4.out.size
  have a0 := XA4.out.c 0 rfl
  have af0 := XA4.out.f 0 rfl
  have a1 := XA4.out.c 1 rfl
  have af1 := XA4.out.f 1 rfl
  have az := XA4.out.size
  go_wp2
  clear r0 rf0 r1 rf1 rz a0 af0 a1 af1 az
  go_loopw [4] (fun i wr => ∃ (m k2 : Nat) (sd2 : Int) (cnt : Int) (ao : Option Addr) (c : Nat) (q : List Int), i = .int .i64 (m : Int) ∧ m ≤ 3 ∧ q.length + m ≤ 3 ∧ (0 ≤ cnt ∧ cnt ≤ 3) ∧ k2 + 4 * m ≤ k + 24 ∧ Hid (Bx wr w.heap.size [.int .i64 0, .slice none 0 0]) ∧ Hid (Bx wr w2.heap.size [.int .i64 cnt, .slice ao q.length c]) ∧ Hid (kI.RW (w2.heap.size + 1) wr.heap.size wr ao c q) ∧ Hid (Cur wr p co cap bs k2 sd2) ∧ Grew p w wr ∧ w2.heap.size + 1 ≤ wr.heap.size) (fun i _ => (intOf i).toNat)
  case atStart => exact ⟨m, k4, sd4, x, none, 0, [], rfl, hm, by simp <;> omega, ⟨h0x, hx4⟩, by omega, XR4, XA4, D4, C4, hR4, by have := XA4.out.size; omega⟩
  case round =>
    clear XR4 XA4 D4 C4 hR4
    obtain ⟨m, k0, sd0, cnt, ao, c, q, rfl, hm, hq, hcn, hk0, XR5, XA5, D5, C5, hR5, hs0⟩ := hrel
    cases m with
    | succ m =>
      have hm0 : decide (0 < ((m + 1 : Nat) : Int)) = true := by simp <;> omega
      have hm1 : (0 : Int) < ((m + 1 : Nat) : Int) := by omega
      have r0 := XR5.out.c 0 rfl
      have rf0 := XR5.out.f 0 rfl
      have r1 := XR5.out.c 1 rfl
      have rf1 := XR5.out.f 1 rfl
      have rz := XR5.out.size
      have a0 := XA5.out.c 0 rfl
      have af0 := XA5.out.f 0 rfl
      have a1 := XA5.out.c 1 rfl
      have af1 := XA5.out.f 1 rfl
      have az := XA5.out.size
      go_wp2
      have PD0 : wr.drew.cell? ⟨w2.heap.size, 0, none⟩ = some (.int .i64 cnt) := a0
      have PD1 : wr.drew.cell? ⟨w2.heap.size, 1, none⟩ = some (.slice ao q.length c) := a1
      go_region_law (first
          | (go_simp; go_at_call 47; have _g := hz6; refine (stepW cnt ao c q z w6 (by omega) D6.out).mono ?_; rintro e w7 ⟨⟨vcnt, vao, vc, vq, cv, rfl, hS1, hW1⟩, hy⟩; have hb : Below w6.heap.size w6 w7 := hy; have XR7 := hid (XR6.out.grew (Grew.of_below (p := p) hb) (by omega)); have XA7 := hid (XA6.out.grew (Grew.of_below (p := p) hb) (by omega)); have D7 := hid (D6.out.grew (Grew.of_below (p := p) hb) (by omega)); have C7 := hid (C6.out.later hb); have hR7 : Grew p w w7 := hR6.trans (Grew.of_below (p := p) hb); have hz7 : w6.heap.size ≤ w7.heap.size := hb.size; have E7 := hid (hW1); have HS7 := hid (hS1); have P7a := XA7.out.c 0 rfl; have P7b := XA7.out.c 1 rfl; have rg0 := XR7.out.c 0 rfl; have rh0 := XR7.out.f 0 rfl; have rg1 := XR7.out.c 1 rfl; have rh1 := XR7.out.f 1 rfl; have ag0 := XA7.out.c 0 rfl; have ah0 := XA7.out.f 0 rfl; have ag1 := XA7.out.c 1 rfl; have ah1 := XA7.out.f 1 rfl; clear hy hb hW1 hS1)
          | (go_simp; go_at_call 20; refine (pick_any 6 p co cap bs k0 sd0 wr.drew hl (by omega) C5.out.drew).mono ?_; rintro e w6 ⟨⟨z, rfl, h0z, h1z⟩, hD⟩; obtain ⟨k6, sd6, hk6, hC, hg0, hsz⟩ := hD.grew; have hg : Grew p wr w6 := hg0.from; have XR6 := hid (XR5.out.grew hg (by omega)); have XA6 := hid (XA5.out.grew hg (by omega)); have D6 := hid (D5.out.grew hg (by omega)); have C6 := hid hC; have hR6 : Grew p w w6 := hR5.trans hg; have hz6 : wr.heap.size ≤ w6.heap.size := hg.size; have P6a := XA6.out.c 0 rfl; have P6b := XA6.out.c 1 rfl; clear hD hC hg0 hg hsz))
      all_goals
        have HS1 := HS7.out
        clear HS7
        obtain ⟨w8, hV⟩ : ∃ V, V = ((w7.setCell ⟨w2.heap.size, 0, none⟩ (.int .i64 vcnt)).setCell ⟨w2.heap.size, 1, none⟩ (.slice vao vq.length vc)) := ⟨_, rfl⟩
        have XR8 := hid (((XR7.out.other (a := ⟨w2.heap.size, 0, none⟩) (by dsimp only; omega) (.int .i64 vcnt)).other (a := ⟨w2.heap.size, 1, none⟩) (by dsimp only; omega) (.slice vao vq.length vc)))
        rw [← hV] at XR8
        have XA8 := hid (((XA7.out.set 0 (.int .i64 vcnt)).set 1 (.slice vao vq.length vc)))
        rw [← hV] at XA8
        have D8 := hid (((D7.out.setOff (a := ⟨w2.heap.size, 0, none⟩) (by dsimp only; omega) (.int .i64 vcnt)).setOff (a := ⟨w2.heap.size, 1, none⟩) (by dsimp only; omega) (.slice vao vq.length vc)))
        rw [← hV] at D8
        have E8 := hid (((E7.out.setOff (a := ⟨w2.heap.size, 0, none⟩) (by dsimp only; omega) (.int .i64 vcnt)).setOff (a := ⟨w2.heap.size, 1, none⟩) (by dsimp only; omega) (.slice vao vq.length vc)))
        rw [← hV] at E8
        have C8 := hid (((C7.out.other (a := ⟨w2.heap.size, 0, none⟩) (by dsimp only; omega) (.int .i64 vcnt)).other (a := ⟨w2.heap.size, 1, none⟩) (by dsimp only; omega) (.slice vao vq.length vc)))
        rw [← hV] at C8
        have hR8 : Grew p w w8 := by rw [hV]; exact ((hR7.set (a := ⟨w2.heap.size, 0, none⟩) (by dsimp only; omega) (.int .i64 vcnt)).set (a := ⟨w2.heap.size, 1, none⟩) (by dsimp only; omega) (.slice vao vq.length vc))
        have hz8 : w7.heap.size ≤ w8.heap.size := by rw [hV]; simp
        have H8 := hid hV
        clear hV XR7 XA7 D7 E7 C7
        go_wp2
        clear rg0 rh0 rg1 rh1 ag0 ah0 ag1 ah1
        rw [← H8.out]
        clear H8
        go_roundw
        case rel => exact ⟨m, k6, sd6, vcnt, vao, vc, vq, by go_num, by omega, by omega, by omega, by omega, XR8, XA8, hid (E8.out.wide (by omega) (by omega)), C8, hR8, by omega⟩
        case measure => simp [intOf] <;> omega
    | zero =>
      have r0 := XR5.out.c 0 rfl
      have rf0 := XR5.out.f 0 rfl
      have r1 := XR5.out.c 1 rfl
      have rf1 := XR5.out.f 1 rfl
      have rz := XR5.out.size
      have a0 := XA5.out.c 0 rfl
      have af0 := XA5.out.f 0 rfl
      have a1 := XA5.out.c 1 rfl
      have af1 := XA5.out.f 1 rfl
      have az := XA5.out.size
      go_wp2_with fail
      clear r0 rf0 r1 rf1 rz a0 af0 a1 af1 az
      refine (pick_any 30 p co cap bs k0 sd0 wr hl (by omega) C5.out).mono ?_
      rintro e w6 ⟨⟨y, rfl, h0y, h1y⟩, hD⟩
      obtain ⟨k6, sd6, hk6, hC6, hg6, hsz6⟩ := hD.grew
      have XR6 := hid (XR5.out.grew hg6 (by omega))
      have XA6 := hid (XA5.out.grew hg6 (by omega))
      have D6 := hid (D5.out.grew hg6 (by omega))
      have C6 := hid hC6
      have hR6 : Grew p w w6 := hR5.trans hg6
      have hz6 : wr.heap.size ≤ w6.heap.size := hg6.size
      clear XR5 XA5 D5 C5 hD hg6 hC6 hsz6
      have hy3 : y = 0 ∨ y = 1 ∨ (y ≠ 0 ∧ y ≠ 1) := by omega
      clear h0y h1y
      rcases hy3 with rfl | rfl | ⟨y0, y1⟩
      · have r0 := XR6.out.c 0 rfl
        have rf0 := XR6.out.f 0 rfl
        have r1 := XR6.out.c 1 rfl
        have rf1 := XR6.out.f 1 rfl
        have rz := XR6.out.size
        have a0 := XA6.out.c 0 rfl
        have af0 := XA6.out.f 0 rfl
        have a1 := XA6.out.c 1 rfl
        have af1 := XA6.out.f 1 rfl
        have az := XA6.out.size
        go_wp2
        have PD : w6.drew.cell? ⟨w2.heap.size, 1, none⟩ = some (.slice ao q.length c) := a1
        have PB : (w6.alloc (.cells #[.int .i64 (-1), .int .i64 2, .int .i64 30] 3)).drew.cell? ⟨w2.heap.size, 1, none⟩ = some (.slice ao q.length c) := (XA6.out.alloc (.cells #[.int .i64 (-1), .int .i64 2, .int .i64 30] 3)).c 1 rfl
        have XU : Hid (Bx (w6.alloc (.cells #[.int .i64 (-1), .int .i64 2, .int .i64 30] 3)).drew w6.heap.size [.int .i64 (-1), .int .i64 2, .int .i64 30]) := hid (Bx.drew (Bx.new (w := w6) [.int .i64 (-1), .int .i64 2, .int .i64 30] _ rfl))
        go_region_law (first
            | (refine Kind.appS kI_ok (w7.alloc (.cells #[.int .i64 z] 3)) (by rfl) (.tmp 26) (.tmp 30) (by rfl) (w2.heap.size + 1) (.slice ao q.length c) q (by rfl) Dl.out.1 (by simp <;> omega) (some ⟨w7.heap.size, 0, none⟩) [z] 1 1 (by rfl) rfl (by simp) _ HN.out (by simp <;> omega) ?_; intro v' w8 hO hB hG hn; rw [← HZ.out] at hO; obtain ⟨ao3, c3, rfl, hO3⟩ := hO.as; have hz8 : w7.heap.size + 1 ≤ w8.heap.size := (by have := hB.size; simpa using this); have XR8 := hid (XRl.out.below hB (by omega)); have XA8 := hid (XAl.out.below hB (by omega)); have D8 := hid (Kind.RW.of hO3); have C8 := hid (Cl.out.below hB (by omega)); have hR8 := hRl.of_below2 hB (by omega); have P3 : w8.cell? ⟨w2.heap.size, 1, none⟩ = some (.slice ao q.length c) := XA8.out.c 1 rfl; have rg0 := XR8.out.c 0 rfl; have rh0 := XR8.out.f 0 rfl; have rg1 := XR8.out.c 1 rfl; have rh1 := XR8.out.f 1 rfl; have ag0 := XA8.out.c 0 rfl; have ah0 := XA8.out.f 0 rfl; have ag1 := XA8.out.c 1 rfl; have ah1 := XA8.out.f 1 rfl; clear hO hB hG hn hO3)
            | (go_simp; go_at_call 21; refine (among_in [-1, 2, 30] w6.heap.size p co cap bs k6 sd6 (w6.alloc (.cells #[.int .i64 (-1), .int .i64 2, .int .i64 30] 3)).drew hl (by omega) (C6.out.later (below1 w6 (.cells #[.int .i64 (-1), .int .i64 2, .int .i64 30] 3))).drew (by simp) (by simp) XU.out (by omega)).mono ?_; rintro e w7 ⟨⟨z, _, rfl⟩, hD⟩; obtain ⟨k7, sd7, hk7, hC, hg0, hsz⟩ := hD.grew; have hg : Grew p (w6.alloc (.cells #[.int .i64 (-1), .int .i64 2, .int .i64 30] 3)) w7 := hg0.from; have XR7 := hid ((XR6.out.alloc (.cells #[.int .i64 (-1), .int .i64 2, .int .i64 30] 3)).grew hg (by omega)); have XA7 := hid ((XA6.out.alloc (.cells #[.int .i64 (-1), .int .i64 2, .int .i64 30] 3)).grew hg (by omega)); have D7 := hid ((D6.out.later (below1 w6 (.cells #[.int .i64 (-1), .int .i64 2, .int .i64 30] 3))).grew hg (by omega)); have C7 := hid hC; have hR7 : Grew p w w7 := (hR6.trans (Grew.alloc p w6 (.cells #[.int .i64 (-1), .int .i64 2, .int .i64 30] 3))).trans hg; have hz7 : w6.heap.size + 1 ≤ w7.heap.size := (by have := hg.size; simpa using this); have XRl := hid (XR7.out.alloc (.cells #[.int .i64 z] 3)); have XAl := hid (XA7.out.alloc (.cells #[.int .i64 z] 3)); have Dl := hid (D7.out.later (below1 w7 (.cells #[.int .i64 z] 3))); have Cl := hid (C7.out.later (below1 w7 (.cells #[.int .i64 z] 3))); have hRl : Grew p w (w7.alloc (.cells #[.int .i64 z] 3)) := hR7.trans (Grew.alloc p _ _); have HN : Hid (kI.In (w7.heap.size + 1) (w7.alloc (.cells #[.int .i64 z] 3)) (some ⟨w7.heap.size, 0, none⟩) [z]) := int_one (by omega) (by simp); have P2 : w7.cell? ⟨w2.heap.size, 1, none⟩ = some (.slice ao q.length c) := XA7.out.c 1 rfl; have PL : (w7.alloc (.cells #[.int .i64 z] 3)).cell? ⟨w2.heap.size, 1, none⟩ = some (.slice ao q.length c) := XAl.out.c 1 rfl; obtain ⟨zs, hzs⟩ : ∃ zs, zs = q ++ [z] := ⟨_, rfl⟩; have hzl : zs.length ≤ 10 := (by rw [hzs]; simp <;> omega); have HZ := hid hzs; clear hD hC hg0 hg hsz hzs))
        all_goals
          obtain ⟨w9, hV⟩ : ∃ V, V = (w8.setCell ⟨w2.heap.size, 1, none⟩ (.slice ao3 zs.length c3)) := ⟨_, rfl⟩
          have XR9 := hid ((XR8.out.other (a := ⟨w2.heap.size, 1, none⟩) (by dsimp only; omega) (.slice ao3 zs.length c3)))
          rw [← hV] at XR9
          have XA9 := hid ((XA8.out.set 1 (.slice ao3 zs.length c3)))
          rw [← hV] at XA9
          have D9 := hid ((D8.out.setOff (a := ⟨w2.heap.size, 1, none⟩) (by dsimp only; omega) (.slice ao3 zs.length c3)))
          rw [← hV] at D9
          have C9 := hid ((C8.out.other (a := ⟨w2.heap.size, 1, none⟩) (by dsimp only; omega) (.slice ao3 zs.length c3)))
          rw [← hV] at C9
          have hR9 : Grew p w w9 := by rw [hV]; exact (hR8.set (a := ⟨w2.heap.size, 1, none⟩) (by dsimp only; omega) (.slice ao3 zs.length c3))
          have hz9 : w8.heap.size ≤ w9.heap.size := by rw [hV]; simp
          have H9 := hid hV
          clear hV XR8 XA8 D8 C8
          go_upto_region 11 with fail
          clear rg0 rh0 rg1 rh1 ag0 ah0 ag1 ah1
          rw [← H9.out]
          clear H9
          have r0 := XR9.out.c 0 rfl
          have rf0 := XR9.out.f 0 rfl
          have r1 := XR9.out.c 1 rfl
          have rf1 := XR9.out.f 1 rfl
          have rz := XR9.out.size
          have a0 := XA9.out.c 0 rfl
          have af0 := XA9.out.f 0 rfl
          have a1 := XA9.out.c 1 rfl
          have af1 := XA9.out.f 1 rfl
          have az := XA9.out.size
          obtain ⟨w10, hV⟩ : ∃ V, V = ((w9.setCell ⟨w.heap.size, 0, none⟩ (.int .i64 cnt)).setCell ⟨w.heap.size, 1, none⟩ (.slice ao3 zs.length c3)) := ⟨_, rfl⟩
          have XR10 := hid (((XR9.out.set 0 (.int .i64 cnt)).set 1 (.slice ao3 zs.length c3)))
          rw [← hV] at XR10
          have XA10 := hid (((XA9.out.other (a := ⟨w.heap.size, 0, none⟩) (by dsimp only; omega) (.int .i64 cnt)).other (a := ⟨w.heap.size, 1, none⟩) (by dsimp only; omega) (.slice ao3 zs.length c3)))
          rw [← hV] at XA10
          have D10 := hid (((D9.out.setOff (a := ⟨w.heap.size, 0, none⟩) (by dsimp only; omega) (.int .i64 cnt)).setOff (a := ⟨w.heap.size, 1, none⟩) (by dsimp only; omega) (.slice ao3 zs.length c3)))
          rw [← hV] at D10
          have C10 := hid (((C9.out.other (a := ⟨w.heap.size, 0, none⟩) (by dsimp only; omega) (.int .i64 cnt)).other (a := ⟨w.heap.size, 1, none⟩) (by dsimp only; omega) (.slice ao3 zs.length c3)))
          rw [← hV] at C10
          have hR10 : Grew p w w10 := by rw [hV]; exact ((hR9.set (a := ⟨w.heap.size, 0, none⟩) (by dsimp only; omega) (.int .i64 cnt)).set (a := ⟨w.heap.size, 1, none⟩) (by dsimp only; omega) (.slice ao3 zs.length c3))
          have hz10 : w9.heap.size ≤ w10.heap.size := by rw [hV]; simp
          have H10 := hid hV
          clear hV XR9 XA9 D9 C9
          go_wp2
          clear r0 rf0 r1 rf1 rz a0 af0 a1 af1 az
          rw [← H10.out]
          clear H10
          have r0 := XR10.out.c 0 rfl
          have rf0 := XR10.out.f 0 rfl
          have r1 := XR10.out.c 1 rfl
          have rf1 := XR10.out.f 1 rfl
          have rz := XR10.out.size
          have a0 := XA10.out.c 0 rfl
          have af0 := XA10.out.f 0 rfl
          have a1 := XA10.out.c 1 rfl
          have af1 := XA10.out.f 1 rfl
          have az := XA10.out.size
          refine bodyPost_ret (v := .agg #[.int .i64 cnt, .slice ao3 zs.length c3]) (by simp [results, Try.results18, go_sem, r0, r1]) rfl ?_
          exact ⟨⟨cnt, ao3, c3, zs, rfl, ⟨by omega, by omega, by omega⟩, D10.out.wide (by omega) (by omega)⟩, k7, sd7, by omega, C10.out, hR10⟩
      · have r0 := XR6.out.c 0 rfl
        have rf0 := XR6.out.f 0 rfl
        have r1 := XR6.out.c 1 rfl
        have rf1 := XR6.out.f 1 rfl
        have rz := XR6.out.size
        have a0 := XA6.out.c 0 rfl
        have af0 := XA6.out.f 0 rfl
        have a1 := XA6.out.c 1 rfl
        have af1 := XA6.out.f 1 rfl
        have az := XA6.out.size
        obtain ⟨w7, hV⟩ : ∃ V, V = w6.alloc (.cells #[.int .i64 (-1), .int .i64 0, .int .i64 1000000, .int .i64 1000001] 3) := ⟨_, rfl⟩
        have XR7 := hid (XR6.out.alloc (.cells #[.int .i64 (-1), .int .i64 0, .int .i64 1000000, .int .i64 1000001] 3))
        rw [← hV] at XR7
        have XA7 := hid (XA6.out.alloc (.cells #[.int .i64 (-1), .int .i64 0, .int .i64 1000000, .int .i64 1000001] 3))
        rw [← hV] at XA7
        have D7 := hid (D6.out.later (below1 w6 (.cells #[.int .i64 (-1), .int .i64 0, .int .i64 1000000, .int .i64 1000001] 3)))
        rw [← hV] at D7
        have C7 := hid (C6.out.later (below1 w6 (.cells #[.int .i64 (-1), .int .i64 0, .int .i64 1000000, .int .i64 1000001] 3)))
        rw [← hV] at C7
        have hR7 : Grew p w w7 := by rw [hV]; exact hR6.trans (Grew.alloc p _ _)
        have hz7 : w6.heap.size ≤ w7.heap.size := by rw [hV]; simp
        have H7 := hid hV
        clear hV XR6 XA6 D6 C6
        have XU7 : Hid (Bx w7 w6.heap.size [.int .i64 (-1), .int .i64 0, .int .i64 1000000, .int .i64 1000001]) := by rw [H7.out]; exact Bx.new [.int .i64 (-1), .int .i64 0, .int .i64 1000000, .int .i64 1000001] _ rfl
        have hy7 : w6.heap.size < w7.heap.size := XU7.out.size
        go_wp2_with fail
        clear r0 rf0 r1 rf1 rz a0 af0 a1 af1 az
        rw [← H7.out]
        clear H7
        refine (among_in [-1, 0, 1000000, 1000001] w6.heap.size p co cap bs k6 sd6 w7 hl (by omega) C7.out (by simp) (by simp) XU7.out (by omega)).mono ?_
        rintro e w8 ⟨⟨z, hmz, rfl⟩, hD⟩
        obtain ⟨k8, sd8, hk8, hC8, hg8, hsz8⟩ := hD.grew
        have XR8 := hid (XR7.out.grew hg8 (by omega))
        have XA8 := hid (XA7.out.grew hg8 (by omega))
        have XU8 := hid (XU7.out.grew hg8 (by omega))
        have D8 := hid (D7.out.grew hg8 (by omega))
        have C8 := hid hC8
        have hR8 : Grew p w w8 := hR7.trans hg8
        have hz8 : w7.heap.size ≤ w8.heap.size := hg8.size
        clear XR7 XA7 XU7 D7 C7 hD hg8 hC8 hsz8
        have hzb : -1 ≤ z ∧ z ≤ 1000001 := by simp at hmz; omega
        clear hmz
        have r0 := XR8.out.c 0 rfl
        have rf0 := XR8.out.f 0 rfl
        have r1 := XR8.out.c 1 rfl
        have rf1 := XR8.out.f 1 rfl
        have rz := XR8.out.size
        have a0 := XA8.out.c 0 rfl
        have af0 := XA8.out.f 0 rfl
        have a1 := XA8.out.c 1 rfl
        have af1 := XA8.out.f 1 rfl
        have az := XA8.out.size
        have u0 := XU8.out.c 0 rfl
        have uf0 := XU8.out.f 0 rfl
        have u1 := XU8.out.c 1 rfl
        have uf1 := XU8.out.f 1 rfl
        have u2 := XU8.out.c 2 rfl
        have uf2 := XU8.out.f 2 rfl
        have u3 := XU8.out.c 3 rfl
        have uf3 := XU8.out.f 3 rfl
        have uz := XU8.out.size
        obtain ⟨w9, hV⟩ : ∃ V, V = (w8.setCell ⟨w2.heap.size, 0, none⟩ (.int .i64 z)) := ⟨_, rfl⟩
        have XR9 := hid ((XR8.out.other (a := ⟨w2.heap.size, 0, none⟩) (by dsimp only; omega) (.int .i64 z)))
        rw [← hV] at XR9
        have XA9 := hid ((XA8.out.set 0 (.int .i64 z)))
        rw [← hV] at XA9
        have XU9 := hid ((XU8.out.other (a := ⟨w2.heap.size, 0, none⟩) (by dsimp only; omega) (.int .i64 z)))
        rw [← hV] at XU9
        have D9 := hid ((D8.out.setOff (a := ⟨w2.heap.size, 0, none⟩) (by dsimp only; omega) (.int .i64 z)))
        rw [← hV] at D9
        have C9 := hid ((C8.out.other (a := ⟨w2.heap.size, 0, none⟩) (by dsimp only; omega) (.int .i64 z)))
        rw [← hV] at C9
        have hR9 : Grew p w w9 := by rw [hV]; exact (hR8.set (a := ⟨w2.heap.size, 0, none⟩) (by dsimp only; omega) (.int .i64 z))
        have hz9 : w8.heap.size ≤ w9.heap.size := by rw [hV]; simp
        have H9 := hid hV
        clear hV XR8 XA8 XU8 D8 C8
        go_upto_region 11 with fail
        clear r0 rf0 r1 rf1 rz a0 af0 a1 af1 az u0 uf0 u1 uf1 u2 uf2 u3 uf3 uz
        rw [← H9.out]
        clear H9
        have r0 := XR9.out.c 0 rfl
        have rf0 := XR9.out.f 0 rfl
        have r1 := XR9.out.c 1 rfl
        have rf1 := XR9.out.f 1 rfl
        have rz := XR9.out.size
        have a0 := XA9.out.c 0 rfl
        have af0 := XA9.out.f 0 rfl
        have a1 := XA9.out.c 1 rfl
        have af1 := XA9.out.f 1 rfl
        have az := XA9.out.size
        have u0 := XU9.out.c 0 rfl
        have uf0 := XU9.out.f 0 rfl
        have u1 := XU9.out.c 1 rfl
        have uf1 := XU9.out.f 1 rfl
        have u2 := XU9.out.c 2 rfl
        have uf2 := XU9.out.f 2 rfl
        have u3 := XU9.out.c 3 rfl
        have uf3 := XU9.out.f 3 rfl
        have uz := XU9.out.size
        obtain ⟨w10, hV⟩ : ∃ V, V = ((w9.setCell ⟨w.heap.size, 0, none⟩ (.int .i64 z)).setCell ⟨w.heap.size, 1, none⟩ (.slice ao q.length c)) := ⟨_, rfl⟩
        have XR10 := hid (((XR9.out.set 0 (.int .i64 z)).set 1 (.slice ao q.length c)))
        rw [← hV] at XR10
        have XA10 := hid (((XA9.out.other (a := ⟨w.heap.size, 0, none⟩) (by dsimp only; omega) (.int .i64 z)).other (a := ⟨w.heap.size, 1, none⟩) (by dsimp only; omega) (.slice ao q.length c)))
        rw [← hV] at XA10
        have XU10 := hid (((XU9.out.other (a := ⟨w.heap.size, 0, none⟩) (by dsimp only; omega) (.int .i64 z)).other (a := ⟨w.heap.size, 1, none⟩) (by dsimp only; omega) (.slice ao q.length c)))
        rw [← hV] at XU10
        have D10 := hid (((D9.out.setOff (a := ⟨w.heap.size, 0, none⟩) (by dsimp only; omega) (.int .i64 z)).setOff (a := ⟨w.heap.size, 1, none⟩) (by dsimp only; omega) (.slice ao q.length c)))
        rw [← hV] at D10
        have C10 := hid (((C9.out.other (a := ⟨w.heap.size, 0, none⟩) (by dsimp only; omega) (.int .i64 z)).other (a := ⟨w.heap.size, 1, none⟩) (by dsimp only; omega) (.slice ao q.length c)))
        rw [← hV] at C10
        have hR10 : Grew p w w10 := by rw [hV]; exact ((hR9.set (a := ⟨w.heap.size, 0, none⟩) (by dsimp only; omega) (.int .i64 z)).set (a := ⟨w.heap.size, 1, none⟩) (by dsimp only; omega) (.slice ao q.length c))
        have hz10 : w9.heap.size ≤ w10.heap.size := by rw [hV]; simp
        have H10 := hid hV
        clear hV XR9 XA9 XU9 D9 C9
        go_wp2
        clear r0 rf0 r1 rf1 rz a0 af0 a1 af1 az u0 uf0 u1 uf1 u2 uf2 u3 uf3 uz
        rw [← H10.out]
        clear H10
        have r0 := XR10.out.c 0 rfl
        have rf0 := XR10.out.f 0 rfl
        have r1 := XR10.out.c 1 rfl
        have rf1 := XR10.out.f 1 rfl
        have rz := XR10.out.size
        have a0 := XA10.out.c 0 rfl
        have af0 := XA10.out.f 0 rfl
        have a1 := XA10.out.c 1 rfl
        have af1 := XA10.out.f 1 rfl
        have az := XA10.out.size
        have u0 := XU10.out.c 0 rfl
        have uf0 := XU10.out.f 0 rfl
        have u1 := XU10.out.c 1 rfl
        have uf1 := XU10.out.f 1 rfl
        have u2 := XU10.out.c 2 rfl
        have uf2 := XU10.out.f 2 rfl
        have u3 := XU10.out.c 3 rfl
        have uf3 := XU10.out.f 3 rfl
        have uz := XU10.out.size
        refine bodyPost_ret (v := .agg #[.int .i64 z, .slice ao q.length c]) (by simp [results, Try.results18, go_sem, r0, r1]) rfl ?_
        exact ⟨⟨z, ao, c, q, rfl, ⟨by omega, by omega, by omega⟩, D10.out.wide (by omega) (by omega)⟩, k8, sd8, by omega, C10.out, hR10⟩
      · have e0 : (y == 0) = false := by simpa using y0
        have f0 : decide (y = 0) = false := by simpa using y0
        have e1 : (y == 1) = false := by simpa using y1
        have f1 : decide (y = 1) = false := by simpa using y1
        have r0 := XR6.out.c 0 rfl
        have rf0 := XR6.out.f 0 rfl
        have r1 := XR6.out.c 1 rfl
        have rf1 := XR6.out.f 1 rfl
        have rz := XR6.out.size
        have a0 := XA6.out.c 0 rfl
        have af0 := XA6.out.f 0 rfl
        have a1 := XA6.out.c 1 rfl
        have af1 := XA6.out.f 1 rfl
        have az := XA6.out.size
        go_upto_region 11 with fail
        clear r0 rf0 r1 rf1 rz a0 af0 a1 af1 az
        have r0 := XR6.out.c 0 rfl
        have rf0 := XR6.out.f 0 rfl
        have r1 := XR6.out.c 1 rfl
        have rf1 := XR6.out.f 1 rfl
        have rz := XR6.out.size
        have a0 := XA6.out.c 0 rfl
        have af0 := XA6.out.f 0 rfl
        have a1 := XA6.out.c 1 rfl
        have af1 := XA6.out.f 1 rfl
        have az := XA6.out.size
        obtain ⟨w7, hV⟩ : ∃ V, V = ((w6.setCell ⟨w.heap.size, 0, none⟩ (.int .i64 cnt)).setCell ⟨w.heap.size, 1, none⟩ (.slice ao q.length c)) := ⟨_, rfl⟩
        have XR7 := hid (((XR6.out.set 0 (.int .i64 cnt)).set 1 (.slice ao q.length c)))
        rw [← hV] at XR7
        have XA7 := hid (((XA6.out.other (a := ⟨w.heap.size, 0, none⟩) (by dsimp only; omega) (.int .i64 cnt)).other (a := ⟨w.heap.size, 1, none⟩) (by dsimp only; omega) (.slice ao q.length c)))
        rw [← hV] at XA7
        have D7 := hid (((D6.out.setOff (a := ⟨w.heap.size, 0, none⟩) (by dsimp only; omega) (.int .i64 cnt)).setOff (a := ⟨w.heap.size, 1, none⟩) (by dsimp only; omega) (.slice ao q.length c)))
        rw [← hV] at D7
        have C7 := hid (((C6.out.other (a := ⟨w.heap.size, 0, none⟩) (by dsimp only; omega) (.int .i64 cnt)).other (a := ⟨w.heap.size, 1, none⟩) (by dsimp only; omega) (.slice ao q.length c)))
        rw [← hV] at C7
        have hR7 : Grew p w w7 := by rw [hV]; exact ((hR6.set (a := ⟨w.heap.size, 0, none⟩) (by dsimp only; omega) (.int .i64 cnt)).set (a := ⟨w.heap.size, 1, none⟩) (by dsimp only; omega) (.slice ao q.length c))
        have hz7 : w6.heap.size ≤ w7.heap.size := by rw [hV]; simp
        have H7 := hid hV
        clear hV XR6 XA6 D6 C6
        go_wp2
        clear r0 rf0 r1 rf1 rz a0 af0 a1 af1 az
        rw [← H7.out]
        clear H7
        have r0 := XR7.out.c 0 rfl
        have rf0 := XR7.out.f 0 rfl
        have r1 := XR7.out.c 1 rfl
        have rf1 := XR7.out.f 1 rfl
        have rz := XR7.out.size
        have a0 := XA7.out.c 0 rfl
        have af0 := XA7.out.f 0 rfl
        have a1 := XA7.out.c 1 rfl
        have af1 := XA7.out.f 1 rfl
        have az := XA7.out.size
        refine bodyPost_ret (v := .agg #[.int .i64 cnt, .slice ao q.length c]) (by simp [results, Try.results18, go_sem, r0, r1]) rfl ?_
        exact ⟨⟨cnt, ao, c, q, rfl, ⟨by omega, by omega, by omega⟩, D7.out.wide (by omega) (by omega)⟩, k6, sd6, by omega, C7.out, hR7⟩
end
section
open Go.RowKit

set_option maxRecDepth 10000 in
set_option maxHeartbeats 4000000 in
theorem specGoodRoom_is (s1 s2 : Int) (ao : Option Addr) (cap : Nat) (l : List (Int × Int)) (w : World) (x : Bool) (hl : l.length ≤ 1048576) (hz : kN.In w.heap.size w ao l) (hx : roomB s1 s2 l = x) :
    Calls Try.prog 30 #[.agg #[.int .i64 s1, .int .i64 s2, .slice ao l.length cap]] w fun e w' => e = .returned (.bool x) ∧ Below w.heap.size w w' := by
  have hB0 := below1 w (.cells #[.int .i64 s1, .int .i64 s2, .slice ao l.length cap] 34)
  have A0 := hid (Bx.new (w := w) (p := w.heap.size) [.int .i64 s1, .int .i64 s2, .slice ao l.length cap] 34 rfl)
  cases h1 : (decide (1 ≤ s1) && decide (s1 ≤ 1000))
  · have H1 : Hid ((decide (1 ≤ s1) && decide (s1 ≤ 1000)) = false) := h1
    have HV : Hid (x = false) := by rw [Hid, ← hx]; exact roomB_sizes (by rw [sizesB, h1]; rfl)
    clear hx h1
    go_enter Try.func30, Try.ntmps30
    go_wp2_with fail
    refine (l1In_is s1 1 1000 _ false H1.out).mono ?_
    rintro e w1 ⟨rfl, rfl⟩
    go_wp2
    go_ret
    exact ⟨ret_bool HV.out.symm, hB0⟩
  have H1 : Hid ((decide (1 ≤ s1) && decide (s1 ≤ 1000)) = true) := h1
  cases h2 : (decide (0 ≤ s2) && decide (s2 ≤ s1))
  · have H2 : Hid ((decide (0 ≤ s2) && decide (s2 ≤ s1)) = false) := h2
    have HV : Hid (x = false) := by rw [Hid, ← hx]; exact roomB_sizes (by rw [sizesB, h2]; simp)
    clear hx h1 h2
    go_enter Try.func30, Try.ntmps30
    go_wp2_with fail
    refine (l1In_is s1 1 1000 _ true H1.out).mono ?_
    rintro e w1 ⟨rfl, rfl⟩
    go_wp2_with fail
    refine (l1In_is s2 0 s1 _ false H2.out).mono ?_
    rintro e w1 ⟨rfl, rfl⟩
    go_wp2
    go_ret
    exact ⟨ret_bool HV.out.symm, hB0⟩
  have H2 : Hid ((decide (0 ≤ s2) && decide (s2 ≤ s1)) = true) := h2
  have HZ : Hid (sizesB s1 s2 = true) := by rw [Hid, sizesB, h1, h2]; rfl
  obtain ⟨q1, q2, q3, q4⟩ := sizesB_ok HZ.out
  have HX : Hid (roomB s1 s2 l = x) := hx
  clear hx h1 h2
  go_enter Try.func30, Try.ntmps30
  go_wp2_with fail
  refine (l1In_is s1 1 1000 _ true H1.out).mono ?_
  rintro e w1 ⟨rfl, hw1⟩
  subst hw1
  go_wp2_with fail
  refine (l1In_is s2 0 s1 _ true H2.out).mono ?_
  rintro e w1 ⟨rfl, hw1⟩
  subst hw1
  go_wp2
  go_loopw [3, 21] (fun u i wr => ∃ (k : Nat) (v : Value), v = u ∧ k ≤ l.length ∧ i = .int .i64 k ∧ Hid (kI.Own (w.heap.size + 1) wr v (tasksOf (l.take k))) ∧ Hid (∀ j, j < k → manyB s1 (el l j) = true) ∧ Hid (Bx wr w.heap.size [.int .i64 s1, .int .i64 s2, .slice ao l.length cap]) ∧ Below w.heap.size w wr ∧ w.heap.size + 1 ≤ wr.heap.size) (fun _ i _ => l.length - (intOf i).toNat)
  case atStart => exact ⟨0, _, rfl, Nat.zero_le _, rfl, Kind.Own.nil _ _ _, fun j hj => by omega, A0, hB0, by simp⟩
  case round =>
    obtain ⟨k, v, rfl, hk, rfl, hO, hno, hA, hB, hs⟩ := hrel
    have hpA := hA.out.size
    have a0 := hA.out.c 0 rfl
    have a1 := hA.out.c 1 rfl
    have a2 := hA.out.c 2 rfl
    by_cases hlt : k < l.length
    · obtain ⟨b, off, rfl, hb, hc⟩ := kN_at hz hlt
      have d1 := (hB.cell (p := ⟨b, off + k * 2, none⟩) hb).trans (hc k hlt).1
      have d2 := (hB.cell (p := ⟨b, off + k * 2 + 1, none⟩) hb).trans (hc k hlt).2
      obtain ⟨⟨y1, y2⟩, ey⟩ : ∃ v, v = el l k := ⟨_, rfl⟩
      rw [← ey] at d1 d2
      have HY : Hid (el l k = (y1, y2)) := ey.symm
      clear ey hc hz
      dsimp only at d1 d2
      cases hm : manyB s1 (y1, y2)
      · have HM : Hid ((decide (1 ≤ y2) && decide (y2 ≤ s1)) = false) := hm
        have HF : Hid (x = false) := by rw [Hid, ← HX.out]; exact roomB_many k hlt (by rw [HY.out]; exact hm)
        clear hm
        go_wp2_with fail
        refine (l1In_is y2 1 s1 _ false HM.out).mono ?_
        rintro e w1 ⟨rfl, rfl⟩
        go_wp2
        go_ret
        exact ⟨ret_bool HF.out.symm, Below.allocS hB _⟩
      · have HM : Hid ((decide (1 ≤ y2) && decide (y2 ≤ s1)) = true) := hm
        have HM' : Hid (manyB s1 (y1, y2) = true) := hm
        clear hm
        go_wp2_with fail
        refine (l1In_is y2 1 s1 _ true HM.out).mono ?_
        rintro e w1 ⟨rfl, hw1⟩
        subst hw1
        have HA : Hid (kI.Own (w.heap.size + 1) ((wr.alloc (.cells #[.int .i64 y1, .int .i64 y2] 68)).alloc (.cells #[.int .i64 y1] 3)) v (tasksOf (l.take k))) := (hO.out.below (below1 _ _)).below (below1 _ _)
        have HN : Hid (kI.In (wr.heap.size + 1 + 1) ((wr.alloc (.cells #[.int .i64 y1, .int .i64 y2] 68)).alloc (.cells #[.int .i64 y1] 3)) (some ⟨wr.heap.size + 1, 0, none⟩) [y1]) := int_one (by omega) (by simp)
        have hll : (tasksOf (l.take k)).length + 1 ≤ 4194304 := by rw [tasksOf_len]; simp; omega
        have hBa : Below w.heap.size w ((wr.alloc (.cells #[.int .i64 y1, .int .i64 y2] 68)).alloc (.cells #[.int .i64 y1] 3)) := Below.allocS (Below.allocS hB _) _
        have hA2 := hid ((hA.out.alloc (.cells #[.int .i64 y1, .int .i64 y2] 68)).alloc (.cells #[.int .i64 y1] 3))
        go_wp2_with (at_builtin; refine Kind.app kI_ok ((wr.alloc (.cells #[.int .i64 y1, .int .i64 y2] 68)).alloc (.cells #[.int .i64 y1] 3)) rfl (.tmp 31) (.tmp 34) rfl (w.heap.size + 1) v (tasksOf (l.take k)) rfl HA.out (by simp; omega) (some ⟨wr.heap.size + 1, 0, none⟩) [y1] 1 1 rfl rfl (by simp) _ HN.out hll ?_; intro v' w' hO' hB' hG' hn'; have hB2 : Below w.heap.size w w' := hBa.trans (hB'.mono (by omega)); have hs2 : w.heap.size + 1 ≤ w'.heap.size := (by have := hB'.size; simp at this; omega); have HA3 := hid (hA2.out.below hB' (by omega)); have HO' : Hid (kI.Own (w.heap.size + 1) w' v' (tasksOf (l.take (k + 1)))) := (by rw [Hid, tasksOf_succ hlt, HY.out]; exact hO'); clear hO' hB' hG' hn')
        go_roundw
        case rel => exact ⟨k + 1, v', rfl, by omega, by go_num, HO', fun j hj => by
          rcases Nat.lt_succ_iff_lt_or_eq.1 hj with h | rfl
          · exact hno.out j h
          · rw [HY.out]; exact HM'.out, HA3, hB2, hs2⟩
        case measure => simp [intOf]; omega
    · obtain rfl : k = l.length := by omega
      rw [List.take_length] at hO
      obtain ⟨qo, qc, rfl, _, hF⟩ := hO.out.fresh
      have hcap := hF.cap
      have HI : Hid (kI.In wr.heap.size wr qo (tasksOf l)) := hF.in
      have hql : (tasksOf l).length ≤ 1048576 := by rw [tasksOf_len]; exact hl
      clear hF hO
      cases hline : lineB (tasksOf l)
      · have HL : Hid (lineB (tasksOf l) = false) := hline
        have HF : Hid (x = false) := by rw [Hid, ← HX.out]; exact roomB_line hline
        clear hline
        go_wp2
        go_quiet (exact Calls.quiet_of_same (l5Tasks_is wr.heap.size qo qc (tasksOf l) _ false hql hcap (by exact HI.out) HL.out))
        go_wp2
        go_ret
        exact ⟨ret_bool HF.out.symm, below_draws hB _⟩
      · have HL : Hid (lineB (tasksOf l) = true) := hline
        have HT : Hid ((!firstB s1 s2 l) = x) := by rw [Hid, ← HX.out]; exact (roomB_tail HZ.out hno.out hline).symm
        clear hline
        by_cases h0 : l.length = 0
        · obtain ⟨z1, z2, z3⟩ := len0 h0
          have HV : Hid (x = true) := by rw [Hid, ← HT.out]; simp [firstB, h0]
          subst z3
          clear h0 z2
          go_wp2
          go_quiet (exact Calls.quiet_of_same (l5Tasks_is wr.heap.size qo qc (tasksOf []) _ true hql hcap (by exact HI.out) HL.out))
          go_wp2
          go_ret
          exact ⟨ret_bool HV.out.symm, below_draws hB _⟩
        · obtain ⟨z1, z2⟩ := len1 h0
          have hpos : 0 < l.length := by omega
          obtain ⟨b, off, rfl, hb, hc⟩ := kN_at hz hpos
          have c1 := (hB.cell (p := ⟨b, off + 0 * 2 + 1, none⟩) hb).trans (hc 0 hpos).2
          rw [Nat.zero_mul, Nat.add_zero] at c1
          obtain ⟨m, em⟩ : ∃ m, m = (el l 0).2 := ⟨_, rfl⟩
          rw [← em] at c1
          have HV : Hid (decide (s1 - s2 < m) = x) := by
            have hfb : firstB s1 s2 l = decide (m ≤ s1 - s2) := by rw [em]; simp only [firstB, hpos, decide_true, Bool.true_and]
            rw [Hid, ← HT.out, hfb, ← decide_not]
            exact decide_eq_decide.2 (by omega)
          clear em hc hz HT
          go_wp2
          go_quiet (exact Calls.quiet_of_same (l5Tasks_is wr.heap.size qo qc (tasksOf l) _ true hql hcap (by exact HI.out) HL.out))
          go_wp2
          go_ret
          exact ⟨ret_bool HV.out, below_draws hB _⟩
end
end Go.Proofs.Ytdgnolpimmdgjaa
