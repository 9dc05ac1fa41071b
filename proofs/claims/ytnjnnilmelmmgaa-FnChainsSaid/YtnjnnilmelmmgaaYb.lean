
/- Drawn values and rows of ints. No conditions but those written. -/
import Derived.Test.YtnjnnilmelmmgaaYa
namespace Go.Proofs.Ytnjnnilmelmmgaa
open Go.RowKit

theorem Cur.below {W W' : World} {p : Nat} {co : Option Addr} {cap : Nat} {bs : List Int} {k : Nat} {sd : Int} (h : Cur W p co cap bs k sd) {n : Nat} (hb : Below n W W') (hp : p < n) : Cur W' p co cap bs k sd := h.keep hb.size fun j hj => hb.block j (by omega)
theorem Grew.of_below2 {p n : Nat} {w W W' : World} (h : Grew p w W) (hb : Below n W W') (hn : w.heap.size ≤ n) : Grew p w W' := ⟨hb.os.trans h.os, hb.tape.trans h.tape, hb.output.trans h.output, Nat.le_trans h.size hb.size, fun j hj hp => (hb.block j (by omega)).trans (h.block j hj hp)⟩
set_option maxRecDepth 100000 in
set_option maxHeartbeats 8000000 in
theorem value_any (p : Nat) (co : Option Addr) (cap : Nat) (bs : List Int) (k : Nat) (sd : Int) (w : World) (hl : bs.length ≤ 9223372036854775807) (ha : k ≤ 1000000000) (hC : Cur w p co cap bs k sd) :
    Calls Try.prog 55 #[.pointer (some ⟨p, 0, none⟩)] w fun e w' => (∃ x, e = .returned (.int .i64 x)) ∧ DrawnG w p co cap bs k 30 w' := by
  have C0 := hid hC
  have hR0 := Grew.refl p w
  have hpw : p < w.heap.size := hC.1
  clear hC
  go_enter Try.func55, Try.ntmps55
  go_wp2_with fail
  refine (pick_any 20 p co cap bs k sd w hl (by omega) C0.out).mono ?_
  rintro e w1 ⟨⟨y, rfl, h0y, h1y⟩, hD⟩
  obtain ⟨k1, sd1, hk1, hC1, hg1, hsz1⟩ := hD.grew
  have C1 := hid hC1
  have hR1 : Grew p w w1 := hR0.trans hg1
  have hz1 : w.heap.size ≤ w1.heap.size := hg1.size
  clear C0 hD hg1 hC1 hsz1
  by_cases hy0 : y = 0
  case pos =>
    subst hy0
    obtain ⟨w2, hV⟩ : ∃ V, V = w1.alloc (.cells #[.int .i64 1000000, .int .i64 (-1000000), .int .i64 1000001, .int .i64 (-1000001)] 3) := ⟨_, rfl⟩
    have C2 := hid (C1.out.later (below1 w1 (.cells #[.int .i64 1000000, .int .i64 (-1000000), .int .i64 1000001, .int .i64 (-1000001)] 3)))
    rw [← hV] at C2
    have hR2 : Grew p w w2 := by rw [hV]; exact hR1.trans (Grew.alloc p _ _)
    have hz2 : w1.heap.size ≤ w2.heap.size := by rw [hV]; simp
    have H2 := hid hV
    clear hV C1
    have XU2 : Hid (Bx w2 w1.heap.size [.int .i64 1000000, .int .i64 (-1000000), .int .i64 1000001, .int .i64 (-1000001)]) := by rw [H2.out]; exact Bx.new [.int .i64 1000000, .int .i64 (-1000000), .int .i64 1000001, .int .i64 (-1000001)] _ rfl
    have hy2 : w1.heap.size < w2.heap.size := XU2.out.size
    have u0 := XU2.out.c 0 rfl
    have uf0 := XU2.out.f 0 rfl
    have u1 := XU2.out.c 1 rfl
    have uf1 := XU2.out.f 1 rfl
    have u2 := XU2.out.c 2 rfl
    have uf2 := XU2.out.f 2 rfl
    have u3 := XU2.out.c 3 rfl
    have uf3 := XU2.out.f 3 rfl
    have uz := XU2.out.size
    go_wp2_with fail
    clear u0 uf0 u1 uf1 u2 uf2 u3 uf3 uz
    rw [← H2.out]
    clear H2
    refine (among_some [1000000, -1000000, 1000001, -1000001] w1.heap.size p co cap bs k1 sd1 w2 hl (by omega) C2.out (by simp) (by simp) XU2.out (by omega)).mono ?_
    rintro e w3 ⟨⟨z, rfl⟩, hD⟩
    obtain ⟨k3, sd3, hk3, hC3, hg3, hsz3⟩ := hD.grew
    have XU3 := hid (XU2.out.grew hg3 (by omega))
    have C3 := hid hC3
    have hR3 : Grew p w w3 := hR2.trans hg3
    have hz3 : w2.heap.size ≤ w3.heap.size := hg3.size
    clear XU2 C2 hD hg3 hC3 hsz3
    go_wp2
    go_ret
    exact ⟨⟨_, rfl⟩, k3, sd3, by omega, C3.out, hR3⟩
  by_cases hy1 : y = 1
  case pos =>
    subst hy1
    go_wp2_with fail
    refine (sized_any p co cap bs k1 sd1 w1 hl (by omega) C1.out).mono ?_
    rintro e w2 ⟨⟨z, rfl⟩, hD⟩
    obtain ⟨k2, sd2, hk2, hC2, hg2, hsz2⟩ := hD.grew
    have C2 := hid hC2
    have hR2 : Grew p w w2 := hR1.trans hg2
    have hz2 : w1.heap.size ≤ w2.heap.size := hg2.size
    clear C1 hD hg2 hC2 hsz2
    go_wp2
    go_ret
    exact ⟨⟨_, rfl⟩, k2, sd2, by omega, C2.out, hR2⟩
  have ey0 : (y == 0) = false := by simpa using hy0
  have ey1 : (y == 1) = false := by simpa using hy1
  go_wp2_with fail
  refine (pick_any 60 p co cap bs k1 sd1 w1 hl (by omega) C1.out).mono ?_
  rintro e w2 ⟨⟨z, rfl, h0z, h1z⟩, hD⟩
  obtain ⟨k2, sd2, hk2, hC2, hg2, hsz2⟩ := hD.grew
  have C2 := hid hC2
  have hR2 : Grew p w w2 := hR1.trans hg2
  have hz2 : w1.heap.size ≤ w2.heap.size := hg2.size
  clear C1 hD hg2 hC2 hsz2
  go_wp2
  go_ret
  exact ⟨⟨_, rfl⟩, k2, sd2, by omega, C2.out, hR2⟩
set_option maxRecDepth 100000 in
set_option maxHeartbeats 8000000 in
theorem ints_any (most : Nat) (hm : most ≤ 1000) (p : Nat) (co : Option Addr) (cap : Nat) (bs : List Int) (k : Nat) (sd : Int) (w : World) (hl : bs.length ≤ 9223372036854775807) (ha : k ≤ 1000000000) (hC : Cur w p co cap bs k sd) :
    Calls Try.prog 56 #[.pointer (some ⟨p, 0, none⟩), .int .i64 most] w fun e w' => (∃ o c xs, e = .returned (.slice o (xs : List Int).length c) ∧ xs.length ≤ most ∧ (o = none → c = 0) ∧ kI.Fresh w.heap.size w'.heap.size w' o c xs) ∧ DrawnG w p co cap bs k (2 * most + 4) w' := by
  have C0 := hid hC
  have hpw : p < w.heap.size := hC.1
  clear hC
  go_enter Try.func56, Try.ntmps56
  go_wp2_with fail
  refine (pick_any ((most : Int) + 1) p co cap bs k sd w hl (by omega) C0.out).mono ?_
  rintro e w1 ⟨⟨n, rfl, hn0, hn1⟩, hD⟩
  obtain ⟨k1, sd1, hk1, hC1, hg1, hsz1⟩ := hD.grew
  have HC1 := hid hC1
  have hnm : n ≤ most := by omega
  obtain ⟨m, rfl⟩ : ∃ m : Nat, n = m := ⟨n.toNat, by omega⟩
  clear hD hC1 hn1 hn0 C0
  go_wp2
  go_loopw [5, 6] (fun u i wr => ∃ (j : Nat) (v : Value) (xs : List Int) (k' : Nat) (sd' : Int), v = u ∧ j + xs.length = m ∧ i = .int .i64 j ∧ Hid (kI.Own w.heap.size wr v xs) ∧ Hid (Cur wr p co cap bs k' sd') ∧ k' ≤ k + 2 + 2 * xs.length ∧ Grew p w wr) (fun _ i _ => (intOf i).toNat)
  case atStart => exact ⟨m, _, [], k1, sd1, rfl, by simp, rfl, Kind.Own.nil _ _ _, HC1, by simp; omega, hg1⟩
  case round =>
    obtain ⟨j, v, xs, k', sd', rfl, hj, rfl, hO, hC, hk', hg⟩ := hrel
    by_cases hlt : 0 < j
    · have hj' : decide ((0 : Int) < (j : Int)) = true := by simp; omega
      go_wp2_with fail
      refine (pick_any 50 p co cap bs k' sd' wr hl (by omega) hC.out).mono ?_
      rintro e w2 ⟨⟨y, rfl, hy0, hy1⟩, hD⟩
      obtain ⟨k2, sd2, hk2, hC2, hg2, hsz2⟩ := hD.grew
      have HC2 := hid (hC2.later (below1 w2 (.cells #[.int .i64 (y - 10)] 3)))
      have hO2 := hid (hO.out.keep fun b hb hs => hg2.block b hs (by omega))
      have HOA := hid (hO2.out.below (below1 w2 (.cells #[.int .i64 (y - 10)] 3)))
      have HN : Hid (kI.In (w2.heap.size + 1) (w2.alloc (.cells #[.int .i64 (y - 10)] 3)) (some ⟨w2.heap.size, 0, none⟩) [y - 10]) := int_one (by omega) (by simp)
      have hgA := (hg.trans hg2).trans (Grew.alloc p w2 (.cells #[.int .i64 (y - 10)] 3))
      have hss := (hg.trans hg2).size
      clear hD hC2 hg2 hC hO hO2 hsz2
      go_wp2_with (at_builtin; refine Kind.app kI_ok (w2.alloc (.cells #[.int .i64 (y - 10)] 3)) rfl (.tmp 15) (.tmp 19) rfl w.heap.size v xs rfl HOA.out (by simp; omega) (some ⟨w2.heap.size, 0, none⟩) [y - 10] 1 1 rfl rfl (by simp) _ HN.out (by simp; omega) ?_; intro v' w' hO' hB' hG' hn'; have hg3 := hgA.of_below2 hB' (Nat.le_refl _); have HC3 := hid (HC2.out.below hB' (by omega)); have HO' := hid hO'; clear hO' hB' hG' hn')
      go_roundw
      case rel => exact ⟨j - 1, v', xs ++ [y - 10], k2, sd2, rfl, by simp; omega, by go_num, HO', HC3, by simp; omega, hg3⟩
      case measure => simp [intOf]; omega
    · have hj' : decide ((0 : Int) < (j : Int)) = false := by simp; omega
      obtain ⟨qo, qc, rfl, hq0, hF⟩ := hO.out.fresh
      have HF := hid hF
      have HQ := hid hq0
      clear hF hO hq0
      go_wp2
      go_ret
      exact ⟨⟨_, _, _, rfl, by omega, HQ.out, HF.out⟩, k', sd', by omega, hC.out, hg⟩
end Go.Proofs.Ytnjnnilmelmmgaa
