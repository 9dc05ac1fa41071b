
/- Marks over a hub: written, and held. No conditions but those written. -/
import Derived.Test.YtlnjhajdbofhlaaKm
namespace Go.Proofs.Ytlnjhajdbofhlaa
open Go.RowKit

theorem hd_at {lo hi : Nat} {W : World} {g c : Nat} {us : List LChan} (h : DFr dChan lo hi W (some ⟨g, 0, none⟩) c us) {i : Nat} (hi' : i < us.length) :
    W.cell? ⟨g, i * 5, none⟩ = some (.int .i64 (el us i).1) ∧ W.cell? ⟨g, i * 5 + 1, none⟩ = some (.bool ((el us i).2.1)) ∧ W.cell? ⟨g, i * 5 + 2, none⟩ = some (.slice (el us i).2.2.1.1 (el us i).2.2.1.2.2.length (el us i).2.2.1.2.1) ∧ W.cell? ⟨g, i * 5 + 3, none⟩ = some (.slice (el us i).2.2.2.1.1 (el us i).2.2.2.1.2.2.length (el us i).2.2.2.1.2.1) ∧ W.cell? ⟨g, i * 5 + 4, none⟩ = some (.slice (el us i).2.2.2.2.1 (el us i).2.2.2.2.2.2.length (el us i).2.2.2.2.2.1) ∧ W.frozen? ⟨g, i * 5, none⟩ = false ∧ W.frozen? ⟨g, i * 5 + 1, none⟩ = false ∧ lo ≤ g ∧ g < hi ∧ g < W.heap.size := by
  have h1 : hChan.Fresh lo hi W (some ⟨g, 0, none⟩) c us := h.1
  obtain ⟨g2, e2, hg1, hg2, hg3, ho⟩ := h1.at (show 0 < us.length by omega)
  simp at e2; subst e2
  obtain ⟨b0, off, eb, _, hc⟩ := hChan_at h1.in hi'
  obtain ⟨rfl, rfl⟩ : b0 = g ∧ off = 0 := by simp at eb; exact ⟨eb.1.symm, eb.2.symm⟩
  have hc' := hc i hi'
  simp only [Nat.zero_add] at hc'
  exact ⟨hc'.1, hc'.2.1, hc'.2.2.1, hc'.2.2.2.1, hc'.2.2.2.2, ho.frozenAt (i * 5), ho.frozenAt (i * 5 + 1), hg1, hg2, hg3⟩
set_option maxRecDepth 10000 in
set_option maxHeartbeats 8000000 in
theorem markChanS_any (lo hi : Nat) (ao : Option Addr) (c : Nat) (ts : List LChan) (k0 : Int) (w : World) (hl : ts.length ≤ 1048576) (ht : totChan ts ≤ 1048576) (hk0 : 0 ≤ k0) (hk1 : k0 ≤ 8000000) (hF : DFr dChan lo hi w ao c ts) :
    Calls Try.prog 91 #[.slice ao ts.length c, .int .i64 k0] w fun e w' => e = .returned (.int .i64 (endC k0 ts)) ∧ DFr dChan lo hi w' ao c (markC k0 ts) ∧ Between lo hi w w' := by
  rcases Nat.eq_zero_or_pos ts.length with h0 | h0
  · obtain rfl : ts = [] := List.length_eq_zero_iff.1 h0
    go_enter Try.func91, Try.ntmps91
    go_wp2
    go_loop [1, 5] (fun v i => v = .int .i64 k0 ∧ i = .int .i64 0) (fun _ _ => 0)
    case atStart => exact ⟨rfl, rfl⟩
    case round =>
      obtain ⟨rfl, rfl⟩ := hrel
      go_wp2
      go_ret
      exact ⟨rfl, DFr.nil _ _ _ _ _, Between.refl _ _ _⟩
  · have HF := hid hF
    have h1 : hChan.Fresh lo hi w ao c ts := hF.1
    obtain ⟨g, rfl, _⟩ := h1.at h0
    clear h1 hF
    have HT := hid ht
    clear ht
    go_enter Try.func91, Try.ntmps91
    go_wp2
    go_loopw [1, 5] (fun v i wr => ∃ (k : Nat) (kk : Int), k ≤ ts.length ∧ i = .int .i64 k ∧ v = .int .i64 kk ∧ Hid (kk = endC k0 (ts.take k)) ∧ Hid (DFr dChan lo hi wr (some ⟨g, 0, none⟩) c (midC k0 ts k)) ∧ Between lo hi w wr) (fun _ i _ => ts.length - (intOf i).toNat)
    case atStart => exact ⟨0, k0, Nat.zero_le _, rfl, rfl, rfl, by rw [Hid, midC_zero]; exact HF.out, Between.refl _ _ _⟩
    case round =>
      obtain ⟨k, kk, hk, rfl, rfl, HK, hD, hB⟩ := hrel
      by_cases hlt : k < ts.length
      · have HLT := hid hlt
        obtain ⟨us, hus⟩ : ∃ us, us = midC k0 ts k := ⟨_, rfl⟩
        have HU := hid hus
        have hul : us.length = ts.length := by rw [hus]; exact midC_len _ _ hk
        have hue : el us k = el ts k := by rw [hus]; exact midC_el _ hlt
        rw [← hus] at hD
        clear hus
        have hku : k < us.length := by omega
        have hbd : 0 ≤ kk ∧ kk ≤ 13242880 := by
          have h1 := endC_is k0 (ts.take k)
          have h2 := totChan_le ts k
          have h3 := HT.out
          rw [← HK.out] at h1
          simp only [List.length_take] at h1
          omega
        have hsz := totChan_el hlt
        have hsz2 : sizeChan (el ts k) ≤ 1048576 := by have := HT.out; omega
        clear hsz
        obtain ⟨⟨kap, cl, ⟨bo, bc, b⟩, ⟨so, sc, s⟩, ⟨ro, rc, r⟩⟩, ea⟩ : ∃ a, a = el ts k := ⟨_, rfl⟩
        rw [← ea] at hue hsz2
        have HEA := hid ea
        have HUE := hid hue
        clear ea
        have hsz3 : b.length + s.length + r.length ≤ 1048576 := by simp [sizeChan] at hsz2; omega
        clear hsz2
        obtain ⟨c0, c1, c2, c3, c4, f0, f1, hg1, hg2, hg3⟩ := hd_at hD.out hku
        rw [hue] at c0 c1 c2 c3 c4
        dsimp only at c0 c1 c2 c3 c4
        obtain ⟨W1, hW1⟩ : ∃ W1, W1 = (wr.setCell ⟨g, k * 5, none⟩ (.int .i64 kk)).setCell ⟨g, k * 5 + 1, none⟩ (.bool ((kk + 1) % 3 == 0)) := ⟨_, rfl⟩
        have D1 : Hid (DFr dChan lo hi W1 (some ⟨g, 0, none⟩) c (us.set k (kk, (kk + 1) % 3 == 0, (bo, bc, b), (so, sc, s), (ro, rc, r)))) := by
          have := DFr.head2 hD.out hku kk ((kk + 1) % 3 == 0)
          rw [hue] at this; rw [hW1]; exact this
        have hB1 : Between lo hi w W1 := by rw [hW1]; exact (hB.trans (Between.set _ hg1 hg2 _)).trans (Between.set _ hg1 hg2 _)
        have HW1 := hid hW1
        clear hW1 hue
        go_wp2_with fail
        rw [← HW1.out]
        have e1 : el (us.set k (kk, (kk + 1) % 3 == 0, (bo, bc, b), (so, sc, s), (ro, rc, r))) k = (kk, (kk + 1) % 3 == 0, (bo, bc, b), (so, sc, s), (ro, rc, r)) := el_set_same hku
        have l1 : k < (us.set k (kk, (kk + 1) % 3 == 0, (bo, bc, b), (so, sc, s), (ro, rc, r))).length := by simpa using hku
        have r1 : kI.Fresh lo hi W1 bo bc b := by have h := D1.out.2.1 k l1; rw [e1] at h; exact h.1
        refine (markIntS_any lo hi bo bc b (kk + 1 + 1) W1 (by omega) (by omega) (by omega) r1).mono ?_
        rintro e W2 ⟨rfl, hF1, hO1⟩
        have hB2 : Between lo hi w W2 := hB1.trans (r1.between hO1)
        have D2 : Hid (DFr dChan lo hi W2 (some ⟨g, 0, none⟩) c (us.set k (kk, (kk + 1) % 3 == 0, (bo, bc, (markI (kk + 1 + 1) b.length)), (so, sc, s), (ro, rc, r)))) := by
          have h := DFr.row1 D1.out l1 (b' := markI (kk + 1 + 1) b.length) (by rw [e1]; exact markI_len _ _) (by rw [e1]; exact hF1) (by rw [e1]; exact hO1)
          rw [List.set_set, e1] at h; exact h
        clear hF1 hO1 r1 e1 l1 D1 hB1
        have e2 : el (us.set k (kk, (kk + 1) % 3 == 0, (bo, bc, (markI (kk + 1 + 1) b.length)), (so, sc, s), (ro, rc, r))) k = (kk, (kk + 1) % 3 == 0, (bo, bc, (markI (kk + 1 + 1) b.length)), (so, sc, s), (ro, rc, r)) := el_set_same hku
        have l2 : k < (us.set k (kk, (kk + 1) % 3 == 0, (bo, bc, (markI (kk + 1 + 1) b.length)), (so, sc, s), (ro, rc, r))).length := by simpa using hku
        have r2 : kW.Fresh lo hi W2 so sc s := by have h := D2.out.2.1 k l2; rw [e2] at h; exact h.2.1
        obtain ⟨_, _, x2, x3, x4, _, _, _, _, z2⟩ := hd_at D2.out l2
        rw [e2] at x2 x3 x4
        dsimp only [markI_len, markW_len] at x2 x3 x4
        rw [markI_len] at x2
        go_wp2_with fail
        clear x2 x3 x4
        refine (markWaiterS_any lo hi so sc s (kk + 1 + 1 + b.length) W2 (by omega) (by omega) (by omega) r2).mono ?_
        rintro e W3 ⟨rfl, hF2, hO2⟩
        have hB3 : Between lo hi w W3 := hB2.trans (r2.between hO2)
        have D3 : Hid (DFr dChan lo hi W3 (some ⟨g, 0, none⟩) c (us.set k (kk, (kk + 1) % 3 == 0, (bo, bc, (markI (kk + 1 + 1) b.length)), (so, sc, (markW (kk + 1 + 1 + b.length) s.length)), (ro, rc, r)))) := by
          have h := DFr.row2 D2.out l2 (b' := markW (kk + 1 + 1 + b.length) s.length) (by rw [e2]; exact markW_len _ _) (by rw [e2]; exact hF2) (by rw [e2]; exact hO2)
          rw [List.set_set, e2] at h; exact h
        clear hF2 hO2 r2 e2 l2 D2 hB2
        have e3 : el (us.set k (kk, (kk + 1) % 3 == 0, (bo, bc, (markI (kk + 1 + 1) b.length)), (so, sc, (markW (kk + 1 + 1 + b.length) s.length)), (ro, rc, r))) k = (kk, (kk + 1) % 3 == 0, (bo, bc, (markI (kk + 1 + 1) b.length)), (so, sc, (markW (kk + 1 + 1 + b.length) s.length)), (ro, rc, r)) := el_set_same hku
        have l3 : k < (us.set k (kk, (kk + 1) % 3 == 0, (bo, bc, (markI (kk + 1 + 1) b.length)), (so, sc, (markW (kk + 1 + 1 + b.length) s.length)), (ro, rc, r))).length := by simpa using hku
        have r3 : kW.Fresh lo hi W3 ro rc r := by have h := D3.out.2.1 k l3; rw [e3] at h; exact h.2.2.1
        obtain ⟨_, _, x2, x3, x4, _, _, _, _, z3⟩ := hd_at D3.out l3
        rw [e3] at x2 x3 x4
        dsimp only [markI_len, markW_len] at x2 x3 x4
        rw [markI_len] at x2
        rw [markW_len] at x3
        go_wp2_with fail
        clear x2 x3 x4
        refine (markWaiterS_any lo hi ro rc r (kk + 1 + 1 + b.length + 3 * s.length) W3 (by omega) (by omega) (by omega) r3).mono ?_
        rintro e W4 ⟨rfl, hF3, hO3⟩
        have hB4 : Between lo hi w W4 := hB3.trans (r3.between hO3)
        have D4 : Hid (DFr dChan lo hi W4 (some ⟨g, 0, none⟩) c (us.set k (kk, (kk + 1) % 3 == 0, (bo, bc, (markI (kk + 1 + 1) b.length)), (so, sc, (markW (kk + 1 + 1 + b.length) s.length)), (ro, rc, (markW (kk + 1 + 1 + b.length + 3 * s.length) r.length))))) := by
          have h := DFr.row3 D3.out l3 (b' := markW (kk + 1 + 1 + b.length + 3 * s.length) r.length) (by rw [e3]; exact markW_len _ _) (by rw [e3]; exact hF3) (by rw [e3]; exact hO3)
          rw [List.set_set, e3] at h; exact h
        clear hF3 hO3 r3 e3 l3 D3 hB3
        go_wp2
        go_roundw
        case rel =>
          refine ⟨k + 1, nxC kk (kap, cl, (bo, bc, b), (so, sc, s), (ro, rc, r)), by omega, by go_num, rfl, ?_, ?_, hB4⟩
          · rw [Hid, endC_succ HLT.out, ← HK.out, ← HEA.out]
          · rw [Hid, ← midC_set k0 HLT.out, ← HK.out, ← HEA.out, ← HU.out]; exact D4.out
        case measure => simp [intOf]; omega
      · obtain rfl : k = ts.length := by omega
        rw [midC_all] at hD
        rw [List.take_length] at HK
        go_wp2
        go_ret
        exact ⟨ret_int HK.out, hD.out, hB⟩
set_option maxHeartbeats 2000000 in
theorem markHub_any (lo hi : Nat) (ao : Option Addr) (c : Nat) (ts : List LChan) (k0 : Int) (w : World) (hl : ts.length ≤ 1048576) (ht : totChan ts ≤ 1048576) (hk0 : 0 ≤ k0) (hk1 : k0 ≤ 8000000) (hF : DFr dChan lo hi w ao c ts) :
    Calls Try.prog 39 #[.agg #[.slice ao ts.length c], .int .i64 k0] w fun e w' => e = .returned (.int .i64 (endC k0 ts)) ∧ DFr dChan lo hi w' ao c (markC k0 ts) ∧ Between lo hi w w' := by
  have hB0 := below1 w (.cells #[.slice ao ts.length c] 56)
  have hF0 := hid (hF.later dChan_ok hB0)
  clear hF
  go_enter Try.func39, Try.ntmps39
  go_wp2_with fail
  refine (markChanS_any lo hi ao c ts k0 _ hl ht hk0 hk1 hF0.out).mono ?_
  rintro e w1 ⟨rfl, hF1, hb1⟩
  have H1 := hid (And.intro hF1 ((Between.of_below hB0).trans hb1))
  clear hF1 hb1 hF0 hB0
  go_wp2
  go_ret
  exact ⟨rfl, H1.out⟩
end Go.Proofs.Ytlnjhajdbofhlaa
