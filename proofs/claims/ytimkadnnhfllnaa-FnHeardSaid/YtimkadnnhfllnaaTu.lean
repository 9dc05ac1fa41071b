
/- Whether a topic is good: the specification. No conditions but those written. -/
import Derived.Test.YtimkadnnhfllnaaTq
import Derived.Test.YtimkadnnhfllnaaQt
namespace Go.Proofs.Ytimkadnnhfllnaa
open Go.RowKit

set_option maxRecDepth 10000 in
set_option maxHeartbeats 16000000 in
theorem specGood_is (sd : Int) (ao : Option Addr) (cap : Nat) (ts : List LSub) (w : World) (x : Bool) (hl : ts.length ≤ 1048576) (hf : Fits ts) (hz : DIn dSub w.heap.size w ao ts) (hx : topicB sd (ts.map valSub) = x) :
    Calls Try.prog 17 #[.agg #[.int .i64 sd, .slice ao ts.length cap]] w fun e w' => e = .returned (.bool x) ∧ Below w.heap.size w w' := by
  have HX := hid hx
  have HZ := hid hz.1
  have HF := hid hf
  have hB0 := below1 w (.cells #[.int .i64 sd, .slice ao ts.length cap] 25)
  have A0 := hid (Bx.new (w := w) (p := w.heap.size) [.int .i64 sd, .slice ao ts.length cap] 25 rfl)
  have hlm : (ts.map valSub).length = ts.length := by simp
  have HLM := hid hlm
  clear hx hz hf hlm
  cases hs01 : (decide (0 ≤ sd) && decide (sd ≤ 1000000))
  · have HA := hid hs01
    clear hs01
    go_enter Try.func17, Try.ntmps17
    go_wp2_with fail
    refine (l1In_is sd 0 1000000 _ _ HA.out).mono ?_
    rintro e w1 ⟨rfl, hw1⟩
    rw [hw1]; clear hw1 w1
    go_wp2
    go_ret
    exact ⟨ret_bool (by rw [← HX.out, topicB_said (by have := HA.out; simp at this; omega)]), hB0⟩
  have HA := hid hs01
  have hs0 : 0 ≤ sd := by simp at hs01; exact hs01.1
  have hs1 : sd ≤ 1000000 := by simp at hs01; exact hs01.2
  clear hs01
  by_cases h10 : ts.length ≤ 10
  case neg =>
    have h10' : decide ((10 : Int) < (ts.length : Int)) = true := by simp; omega
    go_enter Try.func17, Try.ntmps17
    go_wp2_with fail
    refine (l1In_is sd 0 1000000 _ _ HA.out).mono ?_
    rintro e w1 ⟨rfl, hw1⟩
    rw [hw1]; clear hw1 w1
    go_wp2
    go_ret
    exact ⟨ret_bool (by rw [← HX.out, topicB_long (by rw [HLM.out]; omega)]), hB0⟩
  have h10' : decide ((10 : Int) < (ts.length : Int)) = false := by simp; omega
  go_enter Try.func17, Try.ntmps17
  go_wp2_with fail
  refine (l1In_is sd 0 1000000 _ _ HA.out).mono ?_
  rintro e w1 ⟨rfl, hw1⟩
  rw [hw1]; clear hw1 w1
  go_wp2
  go_loopw [18] (fun i wr => ∃ k : Nat, k ≤ ts.length ∧ i = .int .i64 k ∧ Below w.heap.size w wr ∧ Hid (Bx wr w.heap.size [.int .i64 sd, .slice ao ts.length cap]) ∧ Hid (∀ j, j < k → stepB (ts.map valSub) j = true)) (fun i _ => ts.length - (intOf i).toNat)
  case atStart => exact ⟨0, Nat.zero_le _, rfl, hB0, A0, fun j hj => by omega⟩
  case round =>
    clear hB0 A0
    obtain ⟨k, hk, rfl, hB, hX, hno⟩ := hrel
    by_cases hlt : k < ts.length
    · obtain ⟨b0, off, rfl, hb, hc⟩ := hSub_at HZ.out hlt
      have d1 := (hB.cell (p := ⟨b0, off + k * 5, none⟩) hb).trans (hc k hlt).1
      have d2 := (hB.cell (p := ⟨b0, off + k * 5 + 1, none⟩) hb).trans (hc k hlt).2.1
      have d3 := (hB.cell (p := ⟨b0, off + k * 5 + 2, none⟩) hb).trans (hc k hlt).2.2.1
      have d4 := (hB.cell (p := ⟨b0, off + k * 5 + 3, none⟩) hb).trans (hc k hlt).2.2.2.1
      have d5 := (hB.cell (p := ⟨b0, off + k * 5 + 4, none⟩) hb).trans (hc k hlt).2.2.2.2
      have hfk := HF.out _ (el_mem hlt)
      have hev := el_val hlt
      obtain ⟨⟨nd, kap, dr, dp, ⟨qo, qc, q⟩⟩, ey⟩ : ∃ v, v = el ts k := ⟨_, rfl⟩
      rw [← ey] at d1 d2 d3 d4 d5 hfk hev
      have HE : Hid (el (ts.map valSub) k = (nd, kap, dr, dp, q)) := hev
      clear ey hev
      dsimp only at d1 d2 d3 d4 d5 hfk
      obtain ⟨VW, hVW⟩ : ∃ VW, VW = wr.alloc (.cells #[.int .i64 nd, .int .i64 kap, .bool dr, .int .i64 dp, .slice qo q.length qc] 36) := ⟨_, rfl⟩
      have hbW : Below wr.heap.size wr VW := by rw [hVW]; exact below1 _ _
      have XW : Hid (Bx VW wr.heap.size [.int .i64 nd, .int .i64 kap, .bool dr, .int .i64 dp, .slice qo q.length qc]) := by rw [hVW]; exact Bx.new [.int .i64 nd, .int .i64 kap, .bool dr, .int .i64 dp, .slice qo q.length qc] _ rfl
      have XV := hid (hX.out.later hbW)
      have hBW := hB.trans (hbW.mono hB.size)
      have HVW := hid hVW
      clear hbW hX hVW
      rcases Nat.eq_zero_or_pos k with h0 | h0
      · have hj0 : decide (0 < k) = false := by simp; omega
        have H0 := hid h0
        clear h0
        cases hs : (decide (1 ≤ kap) && decide (kap ≤ 20))
        · have HS := hid hs
          have HD := hid hs
          clear hs
          have hNE := later_some VW; have x0 := XV.out.at 0 rfl; have x1 := XV.out.at 1 rfl; have y0 := XW.out.at 0 rfl; have y1 := XW.out.at 1 rfl; have y2 := XW.out.at 2 rfl; have y3 := XW.out.at 3 rfl; have y4 := XW.out.at 4 rfl
          go_wp2_with fail
          rw [← HVW.out]
          refine wp_region_later VW (by kernel_rfl) (by kernel_rfl) (Below.refl _ _) ?_
          repeat (go_big_quiet_step (first
            | (go_at_call 36; exact Calls.later_same (l1In_is _ _ _ _ _ (by first | exact HS.out | exact HD.out)))))
          refine wpQuiet_nil ?_
          rintro w4 ⟨⟨w5, hb4⟩, hw5⟩
          obtain rfl : w4 = w5 := hw5
          clear x0 x1 y0 y1 y2 y3 y4 hNE
          have hB4 : Below w.heap.size w w4 := hBW.trans (hb4.mono hBW.size)
          have X4 := hid (XV.out.later hb4)
          clear hb4
          go_wp2
          go_ret
          exact ⟨ret_bool (by rw [← HX.out, topicB_no (k := k) (by rw [HLM.out]; exact hlt) (by rw [stepB, HE.out, show subB (nd, kap, dr, dp, q) = false from by rw [subB]; simp [sizeB, HS.out], Bool.false_and])]), hB4⟩
        have HS := hid hs
        clear hs
        by_cases hq : (q.length : Int) ≤ kap
        case neg =>
          have hq' : decide (kap < (q.length : Int)) = true := by simp; omega
          have HD := hid HS.out
          have HQ := hid hq
          clear hq
          have hNE := later_some VW; have x0 := XV.out.at 0 rfl; have x1 := XV.out.at 1 rfl; have y0 := XW.out.at 0 rfl; have y1 := XW.out.at 1 rfl; have y2 := XW.out.at 2 rfl; have y3 := XW.out.at 3 rfl; have y4 := XW.out.at 4 rfl
          go_wp2_with fail
          rw [← HVW.out]
          refine wp_region_later VW (by kernel_rfl) (by kernel_rfl) (Below.refl _ _) ?_
          repeat (go_big_quiet_step (first
            | (go_at_call 36; exact Calls.later_same (l1In_is _ _ _ _ _ (by first | exact HS.out | exact HD.out)))))
          refine wpQuiet_nil ?_
          rintro w4 ⟨⟨w5, hb4⟩, hw5⟩
          obtain rfl : w4 = w5 := hw5
          clear x0 x1 y0 y1 y2 y3 y4 hNE
          have hB4 : Below w.heap.size w w4 := hBW.trans (hb4.mono hBW.size)
          have X4 := hid (XV.out.later hb4)
          clear hb4
          go_wp2
          go_ret
          exact ⟨ret_bool (by rw [← HX.out, topicB_no (k := k) (by rw [HLM.out]; exact hlt) (by rw [stepB, HE.out, show subB (nd, kap, dr, dp, q) = false from by rw [subB]; dsimp only; rw [decide_eq_false (p := ((q.length : Int) ≤ kap)) (by have := HQ.out; omega)]; simp, Bool.false_and])]), hB4⟩
        have hq' : decide (kap < (q.length : Int)) = false := by simp; omega
        have HQ := hid hq
        clear hq
        cases hd : (decide (0 ≤ dp) && decide (dp ≤ 1000000))
        · have HD := hid hd
          clear hd
          have hNE := later_some VW; have x0 := XV.out.at 0 rfl; have x1 := XV.out.at 1 rfl; have y0 := XW.out.at 0 rfl; have y1 := XW.out.at 1 rfl; have y2 := XW.out.at 2 rfl; have y3 := XW.out.at 3 rfl; have y4 := XW.out.at 4 rfl
          go_wp2_with fail
          rw [← HVW.out]
          refine wp_region_later VW (by kernel_rfl) (by kernel_rfl) (Below.refl _ _) ?_
          repeat (go_big_quiet_step (first
            | (go_at_call 36; exact Calls.later_same (l1In_is _ _ _ _ _ (by first | exact HS.out | exact HD.out)))))
          refine wpQuiet_nil ?_
          rintro w4 ⟨⟨w5, hb4⟩, hw5⟩
          obtain rfl : w4 = w5 := hw5
          clear x0 x1 y0 y1 y2 y3 y4 hNE
          have hB4 : Below w.heap.size w w4 := hBW.trans (hb4.mono hBW.size)
          have X4 := hid (XV.out.later hb4)
          clear hb4
          go_wp2
          go_ret
          exact ⟨ret_bool (by rw [← HX.out, topicB_no (k := k) (by rw [HLM.out]; exact hlt) (by rw [stepB, HE.out, show subB (nd, kap, dr, dp, q) = false from by have h := HD.out; rw [subB]; cases dr <;> simp at h ⊢ <;> omega, Bool.false_and])]), hB4⟩
        have HD := hid hd
        clear hd
        cases dr
        · by_cases h0 : dp = 0
          · have h0' : (dp != 0) = false := by simpa using h0
            have HSB : Hid (subB (nd, kap, false, dp, q) = true) := by rw [Hid, subB]; simp [sizeB, HQ.out, h0]; simpa using HS.out
            clear h0
            have hNE := later_some VW; have x0 := XV.out.at 0 rfl; have x1 := XV.out.at 1 rfl; have y0 := XW.out.at 0 rfl; have y1 := XW.out.at 1 rfl; have y2 := XW.out.at 2 rfl; have y3 := XW.out.at 3 rfl; have y4 := XW.out.at 4 rfl
            go_wp2_with fail
            rw [← HVW.out]
            refine wp_region_later VW (by kernel_rfl) (by kernel_rfl) (Below.refl _ _) ?_
            repeat (go_big_quiet_step (first
              | (go_at_call 36; exact Calls.later_same (l1In_is _ _ _ _ _ (by first | exact HS.out | exact HD.out)))))
            refine wpQuiet_nil ?_
            rintro w4 ⟨⟨w5, hb4⟩, hw5⟩
            obtain rfl : w4 = w5 := hw5
            clear x0 x1 y0 y1 y2 y3 y4 hNE
            have hB4 : Below w.heap.size w w4 := hBW.trans (hb4.mono hBW.size)
            have X4 := hid (XV.out.later hb4)
            clear hb4
            go_wp2
            go_roundw
            case rel => exact ⟨k + 1, by omega, by go_num, hB4, X4, fun i hi => by
              rcases Nat.lt_succ_iff_lt_or_eq.1 hi with h | e
              · exact hno.out i h
              · rw [e]; rw [stepB, HE.out, HSB.out, H0.out]; rfl⟩
            case measure => simp [intOf]; omega
          · have h0' : (dp != 0) = true := by simpa using h0
            have HN := hid h0
            clear h0
            have hNE := later_some VW; have x0 := XV.out.at 0 rfl; have x1 := XV.out.at 1 rfl; have y0 := XW.out.at 0 rfl; have y1 := XW.out.at 1 rfl; have y2 := XW.out.at 2 rfl; have y3 := XW.out.at 3 rfl; have y4 := XW.out.at 4 rfl
            go_wp2_with fail
            rw [← HVW.out]
            refine wp_region_later VW (by kernel_rfl) (by kernel_rfl) (Below.refl _ _) ?_
            repeat (go_big_quiet_step (first
              | (go_at_call 36; exact Calls.later_same (l1In_is _ _ _ _ _ (by first | exact HS.out | exact HD.out)))))
            refine wpQuiet_nil ?_
            rintro w4 ⟨⟨w5, hb4⟩, hw5⟩
            obtain rfl : w4 = w5 := hw5
            clear x0 x1 y0 y1 y2 y3 y4 hNE
            have hB4 : Below w.heap.size w w4 := hBW.trans (hb4.mono hBW.size)
            have X4 := hid (XV.out.later hb4)
            clear hb4
            go_wp2
            go_ret
            exact ⟨ret_bool (by rw [← HX.out, topicB_no (k := k) (by rw [HLM.out]; exact hlt) (by rw [stepB, HE.out, show subB (nd, kap, false, dp, q) = false from by rw [subB]; simp [HN.out], Bool.false_and])]), hB4⟩
        · have HSB : Hid (subB (nd, kap, true, dp, q) = true) := by have h := HD.out; have h2 := HS.out; rw [Hid, subB]; simp [sizeB, HQ.out] at h h2 ⊢; omega
          have hNE := later_some VW; have x0 := XV.out.at 0 rfl; have x1 := XV.out.at 1 rfl; have y0 := XW.out.at 0 rfl; have y1 := XW.out.at 1 rfl; have y2 := XW.out.at 2 rfl; have y3 := XW.out.at 3 rfl; have y4 := XW.out.at 4 rfl
          go_wp2_with fail
          rw [← HVW.out]
          refine wp_region_later VW (by kernel_rfl) (by kernel_rfl) (Below.refl _ _) ?_
          repeat (go_big_quiet_step (first
            | (go_at_call 36; exact Calls.later_same (l1In_is _ _ _ _ _ (by first | exact HS.out | exact HD.out)))))
          refine wpQuiet_nil ?_
          rintro w4 ⟨⟨w5, hb4⟩, hw5⟩
          obtain rfl : w4 = w5 := hw5
          clear x0 x1 y0 y1 y2 y3 y4 hNE
          have hB4 : Below w.heap.size w w4 := hBW.trans (hb4.mono hBW.size)
          have X4 := hid (XV.out.later hb4)
          clear hb4
          go_wp2
          go_roundw
          case rel => exact ⟨k + 1, by omega, by go_num, hB4, X4, fun i hi => by
            rcases Nat.lt_succ_iff_lt_or_eq.1 hi with h | e
            · exact hno.out i h
            · rw [e]; rw [stepB, HE.out, HSB.out, H0.out]; rfl⟩
          case measure => simp [intOf]; omega
      · obtain ⟨j, rfl⟩ : ∃ j, k = j + 1 := ⟨k - 1, by omega⟩
        have p1 := (hBW.cell (p := ⟨b0, off + j * 5, none⟩) hb).trans (hc j (by omega)).1
        have hpv := el_val (ts := ts) (j := j) (by omega)
        obtain ⟨⟨zd, r1⟩, ez⟩ : ∃ v, v = el ts j := ⟨_, rfl⟩
        rw [← ez] at p1 hpv
        have HP : Hid ((el (ts.map valSub) j).1 = zd) := by rw [Hid, hpv]; rfl
        dsimp only at p1
        clear ez hpv hc
        have p2 := fun W : Later VW => W.cell p1 (by have := hBW.size; exact (show b0 < VW.heap.size by omega))
        have hj0 : decide ((0 : Int) < ((j + 1 : Nat) : Int)) = true := by simp <;> omega
        by_cases hr : zd < nd
        case neg =>
          have hr' : decide (nd ≤ zd) = true := by simp; omega
          have HS : Hid True := trivial
          have HD : Hid True := trivial
          have hNE := later_some VW; have x0 := XV.out.at 0 rfl; have x1 := XV.out.at 1 rfl; have y0 := XW.out.at 0 rfl; have y1 := XW.out.at 1 rfl; have y2 := XW.out.at 2 rfl; have y3 := XW.out.at 3 rfl; have y4 := XW.out.at 4 rfl
          go_wp2_with fail
          rw [← HVW.out]
          refine wp_region_later VW (by kernel_rfl) (by kernel_rfl) (Below.refl _ _) ?_
          repeat (go_big_quiet_step (first
            | (go_at_call 36; exact Calls.later_same (l1In_is _ _ _ _ _ (by first | exact HS.out | exact HD.out)))))
          refine wpQuiet_nil ?_
          rintro w4 ⟨⟨w5, hb4⟩, hw5⟩
          obtain rfl : w4 = w5 := hw5
          clear x0 x1 y0 y1 y2 y3 y4 hNE p2
          have hB4 : Below w.heap.size w w4 := hBW.trans (hb4.mono hBW.size)
          have X4 := hid (XV.out.later hb4)
          clear hb4
          go_wp2
          go_ret
          exact ⟨ret_bool (by rw [← HX.out, topicB_no (k := j + 1) (by rw [HLM.out]; exact hlt) (by rw [stepB, HE.out, Nat.add_sub_cancel, HP.out]; simp; omega)]), hB4⟩
        have hr' : decide (nd ≤ zd) = false := by simp; omega
        cases hs : (decide (1 ≤ kap) && decide (kap ≤ 20))
        · have HS := hid hs
          have HD := hid hs
          clear hs
          have hNE := later_some VW; have x0 := XV.out.at 0 rfl; have x1 := XV.out.at 1 rfl; have y0 := XW.out.at 0 rfl; have y1 := XW.out.at 1 rfl; have y2 := XW.out.at 2 rfl; have y3 := XW.out.at 3 rfl; have y4 := XW.out.at 4 rfl
          go_wp2_with fail
          rw [← HVW.out]
          refine wp_region_later VW (by kernel_rfl) (by kernel_rfl) (Below.refl _ _) ?_
          repeat (go_big_quiet_step (first
            | (go_at_call 36; exact Calls.later_same (l1In_is _ _ _ _ _ (by first | exact HS.out | exact HD.out)))))
          refine wpQuiet_nil ?_
          rintro w4 ⟨⟨w5, hb4⟩, hw5⟩
          obtain rfl : w4 = w5 := hw5
          clear x0 x1 y0 y1 y2 y3 y4 hNE p2
          have hB4 : Below w.heap.size w w4 := hBW.trans (hb4.mono hBW.size)
          have X4 := hid (XV.out.later hb4)
          clear hb4
          go_wp2
          go_ret
          exact ⟨ret_bool (by rw [← HX.out, topicB_no (k := j + 1) (by rw [HLM.out]; exact hlt) (by rw [stepB, HE.out, show subB (nd, kap, dr, dp, q) = false from by rw [subB]; simp [sizeB, HS.out], Bool.false_and])]), hB4⟩
        have HS := hid hs
        clear hs
        by_cases hq : (q.length : Int) ≤ kap
        case neg =>
          have hq' : decide (kap < (q.length : Int)) = true := by simp; omega
          have HD := hid HS.out
          have HQ := hid hq
          clear hq
          have hNE := later_some VW; have x0 := XV.out.at 0 rfl; have x1 := XV.out.at 1 rfl; have y0 := XW.out.at 0 rfl; have y1 := XW.out.at 1 rfl; have y2 := XW.out.at 2 rfl; have y3 := XW.out.at 3 rfl; have y4 := XW.out.at 4 rfl
          go_wp2_with fail
          rw [← HVW.out]
          refine wp_region_later VW (by kernel_rfl) (by kernel_rfl) (Below.refl _ _) ?_
          repeat (go_big_quiet_step (first
            | (go_at_call 36; exact Calls.later_same (l1In_is _ _ _ _ _ (by first | exact HS.out | exact HD.out)))))
          refine wpQuiet_nil ?_
          rintro w4 ⟨⟨w5, hb4⟩, hw5⟩
          obtain rfl : w4 = w5 := hw5
          clear x0 x1 y0 y1 y2 y3 y4 hNE p2
          have hB4 : Below w.heap.size w w4 := hBW.trans (hb4.mono hBW.size)
          have X4 := hid (XV.out.later hb4)
          clear hb4
          go_wp2
          go_ret
          exact ⟨ret_bool (by rw [← HX.out, topicB_no (k := j + 1) (by rw [HLM.out]; exact hlt) (by rw [stepB, HE.out, show subB (nd, kap, dr, dp, q) = false from by rw [subB]; dsimp only; rw [decide_eq_false (p := ((q.length : Int) ≤ kap)) (by have := HQ.out; omega)]; simp, Bool.false_and])]), hB4⟩
        have hq' : decide (kap < (q.length : Int)) = false := by simp; omega
        have HQ := hid hq
        clear hq
        cases hd : (decide (0 ≤ dp) && decide (dp ≤ 1000000))
        · have HD := hid hd
          clear hd
          have hNE := later_some VW; have x0 := XV.out.at 0 rfl; have x1 := XV.out.at 1 rfl; have y0 := XW.out.at 0 rfl; have y1 := XW.out.at 1 rfl; have y2 := XW.out.at 2 rfl; have y3 := XW.out.at 3 rfl; have y4 := XW.out.at 4 rfl
          go_wp2_with fail
          rw [← HVW.out]
          refine wp_region_later VW (by kernel_rfl) (by kernel_rfl) (Below.refl _ _) ?_
          repeat (go_big_quiet_step (first
            | (go_at_call 36; exact Calls.later_same (l1In_is _ _ _ _ _ (by first | exact HS.out | exact HD.out)))))
          refine wpQuiet_nil ?_
          rintro w4 ⟨⟨w5, hb4⟩, hw5⟩
          obtain rfl : w4 = w5 := hw5
          clear x0 x1 y0 y1 y2 y3 y4 hNE p2
          have hB4 : Below w.heap.size w w4 := hBW.trans (hb4.mono hBW.size)
          have X4 := hid (XV.out.later hb4)
          clear hb4
          go_wp2
          go_ret
          exact ⟨ret_bool (by rw [← HX.out, topicB_no (k := j + 1) (by rw [HLM.out]; exact hlt) (by rw [stepB, HE.out, show subB (nd, kap, dr, dp, q) = false from by have h := HD.out; rw [subB]; cases dr <;> simp at h ⊢ <;> omega, Bool.false_and])]), hB4⟩
        have HD := hid hd
        clear hd
        cases dr
        · by_cases h0 : dp = 0
          · have h0' : (dp != 0) = false := by simpa using h0
            have HSB : Hid (subB (nd, kap, false, dp, q) = true) := by rw [Hid, subB]; simp [sizeB, HQ.out, h0]; simpa using HS.out
            clear h0
            have hNE := later_some VW; have x0 := XV.out.at 0 rfl; have x1 := XV.out.at 1 rfl; have y0 := XW.out.at 0 rfl; have y1 := XW.out.at 1 rfl; have y2 := XW.out.at 2 rfl; have y3 := XW.out.at 3 rfl; have y4 := XW.out.at 4 rfl
            go_wp2_with fail
            rw [← HVW.out]
            refine wp_region_later VW (by kernel_rfl) (by kernel_rfl) (Below.refl _ _) ?_
            repeat (go_big_quiet_step (first
              | (go_at_call 36; exact Calls.later_same (l1In_is _ _ _ _ _ (by first | exact HS.out | exact HD.out)))))
            refine wpQuiet_nil ?_
            rintro w4 ⟨⟨w5, hb4⟩, hw5⟩
            obtain rfl : w4 = w5 := hw5
            clear x0 x1 y0 y1 y2 y3 y4 hNE p2
            have hB4 : Below w.heap.size w w4 := hBW.trans (hb4.mono hBW.size)
            have X4 := hid (XV.out.later hb4)
            clear hb4
            go_wp2
            go_roundw
            case rel => exact ⟨j + 1 + 1, by omega, by go_num, hB4, X4, fun i hi => by
              rcases Nat.lt_succ_iff_lt_or_eq.1 hi with h | e
              · exact hno.out i h
              · rw [e]; rw [stepB, HE.out, HSB.out, Nat.add_sub_cancel, HP.out]; simpa using hr⟩
            case measure => simp [intOf]; omega
          · have h0' : (dp != 0) = true := by simpa using h0
            have HN := hid h0
            clear h0
            have hNE := later_some VW; have x0 := XV.out.at 0 rfl; have x1 := XV.out.at 1 rfl; have y0 := XW.out.at 0 rfl; have y1 := XW.out.at 1 rfl; have y2 := XW.out.at 2 rfl; have y3 := XW.out.at 3 rfl; have y4 := XW.out.at 4 rfl
            go_wp2_with fail
            rw [← HVW.out]
            refine wp_region_later VW (by kernel_rfl) (by kernel_rfl) (Below.refl _ _) ?_
            repeat (go_big_quiet_step (first
              | (go_at_call 36; exact Calls.later_same (l1In_is _ _ _ _ _ (by first | exact HS.out | exact HD.out)))))
            refine wpQuiet_nil ?_
            rintro w4 ⟨⟨w5, hb4⟩, hw5⟩
            obtain rfl : w4 = w5 := hw5
            clear x0 x1 y0 y1 y2 y3 y4 hNE p2
            have hB4 : Below w.heap.size w w4 := hBW.trans (hb4.mono hBW.size)
            have X4 := hid (XV.out.later hb4)
            clear hb4
            go_wp2
            go_ret
            exact ⟨ret_bool (by rw [← HX.out, topicB_no (k := j + 1) (by rw [HLM.out]; exact hlt) (by rw [stepB, HE.out, show subB (nd, kap, false, dp, q) = false from by rw [subB]; simp [HN.out], Bool.false_and])]), hB4⟩
        · have HSB : Hid (subB (nd, kap, true, dp, q) = true) := by have h := HD.out; have h2 := HS.out; rw [Hid, subB]; simp [sizeB, HQ.out] at h h2 ⊢; omega
          have hNE := later_some VW; have x0 := XV.out.at 0 rfl; have x1 := XV.out.at 1 rfl; have y0 := XW.out.at 0 rfl; have y1 := XW.out.at 1 rfl; have y2 := XW.out.at 2 rfl; have y3 := XW.out.at 3 rfl; have y4 := XW.out.at 4 rfl
          go_wp2_with fail
          rw [← HVW.out]
          refine wp_region_later VW (by kernel_rfl) (by kernel_rfl) (Below.refl _ _) ?_
          repeat (go_big_quiet_step (first
            | (go_at_call 36; exact Calls.later_same (l1In_is _ _ _ _ _ (by first | exact HS.out | exact HD.out)))))
          refine wpQuiet_nil ?_
          rintro w4 ⟨⟨w5, hb4⟩, hw5⟩
          obtain rfl : w4 = w5 := hw5
          clear x0 x1 y0 y1 y2 y3 y4 hNE p2
          have hB4 : Below w.heap.size w w4 := hBW.trans (hb4.mono hBW.size)
          have X4 := hid (XV.out.later hb4)
          clear hb4
          go_wp2
          go_roundw
          case rel => exact ⟨j + 1 + 1, by omega, by go_num, hB4, X4, fun i hi => by
            rcases Nat.lt_succ_iff_lt_or_eq.1 hi with h | e
            · exact hno.out i h
            · rw [e]; rw [stepB, HE.out, HSB.out, Nat.add_sub_cancel, HP.out]; simpa using hr⟩
          case measure => simp [intOf]; omega
    · obtain rfl : k = ts.length := by omega
      go_wp2
      go_ret
      exact ⟨ret_bool (by rw [← HX.out, topicB_yes ⟨hs0, hs1⟩ (by rw [HLM.out]; exact h10) (by rw [HLM.out]; exact hno.out)]), hB⟩
end Go.Proofs.Ytimkadnnhfllnaa
