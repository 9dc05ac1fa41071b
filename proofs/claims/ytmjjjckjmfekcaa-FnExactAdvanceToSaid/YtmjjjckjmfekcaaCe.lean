/- The walks of the laws on GoodClock and NextFire: they return true. No conditions but those written. -/
import Derived.Test.YtmjjjckjmfekcaaCb
import Derived.Test.YtmjjjckjmfekcaaCc
import Derived.Test.YtmjjjckjmfekcaaCd
namespace Go.Proofs.Ytmjjjckjmfekcaa
open Go.RowKit

/-- The block p holds the three values. -/
def Box3 (W : World) (p : Nat) (u0 u1 u2 : Value) : Prop := p < W.heap.size ∧ W.cell? ⟨p, 0, none⟩ = some u0 ∧ W.cell? ⟨p, 1, none⟩ = some u1 ∧ W.cell? ⟨p, 2, none⟩ = some u2
theorem Box3.new (w : World) (u0 u1 u2 : Value) (t : TypeId) : Box3 (w.alloc (.cells #[u0, u1, u2] t)) w.heap.size u0 u1 u2 := ⟨by simp, by simp, by simp, by simp⟩
theorem Box3.later {W W' : World} {p : Nat} {u0 u1 u2 : Value} (h : Box3 W p u0 u1 u2) (hb : Below W.heap.size W W') : Box3 W' p u0 u1 u2 :=
  ⟨Nat.lt_of_lt_of_le h.1 hb.size, (hb.cell (p := ⟨p, 0, none⟩) h.1).trans h.2.1, (hb.cell (p := ⟨p, 1, none⟩) h.1).trans h.2.2.1, (hb.cell (p := ⟨p, 2, none⟩) h.1).trans h.2.2.2⟩

/-- NextFire. -/
def nextI (now sq : Int) (ts : List T3) : Int := if goodB now sq ts = true then (t3 ts 0).2.1 else 0
def nextB (now sq : Int) (ts : List T3) : Bool := goodB now sq ts && decide (ts.length ≠ 0)
theorem t3_nil : t3 [] 0 = (0, 0, 0) := rfl

set_option maxHeartbeats 4000000 in
theorem lawGood_any (now sq : Int) (ao : Option Addr) (cap : Nat) (ts : List T3) (w : World) (hl : ts.length ≤ 9223372036854775807) (hz : TimersIn w.heap.size w ao ts) :
    Calls Try.prog 3 #[.agg #[.int .i64 now, .int .i64 sq, .slice ao ts.length cap]] w fun e w' => e = .returned (.bool true) ∧ Below w.heap.size w w' := by
  go_enter Try.func3, Try.ntmps3
  go_wp2_with fail
  refine (szClock_any now sq ao ts.length cap _ hl).mono ?_
  rintro e w1 ⟨⟨r, rfl, hr⟩, hb1⟩
  have A1 := (Box3.new w (.int .i64 now) (.int .i64 sq) (.slice ao ts.length cap) 24).later hb1
  have hB1 := (below1 w (.cells #[.int .i64 now, .int .i64 sq, .slice ao ts.length cap] 24)).trans (hb1.mono (by simp))
  obtain ⟨a1, a10, a11, a12⟩ := id A1
  clear hb1
  rcases hr with hr | ⟨hr0, hr1⟩
  · go_wp2
    go_ret
    exact ⟨rfl, hB1⟩
  · go_wp2_with fail
    refine (toClock_any now sq ao cap ts _ hr1 (hz.later hB1)).mono ?_
    rintro e w2 ⟨t2, rfl, hT2, hb2⟩
    have hB2 := hB1.trans (hb2.mono hB1.size)
    have A2 := A1.later hb2
    obtain ⟨a2, a20, a21, a22⟩ := id A2
    have hT2' := hT2.timers
    clear hb2 hT2 A1 a1 a10 a11 a12
    go_wp2_with fail
    refine (specGood_any now sq (some ⟨t2, 0, none⟩) ts.length ts w2 hr1 (Nat.le_refl _) hT2').mono ?_
    rintro e w3 ⟨rfl, hb3⟩
    have hB3 := hB2.trans (hb3.mono hB2.size)
    have A3 := A2.later hb3
    obtain ⟨a3, a30, a31, a32⟩ := id A3
    clear hb3 hT2' A2 a2 a20 a21 a22
    go_wp2_with fail
    refine (toClock_any now sq ao cap ts _ hr1 (hz.later hB3)).mono ?_
    rintro e w4 ⟨t4, rfl, hT4, hb4⟩
    have hB4 := hB3.trans (hb4.mono hB3.size)
    have A4 := A3.later hb4
    obtain ⟨a4, a40, a41, a42⟩ := id A4
    have hT4' := hT4.timers
    clear hb4 hT4 A3 a3 a30 a31 a32
    generalize hbg : goodB now sq ts = bg at *
    have HBG : Hid (goodB now sq ts = bg) := hbg
    clear hbg
    have hne : (bg != bg) = false := by simp
    go_wp2_with fail
    refine (implGood_any now sq (some ⟨t4, 0, none⟩) ts.length ts _ hr1 (Nat.le_refl _) (hT4'.later (below1 _ _))).mono ?_
    rintro e w5 ⟨rfl, hb5⟩
    rw [HBG.out]
    have hb45 : Below w4.heap.size w4 w5 := (below1 w4 (.cells #[.int .i64 now, .int .i64 sq, .slice (some ⟨t4, 0, none⟩) ts.length ts.length] 29)).trans (hb5.mono (by simp))
    have hB5 := hB4.trans (hb45.mono hB4.size)
    have A5 := A4.later hb45
    obtain ⟨a5, a50, a51, a52⟩ := id A5
    have X5 := (Box3.new w4 (.int .i64 now) (.int .i64 sq) (.slice (some ⟨t4, 0, none⟩) ts.length ts.length) 29).later hb5
    obtain ⟨x5, x50, x51, x52⟩ := id X5
    have hT5 := hT4'.later hb45
    clear hb5 hT4' hb45 A4 a4 a40 a41 a42
    go_wp2
    go_region_with (first
      | (go_at_call 12; refine (toClock_any now sq ao cap ts _ hr1 (by exact hz.later hB5.drew)).mono ?_; rintro e w6 ⟨t6, rfl, hT6, hb6⟩; have X6 : Box3 w6 w4.heap.size (.int .i64 now) (.int .i64 sq) (.slice (some ⟨t4, 0, none⟩) ts.length ts.length) := Box3.later (W := w5.drew) X5 hb6; obtain ⟨x6, x60, x61, x62⟩ := id X6; have hT56 : TimersIn w6.heap.size w6 (some ⟨t4, 0, none⟩) ts := TimersIn.later (W := w5.drew) hT5 hb6; have hB6 : Below w.heap.size w w6 := hB5.drew.trans (hb6.mono hB5.size); have hT6' := hT6.timers; clear hb6 hT6)
      | (go_at_call 14; refine (eqClock_same now sq _ _ ts _ _ _ hr1 (by exact hT56) (by exact hT6')).mono ?_; rintro e w7 ⟨rfl, hb7⟩; have hB7 : Below w.heap.size w w7 := hB6.trans (hb7.mono hB6.size)))
    all_goals go_wp2
    all_goals go_ret
    all_goals exact ⟨rfl, by assumption⟩

set_option maxHeartbeats 1000000 in
theorem specNext_any (now sq : Int) (ao : Option Addr) (cap : Nat) (ts : List T3) (w : World) (hl : ts.length ≤ 1048576) (hcap : ts.length ≤ cap) (hz : TimersIn w.heap.size w ao ts) :
    Calls Try.prog 25 #[.agg #[.int .i64 now, .int .i64 sq, .slice ao ts.length cap]] w fun e w' => e = .returned (.tuple #[.int .i64 (nextI now sq ts), .bool (nextB now sq ts)]) ∧ Below w.heap.size w w' := by
  cases hg : goodB now sq ts
  · have HG : Hid (goodB now sq ts = false) := hg
    have HV : Hid (nextI now sq ts = 0 ∧ nextB now sq ts = false) := by simp [Hid, nextI, nextB, hg]
    clear hg
    go_enter Try.func25, Try.ntmps25
    go_wp2_with fail
    refine (specGood_any now sq ao cap ts _ hl hcap (hz.later (below1 _ _))).mono ?_
    rintro e w1 ⟨rfl, hb1⟩
    rw [HG.out]
    have hB1 := (below1 w (.cells #[.int .i64 now, .int .i64 sq, .slice ao ts.length cap] 29)).trans (hb1.mono (by simp))
    clear hb1
    go_wp2
    refine bodyPost_ret (v := .tuple #[.int .i64 0, .bool false]) (by simp [results, Try.results25, go_sem]) rfl ⟨by rw [HV.out.1, HV.out.2], hB1⟩
  · have HG : Hid (goodB now sq ts = true) := hg
    rcases Nat.eq_zero_or_pos ts.length with h0 | h0
    · obtain rfl : ts = [] := List.length_eq_zero_iff.1 h0
      have HV : Hid (nextI now sq [] = 0 ∧ nextB now sq [] = false) := by simp [Hid, nextI, nextB, t3_nil]
      clear hg h0
      go_enter Try.func25, Try.ntmps25
      go_wp2_with fail
      refine (specGood_any now sq ao cap [] _ hl hcap (hz.later (below1 _ _))).mono ?_
      rintro e w1 ⟨rfl, hb1⟩
      rw [HG.out]
      have X1 := (Box3.new w (.int .i64 now) (.int .i64 sq) (.slice ao 0 cap) 29).later hb1
      have hB1 := (below1 w (.cells #[.int .i64 now, .int .i64 sq, .slice ao 0 cap] 29)).trans (hb1.mono (by simp))
      obtain ⟨x1, x10, x11, x12⟩ := X1
      clear hb1
      go_wp2
      refine bodyPost_ret (v := .tuple #[.int .i64 0, .bool false]) (by simp [results, Try.results25, go_sem]) rfl ⟨by rw [HV.out.1, HV.out.2], hB1⟩
    · have HV : Hid (nextI now sq ts = (t3 ts 0).2.1 ∧ nextB now sq ts = true) := by simp [Hid, nextI, nextB, hg]; intro e; simp [e] at h0
      obtain ⟨b, off, rfl, hb, hc⟩ := hz.pos h0
      have c2 := (hc 0 h0).2.1
      rw [Nat.zero_mul, Nat.add_zero] at c2
      have hne : ((ts.length : Int) == 0) = false := by simp; intro e; simp [e] at h0
      clear hg hc
      go_enter Try.func25, Try.ntmps25
      go_wp2_with fail
      refine (specGood_any now sq _ cap ts _ hl hcap (hz.later (below1 _ _))).mono ?_
      rintro e w1 ⟨rfl, hb1⟩
      rw [HG.out]
      have X1 := (Box3.new w (.int .i64 now) (.int .i64 sq) (.slice (some ⟨b, off, none⟩) ts.length cap) 29).later hb1
      have hB1 := (below1 w (.cells #[.int .i64 now, .int .i64 sq, .slice (some ⟨b, off, none⟩) ts.length cap] 29)).trans (hb1.mono (by simp))
      have d2 := (hB1.cell (p := ⟨b, off + 1, none⟩) hb).trans c2
      obtain ⟨x1, x10, x11, x12⟩ := X1
      have h0i : (0 : Int) < (ts.length : Int) := by omega
      clear hb1
      go_wp2
      refine bodyPost_ret (v := .tuple #[.int .i64 (t3 ts 0).2.1, .bool true]) (by simp [results, Try.results25, go_sem]) rfl ⟨by rw [HV.out.1, HV.out.2], hB1⟩

set_option maxHeartbeats 1000000 in
theorem implNext_any (now sq : Int) (ao : Option Addr) (cap : Nat) (ts : List T3) (w : World) (hl : ts.length ≤ 1048576) (hcap : ts.length ≤ cap) (hz : TimersIn w.heap.size w ao ts) :
    Calls Try.prog 26 #[.agg #[.int .i64 now, .int .i64 sq, .slice ao ts.length cap]] w fun e w' => e = .returned (.tuple #[.int .i64 (nextI now sq ts), .bool (nextB now sq ts)]) ∧ Below w.heap.size w w' := by
  cases hg : goodB now sq ts
  · have HG : Hid (goodB now sq ts = false) := hg
    have HV : Hid (nextI now sq ts = 0 ∧ nextB now sq ts = false) := by simp [Hid, nextI, nextB, hg]
    clear hg
    go_enter Try.func26, Try.ntmps26
    go_wp2_with fail
    refine (implGood_any now sq ao cap ts _ hl hcap (hz.later (below1 _ _))).mono ?_
    rintro e w1 ⟨rfl, hb1⟩
    rw [HG.out]
    have hB1 := (below1 w (.cells #[.int .i64 now, .int .i64 sq, .slice ao ts.length cap] 29)).trans (hb1.mono (by simp))
    clear hb1
    go_wp2
    refine bodyPost_ret (v := .tuple #[.int .i64 0, .bool false]) (by simp [results, Try.results26, go_sem]) rfl ⟨by rw [HV.out.1, HV.out.2], hB1⟩
  · have HG : Hid (goodB now sq ts = true) := hg
    rcases Nat.eq_zero_or_pos ts.length with h0 | h0
    · obtain rfl : ts = [] := List.length_eq_zero_iff.1 h0
      have HV : Hid (nextI now sq [] = 0 ∧ nextB now sq [] = false) := by simp [Hid, nextI, nextB, t3_nil]
      clear hg h0
      go_enter Try.func26, Try.ntmps26
      go_wp2_with fail
      refine (implGood_any now sq ao cap [] _ hl hcap (hz.later (below1 _ _))).mono ?_
      rintro e w1 ⟨rfl, hb1⟩
      rw [HG.out]
      have X1 := (Box3.new w (.int .i64 now) (.int .i64 sq) (.slice ao 0 cap) 29).later hb1
      have hB1 := (below1 w (.cells #[.int .i64 now, .int .i64 sq, .slice ao 0 cap] 29)).trans (hb1.mono (by simp))
      obtain ⟨x1, x10, x11, x12⟩ := X1
      clear hb1
      go_wp2
      refine bodyPost_ret (v := .tuple #[.int .i64 0, .bool false]) (by simp [results, Try.results26, go_sem]) rfl ⟨by rw [HV.out.1, HV.out.2], hB1⟩
    · have HV : Hid (nextI now sq ts = (t3 ts 0).2.1 ∧ nextB now sq ts = true) := by simp [Hid, nextI, nextB, hg]; intro e; simp [e] at h0
      obtain ⟨b, off, rfl, hb, hc⟩ := hz.pos h0
      have c2 := (hc 0 h0).2.1
      rw [Nat.zero_mul, Nat.add_zero] at c2
      have hne : ((ts.length : Int) == 0) = false := by simp; intro e; simp [e] at h0
      clear hg hc
      go_enter Try.func26, Try.ntmps26
      go_wp2_with fail
      refine (implGood_any now sq _ cap ts _ hl hcap (hz.later (below1 _ _))).mono ?_
      rintro e w1 ⟨rfl, hb1⟩
      rw [HG.out]
      have X1 := (Box3.new w (.int .i64 now) (.int .i64 sq) (.slice (some ⟨b, off, none⟩) ts.length cap) 29).later hb1
      have hB1 := (below1 w (.cells #[.int .i64 now, .int .i64 sq, .slice (some ⟨b, off, none⟩) ts.length cap] 29)).trans (hb1.mono (by simp))
      have d2 := (hB1.cell (p := ⟨b, off + 1, none⟩) hb).trans c2
      obtain ⟨x1, x10, x11, x12⟩ := X1
      have h0i : (0 : Int) < (ts.length : Int) := by omega
      clear hb1
      go_wp2
      refine bodyPost_ret (v := .tuple #[.int .i64 (t3 ts 0).2.1, .bool true]) (by simp [results, Try.results26, go_sem]) rfl ⟨by rw [HV.out.1, HV.out.2], hB1⟩

set_option maxHeartbeats 4000000 in
theorem lawNext_any (now sq : Int) (ao : Option Addr) (cap : Nat) (ts : List T3) (w : World) (hl : ts.length ≤ 9223372036854775807) (hz : TimersIn w.heap.size w ao ts) :
    Calls Try.prog 8 #[.agg #[.int .i64 now, .int .i64 sq, .slice ao ts.length cap]] w fun e w' => e = .returned (.bool true) ∧ Below w.heap.size w w' := by
  go_enter Try.func8, Try.ntmps8
  go_wp2_with fail
  refine (szClock_any now sq ao ts.length cap _ hl).mono ?_
  rintro e w1 ⟨⟨r, rfl, hr⟩, hb1⟩
  have A1 := (Box3.new w (.int .i64 now) (.int .i64 sq) (.slice ao ts.length cap) 24).later hb1
  have hB1 := (below1 w (.cells #[.int .i64 now, .int .i64 sq, .slice ao ts.length cap] 24)).trans (hb1.mono (by simp))
  obtain ⟨a1, a10, a11, a12⟩ := id A1
  clear hb1
  rcases hr with hr | ⟨hr0, hr1⟩
  · go_wp2
    go_ret
    exact ⟨rfl, hB1⟩
  · go_wp2_with fail
    refine (toClock_any now sq ao cap ts _ hr1 (hz.later hB1)).mono ?_
    rintro e w2 ⟨t2, rfl, hT2, hb2⟩
    have hB2 := hB1.trans (hb2.mono hB1.size)
    have A2 := A1.later hb2
    obtain ⟨a2, a20, a21, a22⟩ := id A2
    have hT2' := hT2.timers
    clear hb2 hT2 A1 a1 a10 a11 a12
    go_wp2_with fail
    refine (specNext_any now sq (some ⟨t2, 0, none⟩) ts.length ts w2 hr1 (Nat.le_refl _) hT2').mono ?_
    rintro e w3 ⟨rfl, hb3⟩
    have hB3 := hB2.trans (hb3.mono hB2.size)
    have A3 := A2.later hb3
    obtain ⟨a3, a30, a31, a32⟩ := id A3
    clear hb3 hT2' A2 a2 a20 a21 a22
    go_wp2_with fail
    refine (toClock_any now sq ao cap ts _ hr1 (hz.later hB3)).mono ?_
    rintro e w4 ⟨t4, rfl, hT4, hb4⟩
    have hB4 := hB3.trans (hb4.mono hB3.size)
    have A4 := A3.later hb4
    obtain ⟨a4, a40, a41, a42⟩ := id A4
    have hT4' := hT4.timers
    clear hb4 hT4 A3 a3 a30 a31 a32
    generalize hbg : nextB now sq ts = bg at *
    generalize hig : nextI now sq ts = ig at *
    have HBG : Hid (nextB now sq ts = bg ∧ nextI now sq ts = ig) := ⟨hbg, hig⟩
    clear hbg hig
    have hne : (bg != bg) = false := by simp
    have hnei : (ig != ig) = false := by simp
    go_wp2_with fail
    refine (implNext_any now sq (some ⟨t4, 0, none⟩) ts.length ts _ hr1 (Nat.le_refl _) (hT4'.later (below1 _ _))).mono ?_
    rintro e w5 ⟨rfl, hb5⟩
    rw [HBG.out.1, HBG.out.2]
    have hb45 : Below w4.heap.size w4 w5 := (below1 w4 (.cells #[.int .i64 now, .int .i64 sq, .slice (some ⟨t4, 0, none⟩) ts.length ts.length] 29)).trans (hb5.mono (by simp))
    have hB5 := hB4.trans (hb45.mono hB4.size)
    have A5 := A4.later hb45
    obtain ⟨a5, a50, a51, a52⟩ := id A5
    have X5 := (Box3.new w4 (.int .i64 now) (.int .i64 sq) (.slice (some ⟨t4, 0, none⟩) ts.length ts.length) 29).later hb5
    obtain ⟨x5, x50, x51, x52⟩ := id X5
    have hT5 := hT4'.later hb45
    clear hb5 hT4' hb45 A4 a4 a40 a41 a42
    go_wp2
    go_region_with (first
      | (go_at_call 12; refine (toClock_any now sq ao cap ts _ hr1 (by exact hz.later hB5.drew)).mono ?_; rintro e w6 ⟨t6, rfl, hT6, hb6⟩; have X6 : Box3 w6 w4.heap.size (.int .i64 now) (.int .i64 sq) (.slice (some ⟨t4, 0, none⟩) ts.length ts.length) := Box3.later (W := w5.drew) X5 hb6; obtain ⟨x6, x60, x61, x62⟩ := id X6; have hT56 : TimersIn w6.heap.size w6 (some ⟨t4, 0, none⟩) ts := TimersIn.later (W := w5.drew) hT5 hb6; have hB6 : Below w.heap.size w w6 := hB5.drew.trans (hb6.mono hB5.size); have hT6' := hT6.timers; clear hb6 hT6)
      | (go_at_call 14; refine (eqClock_same now sq _ _ ts _ _ _ hr1 (by exact hT56) (by exact hT6')).mono ?_; rintro e w7 ⟨rfl, hb7⟩; have hB7 : Below w.heap.size w w7 := hB6.trans (hb7.mono hB6.size)))
    all_goals go_wp2
    all_goals go_ret
    all_goals exact ⟨rfl, by assumption⟩
end Go.Proofs.Ytmjjjckjmfekcaa
