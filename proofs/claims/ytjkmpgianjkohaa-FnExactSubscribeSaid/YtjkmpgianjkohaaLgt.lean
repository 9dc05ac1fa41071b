
/- The walk of the law of GoodTopic: it returns true. No conditions but those written. -/
import Derived.Test.YtjkmpgianjkohaaTr
import Derived.Test.YtjkmpgianjkohaaTu
import Derived.Test.YtjkmpgianjkohaaTo
namespace Go.Proofs.Ytjkmpgianjkohaa
open Go.RowKit

theorem eqTopic_ts {sd : Int} {g g2 : Nat} {us us2 ts : List LSub} {w : World} (hv : us.map valSub = ts.map valSub) (hv2 : us2.map valSub = ts.map valSub) (hl : ts.length ≤ 1048576) (ht : totSub ts ≤ 1048576) (hz : DIn dSub w.heap.size w (some ⟨g, 0, none⟩) us) (hz2 : DIn dSub w.heap.size w (some ⟨g2, 0, none⟩) us2) :
    Calls Try.prog 10 #[.agg #[.int .i64 sd, .slice (some ⟨g, 0, none⟩) ts.length ts.length], .agg #[.int .i64 sd, .slice (some ⟨g2, 0, none⟩) ts.length ts.length]] w fun e w' => e = .returned (.bool true) ∧ Below w.heap.size w w' := by
  have h := eqTopic_of sd (some ⟨g, 0, none⟩) (some ⟨g2, 0, none⟩) ts.length ts.length us us2 (ts.map valSub) w hv hv2 (by simpa using hl) (by rw [← totSub_P]; exact ht) hz hz2
  rw [List.length_map] at h; exact h
theorem fits_val {ts us : List LSub} (h : totSub ts ≤ 1048576) (hv : us.map valSub = ts.map valSub) : Fits us := fits_of (by rw [tot_ps hv, ← totSub_P]; exact h)
theorem implGood_of (sd : Int) (g n : Nat) (us ts : List LSub) (x : Bool) (w : World) (hn : us.length = n) (hv : us.map valSub = ts.map valSub) (hl : ts.length ≤ 1048576) (ht : totSub ts ≤ 1048576) (hz : DIn dSub w.heap.size w (some ⟨g, 0, none⟩) us) (hx : topicB sd (ts.map valSub) = x) :
    Calls Try.prog 9 #[.agg #[.int .i64 sd, .slice (some ⟨g, 0, none⟩) n n]] w fun e w' => e = .returned (.bool x) ∧ Below w.heap.size w w' := by
  subst hn
  exact implGood_is sd _ _ us w x (by rw [len_val hv]; exact hl) (fits_val ht hv) hz (by rw [hv]; exact hx)
theorem specGood_of (sd : Int) (g n : Nat) (us ts : List LSub) (x : Bool) (w : World) (hn : us.length = n) (hv : us.map valSub = ts.map valSub) (hl : ts.length ≤ 1048576) (ht : totSub ts ≤ 1048576) (hz : DIn dSub w.heap.size w (some ⟨g, 0, none⟩) us) (hx : topicB sd (ts.map valSub) = x) :
    Calls Try.prog 7 #[.agg #[.int .i64 sd, .slice (some ⟨g, 0, none⟩) n n]] w fun e w' => e = .returned (.bool x) ∧ Below w.heap.size w w' := by
  subst hn
  exact specGood_is sd _ _ us w x (by rw [len_val hv]; exact hl) (fits_val ht hv) hz (by rw [hv]; exact hx)
set_option maxRecDepth 100000 in
set_option maxHeartbeats 16000000 in
theorem lawGood_any (sd : Int) (ao : Option Addr) (cap : Nat) (ts : List LSub) (w : World) (hl : ts.length ≤ 9223372036854775807) (hle : ∀ a ∈ ts, (a.2.2.2.2).2.2.length ≤ 9223372036854775807) (hz : DIn dSub w.heap.size w ao ts) :
    Calls Try.prog 3 #[.agg #[.int .i64 sd, .slice ao ts.length cap]] w fun e w' => e = .returned (.bool true) ∧ Below w.heap.size w w' := by
  have HZ := hid hz
  have HLE := hid hle
  clear hz hle
  obtain ⟨x, hx⟩ : ∃ x, topicB sd (ts.map valSub) = x := ⟨_, rfl⟩
  have HX := hid hx
  have hne : (x != x) = false := by simp
  clear hx
  go_enter Try.func3, Try.ntmps3
  go_wp2_with fail
  have hn0 := below1 w (.cells #[.int .i64 sd, .slice ao ts.length cap] 24)
  refine (szTopic_le sd ao cap ts _ hl HLE.out (by exact HZ.out.later dSub_ok hn0)).mono ?_
  rintro e w1 ⟨⟨z, rfl, hz1', hr⟩, hb1⟩
  have A1 := hid ((Bx.new (w := w) (p := w.heap.size) [.int .i64 sd, .slice ao ts.length cap] 24 rfl).later hb1)
  have hB1 := hn0.trans (hb1.mono (by simp))
  have hz1 := hB1.size
  have hA1 := A1.out.size
  clear hb1 hn0
  rcases hr with hr | ⟨hr0, hl2, htt⟩
  · go_wp2
    go_ret
    exact ⟨rfl, hB1⟩
  have HTT := hid htt
  have hz0' : decide (z < 0) = false := by simpa using hr0
  clear htt
  have a_0 := A1.out.c 0 rfl
  have a_1 := A1.out.c 1 rfl
  go_wp2_with fail
  clear a_0 a_1
  refine (toTopic_any sd ao cap ts w1 hl2 (fits_of HTT.out) (HZ.out.later dSub_ok hB1)).mono ?_
  rintro e w2 ⟨g2, us2, rfl, hv, hF, hb2⟩
  have HV2 := hid hv
  have HL2 := hid (len_val hv)
  have hB2 := hB1.trans (hb2.mono hB1.size)
  have hz2 : w1.heap.size ≤ w2.heap.size := hb2.size
  have A2 := hid (A1.out.later hb2)
  have X22 := hid (FrH.of hF)
  clear A1 hb2
  clear hF hv
  go_wp2_with fail
  refine (specGood_of sd g2 ts.length us2 ts x w2 HL2.out HV2.out hl2 HTT.out X22.out.in HX.out).mono ?_
  rintro e w3 ⟨rfl, hb3⟩
  have hB3 := hB2.trans (hb3.mono hB2.size)
  have hz3 : w2.heap.size ≤ w3.heap.size := hb3.size
  have A3 := hid (A2.out.later hb3)
  have X23 := hid (X22.out.later hb3)
  clear A2 X22 hb3
  clear X23
  have a_0 := A3.out.c 0 rfl
  have a_1 := A3.out.c 1 rfl
  go_wp2_with fail
  clear a_0 a_1
  refine (toTopic_any sd ao cap ts w3 hl2 (fits_of HTT.out) (HZ.out.later dSub_ok hB3)).mono ?_
  rintro e w4 ⟨g5, us5, rfl, hv, hF, hb4⟩
  have HV5 := hid hv
  have HL5 := hid (len_val hv)
  have hB4 := hB3.trans (hb4.mono hB3.size)
  have hz4 : w3.heap.size ≤ w4.heap.size := hb4.size
  have A4 := hid (A3.out.later hb4)
  have X54 := hid (FrH.of hF)
  clear A3 hb4
  clear hF hv
  obtain ⟨w5, hwn⟩ : ∃ V, V = w4.alloc (.cells #[.int .i64 sd, .slice (some ⟨g5, 0, none⟩) ts.length ts.length] 29) := ⟨_, rfl⟩
  have hb5 : Below w4.heap.size w4 w5 := by rw [hwn]; exact below1 _ _
  have hB5 := hB4.trans (hb5.mono hB4.size)
  have hz5 : w4.heap.size ≤ w5.heap.size := hb5.size
  have A5 := hid (A4.out.later hb5)
  have X55 := hid (X54.out.later hb5)
  have P5 : Hid (Bx w5 w4.heap.size [.int .i64 sd, .slice (some ⟨g5, 0, none⟩) ts.length ts.length]) := by rw [hwn]; exact Bx.new [.int .i64 sd, .slice (some ⟨g5, 0, none⟩) ts.length ts.length] _ rfl
  have hy5 : w4.heap.size < w5.heap.size := P5.out.size
  have HA5 := hid hwn
  clear hwn A4 X54 hb5
  go_wp2_with fail
  rw [← HA5.out]
  refine (implGood_of sd g5 ts.length us5 ts x w5 HL5.out HV5.out hl2 HTT.out X55.out.in HX.out).mono ?_
  rintro e w6 ⟨rfl, hb6⟩
  have hB6 := hB5.trans (hb6.mono hB5.size)
  have hz6 : w5.heap.size ≤ w6.heap.size := hb6.size
  have A6 := hid (A5.out.later hb6)
  have X56 := hid (X55.out.later hb6)
  have P6 := hid (P5.out.later hb6)
  clear A5 X55 P5 hb6
  have a_0 := A6.out.c 0 rfl
  have a_1 := A6.out.c 1 rfl
  have p_0 := P6.out.c 0 rfl
  have p_1 := P6.out.c 1 rfl
  go_wp2
  go_region_with (first
    | (go_at_call 8; refine (toTopic_any sd ao cap ts _ hl2 (fits_of HTT.out) (by exact HZ.out.later dSub_ok hB6.drew)).mono ?_; rintro e wy ⟨gy, usy, rfl, hvy, hFy, hby⟩; have hbo : Below w6.heap.size w6 wy := (Below.refl w6.heap.size w6).drew.trans hby; have By : Bx wy w4.heap.size [.int .i64 sd, .slice (some ⟨g5, 0, none⟩) ts.length ts.length] := P6.out.later hbo; have y0 := By.c 0 rfl; have y1 := By.c 1 rfl; have Fy : Hid (usy.map valSub = ts.map valSub ∧ DIn dSub wy.heap.size wy (some ⟨g5, 0, none⟩) us5 ∧ DIn dSub wy.heap.size wy (some ⟨gy, 0, none⟩) usy) := ⟨hvy, (X56.out.later hbo).in, hFy.in dSub_ok⟩; clear hby hFy hvy)
    | (go_at_call 10; refine (eqTopic_ts (us := us5) (us2 := usy) HV5.out Fy.out.1 hl2 HTT.out (by exact Fy.out.2.1) (by exact Fy.out.2.2)).mono ?_; rintro e w7 ⟨rfl, hbz⟩; have hbq : Below w6.heap.size w6 w7 := hbo.trans (hbz.mono hbo.size); have hB7 : Below w.heap.size w w7 := hB6.trans (hbq.mono hB6.size); have hz7 : w6.heap.size ≤ w7.heap.size := hbq.size; have A7 := hid (A6.out.later hbq); have X57 := hid (X56.out.later hbq); have P7 := hid (P6.out.later hbq); clear hbz hbq))
  all_goals
    clear a_0 a_1 p_0 p_1 y0 y1 By Fy hbo A6 X56 P6
    go_wp2
    go_ret
    exact ⟨rfl, hB7⟩
end Go.Proofs.Ytjkmpgianjkohaa
