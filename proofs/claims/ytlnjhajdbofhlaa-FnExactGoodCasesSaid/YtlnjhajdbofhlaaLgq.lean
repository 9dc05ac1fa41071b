
/- The walk of the law: it returns true. No conditions but those written. -/
import Derived.Test.YtlnjhajdbofhlaaKv
namespace Go.Proofs.Ytlnjhajdbofhlaa
open Go.RowKit

set_option maxRecDepth 100000 in
set_option maxHeartbeats 16000000 in
theorem lawGoodCases_any (ao : Option Addr) (cap : Nat) (ts : List LChan) (qo : Option Addr) (qc : Nat) (l : List (Int × Bool × Int)) (w : World) (hl : ts.length ≤ 9223372036854775807) (hle : ∀ a ∈ ts, (a.2.2.1).2.2.length ≤ 9223372036854775807 ∧ (a.2.2.2.1).2.2.length ≤ 9223372036854775807 ∧ (a.2.2.2.2).2.2.length ≤ 9223372036854775807) (hz : DIn dChan w.heap.size w ao ts) (hq : l.length ≤ 9223372036854775807) (hzq : kQ.In w.heap.size w qo l) :
    Calls Try.prog 7 #[.agg #[.slice ao ts.length cap], .slice qo l.length qc] w fun e w' => e = .returned (.bool true) ∧ Below w.heap.size w w' := by
  obtain ⟨x, hx⟩ : ∃ x, goodQB (ts.map valChan) l = x := ⟨_, rfl⟩
  have HX := hid hx
  have hne : (x != x) = false := by simp
  have HZ := hid hz
  have HQ := hid hzq
  have HLE := hid hle
  clear hx hz hle hzq
  go_enter Try.func7, Try.ntmps7
  go_wp2_with fail
  have hn0 := below1 w (.cells #[.slice ao ts.length cap] 51)
  refine (szHub_le ao cap ts _ hl HLE.out (by exact HZ.out.later dChan_ok hn0)).mono ?_
  rintro e w1 ⟨⟨z, rfl, hz1, hr⟩, hb1⟩
  have A1 := hid ((Bx.new (w := w) (p := w.heap.size) [.slice ao ts.length cap] 51 rfl).later hb1)
  have hB1 := hn0.trans (hb1.mono (by simp))
  clear hb1 hn0
  rcases hr with hr | ⟨hr0, hl2, htt⟩
  · go_wp2
    go_ret
    exact ⟨rfl, hB1⟩
  have HTT := hid htt
  have hz0' : decide (z < 0) = false := by simpa using hr0
  clear htt
  go_wp2_with fail
  refine (szCaseS_any qo l.length qc z _ hr0 hz1 hq).mono ?_
  rintro e wz ⟨⟨r, rfl, hr1, hr2⟩, hwz⟩
  rw [hwz]; clear hwz wz
  rcases hr2 with hr2 | ⟨hr2, hr3⟩
  · go_wp2
    go_ret
    exact ⟨rfl, hB1⟩
  have hq1 : l.length ≤ 1048576 := by omega
  have hr3' : decide (r < 0) = false := by simpa using hr3
  clear hr2 hr3
  have a0 := A1.out.c 0 rfl
  go_wp2_with fail
  refine (toHub_any ao cap ts _ hl2 (fits_of HTT.out) (HZ.out.later dChan_ok hB1)).mono ?_
  rintro e w2 ⟨g2, us2, rfl, hv2, hF2, hb2⟩
  have hB2 := hB1.trans (hb2.mono hB1.size)
  have Z2 := hid (hF2.in dChan_ok)
  have HV2 := hid hv2
  have HL2 := hid (len_val hv2)
  clear a0 hv2
  have A2 := hid (A1.out.later hb2)
  clear A1 hb2 hF2
  go_wp2_with fail
  refine (toCaseS_any qo qc l _ hq1 (HQ.out.later hB2)).mono ?_
  rintro e w3 ⟨rfl, hF3, hb3⟩
  have hB3 := hB2.trans (hb3.mono hB2.size)
  have Q3 := hid hF3.in
  have Z3 := hid (Z2.out.later dChan_ok hb3)
  have A3 := hid (A2.out.later hb3)
  have h24 := specGoodQ_is (some ⟨g2, 0, none⟩) ts.length us2 (some ⟨w2.heap.size, 0, none⟩) l.length l w3 x (by rw [HL2.out]; exact hl2) (by rw [tot_val HV2.out]; exact HTT.out) hq1 (Nat.le_refl _) Z3.out Q3.out (by rw [HV2.out]; exact HX.out)
  rw [HL2.out] at h24
  clear A2 hb3 hF3 Z2
  go_wp2_with fail
  refine h24.mono ?_
  rintro e w4 ⟨rfl, hb4⟩
  have hB4 := hB3.trans (hb4.mono hB3.size)
  have A4 := hid (A3.out.later hb4)
  clear A3 hb4 Z3 Q3 h24 HL2 HV2
  have a0 := A4.out.c 0 rfl
  go_wp2_with fail
  refine (toHub_any ao cap ts _ hl2 (fits_of HTT.out) (HZ.out.later dChan_ok hB4)).mono ?_
  rintro e w5 ⟨g5, us5, rfl, hv5, hF5, hb5⟩
  have hB5 := hB4.trans (hb5.mono hB4.size)
  have X5 := hid (hF5.in dChan_ok)
  have HL5 := hid (len_val hv5)
  have HV5 := hid hv5
  clear a0 hv5
  have A5 := hid (A4.out.later hb5)
  clear A4 hb5 hF5
  have hn5 := below1 w5 (.cells #[.slice (some ⟨g5, 0, none⟩) ts.length ts.length] 56)
  have hC5 : Below w.heap.size w (w5.alloc (.cells #[.slice (some ⟨g5, 0, none⟩) ts.length ts.length] 56)) := hB5.trans (hn5.mono hB5.size)
  have X5' := hid (X5.out.later dChan_ok hn5)
  have A5' := hid (A5.out.later hn5)
  have B5' : Hid (Bx (w5.alloc (.cells #[.slice (some ⟨g5, 0, none⟩) ts.length ts.length] 56)) w5.heap.size [.slice (some ⟨g5, 0, none⟩) ts.length ts.length]) := Bx.new [.slice (some ⟨g5, 0, none⟩) ts.length ts.length] _ rfl
  clear hn5 X5 A5
  go_wp2_with fail
  refine (toCaseS_any qo qc l _ hq1 (HQ.out.later hC5)).mono ?_
  rintro e w6 ⟨rfl, hF6, hb6⟩
  generalize hgg : (some ⟨(w5.alloc (.cells #[.slice (some ⟨g5, 0, none⟩) ts.length ts.length] 56)).heap.size, 0, none⟩ : Option Addr) = ad6 at hF6 ⊢
  have hB6 := hC5.trans (hb6.mono hC5.size)
  have Q6 := hid hF6.in
  have X6 := hid (X5'.out.later dChan_ok hb6)
  have A6 := hid (A5'.out.later hb6)
  have B6 := hid (B5'.out.later hb6)
  clear hgg hb6 hF6 X5' A5' B5' hC5
  have b0 := B6.out.c 0 rfl
  have h31 := implGoodQ_is (some ⟨g5, 0, none⟩) ts.length us5 ad6 l.length l w6 x (by rw [HL5.out]; exact hl2) (by rw [tot_val HV5.out]; exact HTT.out) hq1 (Nat.le_refl _) X6.out Q6.out (by rw [HV5.out]; exact HX.out)
  rw [HL5.out] at h31
  go_wp2_with fail
  refine h31.mono ?_
  rintro e w7 ⟨rfl, hb7⟩
  have hB7 := hB6.trans (hb7.mono hB6.size)
  have X7 := hid (X6.out.later dChan_ok hb7)
  have A7 := hid (A6.out.later hb7)
  have B7 := hid (B6.out.later hb7)
  have Q7 := hid (Q6.out.later hb7)
  clear b0 A6 B6 X6 Q6 hb7 h31
  have a0 := A7.out.c 0 rfl
  have x0 := B7.out.c 0 rfl
  go_wp2
  go_region_with (first
    | (go_at_call 28; refine (toHub_any ao cap ts _ hl2 (fits_of HTT.out) (by exact HZ.out.later dChan_ok hB7.drew)).mono ?_; rintro e w8 ⟨g8, us8, rfl, hv8, hF8, hb8⟩; have hb78 : Below w7.heap.size w7 w8 := (Below.refl w7.heap.size w7).drew.trans hb8; have B8 : Bx w8 w5.heap.size [.slice (some ⟨g5, 0, none⟩) ts.length ts.length] := B7.out.later hb78; have y0 := B8.c 0 rfl; have F8 : Hid (us8.map valChan = ts.map valChan ∧ DIn dChan w8.heap.size w8 (some ⟨g5, 0, none⟩) us5 ∧ DIn dChan w8.heap.size w8 (some ⟨g8, 0, none⟩) us8) := ⟨hv8, X7.out.later dChan_ok hb78, hF8.in dChan_ok⟩; clear hb8 hF8 hv8)
    | (go_at_call 30; refine (eqHub_len HL5.out (len_val F8.out.1) (eqHub_same (some ⟨g5, 0, none⟩) (some ⟨g8, 0, none⟩) ts.length ts.length us5 us8 _ (by rw [HL5.out]; exact hl2) (fits_val (fits_of HTT.out) HV5.out) (HV5.out.trans F8.out.1.symm) (by exact F8.out.2.1) (by exact F8.out.2.2))).mono ?_; rintro e w9 ⟨rfl, hb9⟩; have hb79 : Below w7.heap.size w7 w9 := hb78.trans (hb9.mono hb78.size); have hB9 : Below w.heap.size w w9 := hB7.trans (hb79.mono hB7.size); have Q9 := hid (Q7.out.later hb79); clear hb9 hb79))
  all_goals
    go_wp2_with fail
    refine (toCaseS_any qo qc l _ hq1 (HQ.out.later hB9)).mono ?_
    rintro e w10 ⟨rfl, hF10, hb10⟩
    have hB10 := hB9.trans (hb10.mono hB9.size)
    have Q10 := hid hF10.in
    have Q10' := hid (Q9.out.later hb10)
    clear hb10 hF10
    go_wp2_with fail
    refine (eqCaseS_same ad6 _ l.length l.length l _ hq1 Q10'.out Q10.out).mono ?_
    rintro e w11 ⟨rfl, hb11⟩
    have hB11 := hB10.trans (hb11.mono hB10.size)
    clear hb11
    go_wp2
    go_ret
    exact ⟨rfl, hB11⟩
end Go.Proofs.Ytlnjhajdbofhlaa
