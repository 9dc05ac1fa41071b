
/- The walk of the law: it returns true. No conditions but those written. -/
import Derived.Test.YtlnjhajdbofhlaaKi
import Derived.Test.YtlnjhajdbofhlaaKb
namespace Go.Proofs.Ytlnjhajdbofhlaa
open Go.RowKit

theorem tot_val {ts us : List LChan} (hv : us.map valChan = ts.map valChan) : totChan us = totChan ts := by
  have h : ∀ l : List LChan, totChan l = ((l.map valChan).map fun a : PChan => a.2.2.1.length + a.2.2.2.1.length + a.2.2.2.2.length).sum := by
    intro l
    unfold totChan
    rw [List.map_map]
    rfl
  rw [h, h, hv]
theorem len_val {ts us : List LChan} (hv : us.map valChan = ts.map valChan) : us.length = ts.length := by have := congrArg List.length hv; simpa using this
theorem eqHub_len {us vs : List LChan} {n c c' : Nat} {ao bo : Option Addr} {w : World} {Q : Ending → World → Prop} (h1 : us.length = n) (h2 : vs.length = n) (h : Calls Try.prog 30 #[.agg #[.slice ao us.length c], .agg #[.slice bo vs.length c']] w Q) : Calls Try.prog 30 #[.agg #[.slice ao n c], .agg #[.slice bo n c']] w Q := by
  rw [h1, h2] at h; exact h
set_option maxRecDepth 100000 in
set_option maxHeartbeats 8000000 in
theorem lawGoodHub_any (ao : Option Addr) (cap : Nat) (ts : List LChan) (w : World) (hl : ts.length ≤ 9223372036854775807) (hle : ∀ a ∈ ts, (a.2.2.1).2.2.length ≤ 9223372036854775807 ∧ (a.2.2.2.1).2.2.length ≤ 9223372036854775807 ∧ (a.2.2.2.2).2.2.length ≤ 9223372036854775807) (hz : DIn dChan w.heap.size w ao ts) :
    Calls Try.prog 6 #[.agg #[.slice ao ts.length cap]] w fun e w' => e = .returned (.bool true) ∧ Below w.heap.size w w' := by
  obtain ⟨x, hx⟩ : ∃ x, goodHB (ts.map valChan) = x := ⟨_, rfl⟩
  have HX : Hid (goodHB (ts.map valChan) = x) := hx
  have hne : (x != x) = false := by simp
  have HZ := hid hz
  have HLE := hid hle
  clear hx hz hle
  go_enter Try.func6, Try.ntmps6
  go_wp2_with fail
  have hn0 := below1 w (.cells #[.slice ao ts.length cap] 51)
  refine (szHub_any ao cap ts _ hl HLE.out (by exact HZ.out.later dChan_ok hn0)).mono ?_
  rintro e w1 ⟨⟨z, rfl, hr⟩, hb1⟩
  have A1 := hid ((Bx.new (w := w) (p := w.heap.size) [.slice ao ts.length cap] 51 rfl).later hb1)
  have hB1 := hn0.trans (hb1.mono (by simp))
  clear hb1 hn0
  rcases hr with hr | ⟨hr0, hl2, htt⟩
  · go_wp2
    go_ret
    exact ⟨rfl, hB1⟩
  have HTT := hid htt
  clear htt
  have a0 := A1.out.c 0 rfl
  go_wp2_with fail
  refine (toHub_any ao cap ts _ hl2 (fits_of HTT.out) (HZ.out.later dChan_ok hB1)).mono ?_
  rintro e w2 ⟨g2, us2, rfl, hv2, hF2, hb2⟩
  have hB2 := hB1.trans (hb2.mono hB1.size)
  have Z2 := hid (hF2.in dChan_ok)
  have hl2' := len_val hv2
  clear a0
  have A2 := hid (A1.out.later hb2)
  clear A1 hb2 hF2
  go_wp2_with fail
  rw [← hl2']
  refine (specGoodH_is (some ⟨g2, 0, none⟩) us2.length us2 w2 x (by omega) (by rw [tot_val hv2]; exact HTT.out) Z2.out (by rw [hv2]; exact HX.out)).mono ?_
  rintro e w3 ⟨rfl, hb3⟩
  rw [hl2']
  have hB3 := hB2.trans (hb3.mono hB2.size)
  have A3 := hid (A2.out.later hb3)
  clear A2 hb3 Z2 hv2 hl2'
  have a0 := A3.out.c 0 rfl
  go_wp2_with fail
  refine (toHub_any ao cap ts _ hl2 (fits_of HTT.out) (HZ.out.later dChan_ok hB3)).mono ?_
  rintro e w4 ⟨g4, us4, rfl, hv4, hF4, hb4⟩
  have hB4 := hB3.trans (hb4.mono hB3.size)
  have X4 := hid (hF4.in dChan_ok)
  have hl4 := len_val hv4
  have HV4 := hid hv4
  clear a0 hv4
  have A4 := hid (A3.out.later hb4)
  clear A3 hb4 hF4
  have hn4 := below1 w4 (.cells #[.slice (some ⟨g4, 0, none⟩) ts.length ts.length] 56)
  have hC4 : Below w.heap.size w (w4.alloc (.cells #[.slice (some ⟨g4, 0, none⟩) ts.length ts.length] 56)) := hB4.trans (hn4.mono hB4.size)
  have Y4 := hid (X4.out.later dChan_ok hn4)
  have D4 := hid (A4.out.later hn4)
  have E4 : Hid (Bx (w4.alloc (.cells #[.slice (some ⟨g4, 0, none⟩) ts.length ts.length] 56)) w4.heap.size [.slice (some ⟨g4, 0, none⟩) ts.length ts.length]) := Bx.new [.slice (some ⟨g4, 0, none⟩) ts.length ts.length] _ rfl
  clear hn4 X4 A4
  have HL4 := hid hl4
  clear hl4
  have hI4 := implGoodH_is (some ⟨g4, 0, none⟩) ts.length us4 (w4.alloc (.cells #[.slice (some ⟨g4, 0, none⟩) ts.length ts.length] 56)) x (by rw [HL4.out]; exact hl2) (by rw [tot_val HV4.out]; exact HTT.out) Y4.out (by rw [HV4.out]; exact HX.out)
  rw [HL4.out] at hI4
  go_wp2_with fail
  refine hI4.mono ?_
  rintro e w5 ⟨rfl, hb5⟩
  have hB5 := hC4.trans (hb5.mono hC4.size)
  have X5 := hid (Y4.out.later dChan_ok hb5)
  have A5 := hid (D4.out.later hb5)
  have B5 := hid (E4.out.later hb5)
  clear D4 E4 Y4 hb5 hI4
  have a0 := A5.out.c 0 rfl
  have x0 := B5.out.c 0 rfl
  go_wp2
  go_region_with (first
    | (go_at_call 28; refine (toHub_any ao cap ts _ hl2 (fits_of HTT.out) (by exact HZ.out.later dChan_ok hB5.drew)).mono ?_; rintro e w7 ⟨g7, us7, rfl, hv7, hF7, hb7⟩; have hb67 : Below w5.heap.size w5 w7 := (Below.refl w5.heap.size w5).drew.trans hb7; have B7 : Bx w7 w4.heap.size [.slice (some ⟨g4, 0, none⟩) ts.length ts.length] := B5.out.later hb67; have y0 := B7.c 0 rfl; have F7 : Hid (us7.map valChan = ts.map valChan ∧ DIn dChan w7.heap.size w7 (some ⟨g4, 0, none⟩) us4 ∧ DIn dChan w7.heap.size w7 (some ⟨g7, 0, none⟩) us7) := ⟨hv7, X5.out.later dChan_ok hb67, hF7.in dChan_ok⟩; clear hb7 hF7 hv7)
    | (go_at_call 30; refine (eqHub_len HL4.out (len_val F7.out.1) (eqHub_same (some ⟨g4, 0, none⟩) (some ⟨g7, 0, none⟩) ts.length ts.length us4 us7 _ (by rw [HL4.out]; exact hl2) (fits_val (fits_of HTT.out) HV4.out) (HV4.out.trans F7.out.1.symm) (by exact F7.out.2.1) (by exact F7.out.2.2))).mono ?_; rintro e w8 ⟨rfl, hb8⟩; have hB8 : Below w.heap.size w w8 := hB5.trans ((hb67.trans (hb8.mono hb67.size)).mono hB5.size); clear hb8))
  all_goals go_wp2
  all_goals go_ret
  all_goals exact ⟨rfl, hB8⟩
end Go.Proofs.Ytlnjhajdbofhlaa
