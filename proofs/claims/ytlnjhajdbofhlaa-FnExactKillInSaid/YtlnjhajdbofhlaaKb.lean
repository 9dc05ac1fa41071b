
/- Hubs: sizes, copies, comparisons; channels that are good. No conditions but those written. -/
import Derived.Test.YtlnjhajdbofhlaaKh
import Derived.Test.YtlnjhajdbofhlaaOBb
namespace Go.Proofs.Ytlnjhajdbofhlaa
open Go.RowKit

theorem t3_el (ts : List (Int × Int × Int)) (j : Nat) : Old.t3 ts j = el ts j := rfl
theorem timers_of {n : Nat} {W : World} {ao : Option Addr} {ts : List (Int × Int × Int)} (h : kW.In n W ao ts) : Old.TimersIn n W ao ts := by
  rcases h with h | ⟨b, off, e, hb, hc⟩
  · exact .inl h
  · refine .inr ⟨b, off, e, hb, fun j hj => ?_⟩
    rw [t3_el]
    exact ⟨hc j hj 0 (by decide), hc j hj 1 (by decide), hc j hj 2 (by decide)⟩
/-- A channel is good. -/
def goodP (c : PChan) : Bool := Old.goodC c.1 c.2.1 c.2.2.1 c.2.2.2.1 c.2.2.2.2
theorem implGoodC_is (kap : Int) (cl : Bool) (bo : Option Addr) (bc : Nat) (b : List Int) (so : Option Addr) (sc : Nat) (s : List (Int × Int × Int)) (ro : Option Addr) (rc : Nat) (r : List (Int × Int × Int)) (w : World) (x : Bool) (hlb : b.length ≤ 1048576) (hls : s.length ≤ 1048576) (hlr : r.length ≤ 1048576) (hz : InChan w.heap.size w bo b so s ro r) (hx : goodP (kap, cl, b, s, r) = x) :
    Calls Try.prog 53 #[.agg #[.int .i64 kap, .bool cl, .slice bo b.length bc, .slice so s.length sc, .slice ro r.length rc]] w fun e w' => e = .returned (.bool x) ∧ Below w.heap.size w w' :=
  Old.implGood_is kap cl bo bc b so sc s ro rc r w x (by omega) (by omega) (by omega) (timers_of hz.2.1) (timers_of hz.2.2) hx
theorem specGoodC_is (kap : Int) (cl : Bool) (bo : Option Addr) (bc : Nat) (b : List Int) (so : Option Addr) (sc : Nat) (s : List (Int × Int × Int)) (ro : Option Addr) (rc : Nat) (r : List (Int × Int × Int)) (w : World) (x : Bool) (hlb : b.length ≤ 1048576) (hls : s.length ≤ 1048576) (hlr : r.length ≤ 1048576) (hz : InChan w.heap.size w bo b so s ro r) (hx : goodP (kap, cl, b, s, r) = x) :
    Calls Try.prog 62 #[.agg #[.int .i64 kap, .bool cl, .slice bo b.length bc, .slice so s.length sc, .slice ro r.length rc]] w fun e w' => e = .returned (.bool x) ∧ Below w.heap.size w w' :=
  Old.specGood_is kap cl bo bc b so sc s ro rc r w x (by omega) (by omega) (by omega) (timers_of hz.2.1) (timers_of hz.2.2) hx
/-- Rows that are not too long. -/
def Fits (ts : List LChan) : Prop := ∀ a ∈ ts, (a.2.2.1).2.2.length ≤ 1048576 ∧ (a.2.2.2.1).2.2.length ≤ 1048576 ∧ (a.2.2.2.2).2.2.length ≤ 1048576
theorem fits_of {ts : List LChan} (h : totChan ts ≤ 1048576) : Fits ts := by
  intro a ha
  obtain ⟨j, hj, rfl⟩ := mem_el ha
  have := totChan_el hj
  unfold sizeChan at this
  omega
theorem fits_val {ts us : List LChan} (h : Fits ts) (hv : us.map valChan = ts.map valChan) : Fits us := by
  intro a ha
  obtain ⟨j, hj, rfl⟩ := mem_el ha
  have hl : us.length = ts.length := by have := congrArg List.length hv; simpa using this
  have hvk : valChan (el us j) = valChan (el ts j) := by
    have := congrArg (fun l => el l j) hv
    simpa [el, hj, show j < ts.length from by omega] using this
  have h1 := h _ (el_mem (show j < ts.length from by omega))
  simp only [valChan, Prod.mk.injEq] at hvk
  obtain ⟨_, _, e1, e2, e3⟩ := hvk
  rw [e1, e2, e3]; exact h1
set_option maxHeartbeats 2000000 in
theorem szHub_any (ao : Option Addr) (cap : Nat) (ts : List LChan) (w : World) (hl : ts.length ≤ 9223372036854775807) (hle : ∀ a ∈ ts, (a.2.2.1).2.2.length ≤ 9223372036854775807 ∧ (a.2.2.2.1).2.2.length ≤ 9223372036854775807 ∧ (a.2.2.2.2).2.2.length ≤ 9223372036854775807) (hz : DIn dChan w.heap.size w ao ts) :
    Calls Try.prog 26 #[.agg #[.slice ao ts.length cap], .int .i64 1048576] w fun e w' => (∃ z : Int, e = .returned (.int .i64 z) ∧ ((z < 0) ∨ (0 ≤ z ∧ ts.length ≤ 1048576 ∧ totChan ts ≤ 1048576))) ∧ Below w.heap.size w w' := by
  have hB0 := below1 w (.cells #[.slice ao ts.length cap] 51)
  have HZ := hid (hz.later dChan_ok hB0)
  clear hz
  go_enter Try.func26, Try.ntmps26
  go_wp2_with fail
  refine (szChanS_any ao cap ts 1048576 _ (by omega) (by omega) hl hle HZ.out.1).mono ?_
  rintro e w1 ⟨⟨z, rfl, hr, hs⟩, hb1⟩
  have hB1 := hB0.trans (hb1.mono hB0.size)
  clear hb1
  by_cases h0 : z < 0
  · go_wp2
    go_ret
    exact ⟨⟨_, rfl, by omega⟩, hB1⟩
  · go_wp2
    go_ret
    exact ⟨⟨_, rfl, by omega⟩, hB1⟩
set_option maxHeartbeats 2000000 in
theorem toHub_any (ao : Option Addr) (cap : Nat) (ts : List LChan) (w : World) (hl : ts.length ≤ 1048576) (hf : Fits ts) (hz : DIn dChan w.heap.size w ao ts) :
    Calls Try.prog 28 #[.agg #[.slice ao ts.length cap]] w fun e w' => ∃ g us, e = .returned (.agg #[.slice (some ⟨g, 0, none⟩) ts.length ts.length]) ∧ us.map valChan = ts.map valChan ∧ DFr dChan w.heap.size w'.heap.size w' (some ⟨g, 0, none⟩) ts.length us ∧ Below w.heap.size w w' := by
  obtain ⟨w0, hw0⟩ : ∃ w0, w0 = ((w.alloc (.cells #[.slice ao ts.length cap] 51)).alloc (.cells #[.slice none 0 0] 56)).alloc (.cells #[.slice none 0 0] 56) := ⟨_, rfl⟩
  have hB0 : Below w.heap.size w w0 := by rw [hw0]; exact below3 _ _ _ _
  have XR0 : Hid (Bx w0 (w.heap.size + 1) [.slice none 0 0]) := by rw [hw0]; exact Bx.alloc (Bx.new [.slice none 0 0] _ (by simp)) _
  have XO0 : Hid (Bx w0 (w.heap.size + 1 + 1) [.slice none 0 0]) := by rw [hw0]; exact Bx.new [.slice none 0 0] _ (by simp)
  have hs0 : w0.heap.size = w.heap.size + 1 + 1 + 1 := by rw [hw0]; simp
  have HS0 := hid hs0
  have H0 := hid hw0
  clear hw0 hs0
  go_enter Try.func28, Try.ntmps28
  go_wp2_with fail
  rw [← H0.out]
  refine (toChanS_any ao cap ts w0 hl hf (hz.later dChan_ok hB0)).mono ?_
  rintro e w1 ⟨rfl, ⟨us, hv, hF⟩, hb1⟩
  have hB1 := hB0.trans (hb1.mono hB0.size)
  obtain ⟨g, hg⟩ : ∃ g, g = w0.heap.size := ⟨_, rfl⟩
  rw [← hg] at hF ⊢
  have HF := hid hF
  have HV := hid hv
  have hgg : w.heap.size + 1 + 1 + 1 = g := by rw [hg]; exact HS0.out.symm
  have XR1 := hid (XR0.out.later hb1)
  have XO1 := hid (XO0.out.later hb1)
  clear hF hv hb1 hg XR0 XO0 H0 hB0
  have r0 := XR1.out.c 0 rfl
  have rf0 := XR1.out.f 0 rfl
  have o0 := XO1.out.c 0 rfl
  have of0 := XO1.out.f 0 rfl
  have HGG := hid hgg
  clear hgg
  go_wp2
  refine bodyPost_ret (v := .agg #[.slice (some ⟨g, 0, none⟩) ts.length ts.length]) (by simp [results, Try.results28, go_sem, r0]) rfl ⟨g, us, rfl, HV.out, ?_, ?_⟩
  · have := HGG.out
    exact ((HF.out.keep (lo := g) dChan_ok (fun k h1 h2 h3 => by rw [Below.heap_setCell _ _ _ _ (by dsimp only; omega), Below.heap_setCell _ _ _ _ (by dsimp only; omega)])).wide dChan_ok (by omega) (by simp))
  · exact (hB1.setCell (p := ⟨w.heap.size + 1 + 1, 0, none⟩) (by dsimp only; omega) _).setCell (p := ⟨w.heap.size + 1, 0, none⟩) (by dsimp only; omega) _
set_option maxHeartbeats 2000000 in
theorem eqHub_same (ao bo : Option Addr) (cap cap' : Nat) (ts us : List LChan) (w : World) (hl : ts.length ≤ 1048576) (hf : Fits ts) (hv : ts.map valChan = us.map valChan) (hz : DIn dChan w.heap.size w ao ts) (hz' : DIn dChan w.heap.size w bo us) :
    Calls Try.prog 30 #[.agg #[.slice ao ts.length cap], .agg #[.slice bo us.length cap']] w fun e w' => e = .returned (.bool true) ∧ Below w.heap.size w w' := by
  have hB0 := below2 w (.cells #[.slice ao ts.length cap] 56) (.cells #[.slice bo us.length cap'] 56)
  go_enter Try.func30, Try.ntmps30
  go_wp2_with fail
  refine (eqChanS_same ao bo cap cap' ts us _ hl hf hv (hz.later dChan_ok hB0) (hz'.later dChan_ok hB0)).mono ?_
  rintro e w1 ⟨rfl, hb1⟩
  have hB1 := hB0.trans (hb1.mono hB0.size)
  go_wp2
  go_ret
  exact ⟨rfl, hB1⟩
end Go.Proofs.Ytlnjhajdbofhlaa
