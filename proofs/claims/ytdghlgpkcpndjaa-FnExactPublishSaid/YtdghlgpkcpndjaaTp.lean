
/- Topics: sizes, copies, comparisons. No conditions but those written. -/
import Derived.Test.YtdghlgpkcpndjaaTs
namespace Go.Proofs.Ytdghlgpkcpndjaa
open Go.RowKit

theorem len_val {ts us : List LSub} (hv : us.map valSub = ts.map valSub) : us.length = ts.length := by have := congrArg List.length hv; simpa using this
theorem len_ps {us : List LSub} {ps : List PSub} (hv : us.map valSub = ps) : us.length = ps.length := by rw [← hv]; simp
/-- How many there are behind Subs, by what they say. -/
def totP (ps : List PSub) : Nat := (ps.map fun c => c.2.2.2.2.length).sum
theorem totSub_P (us : List LSub) : totSub us = totP (us.map valSub) := by
  unfold totSub totP; rw [List.map_map]; rfl
theorem tot_ps {us : List LSub} {ps : List PSub} (hv : us.map valSub = ps) : totSub us = totP ps := by rw [totSub_P, hv]
/-- Rows that are not too long. -/
def Fits (ts : List LSub) : Prop := ∀ a ∈ ts, (a.2.2.2.2).2.2.length ≤ 1048576
theorem fits_of {ts : List LSub} (h : totSub ts ≤ 1048576) : Fits ts := by
  intro a ha
  obtain ⟨j, hj, rfl⟩ := mem_el ha
  have := totSub_el hj
  unfold sizeSub at this
  omega
set_option maxHeartbeats 2000000 in
theorem szTopic_le (sd : Int) (ao : Option Addr) (cap : Nat) (ts : List LSub) (w : World) (hl : ts.length ≤ 9223372036854775807) (hle : ∀ a ∈ ts, (a.2.2.2.2).2.2.length ≤ 9223372036854775807) (hz : DIn dSub w.heap.size w ao ts) :
    Calls Try.prog 15 #[.agg #[.int .i64 sd, .slice ao ts.length cap], .int .i64 1048576] w fun e w' => (∃ z : Int, e = .returned (.int .i64 z) ∧ z ≤ 1048576 ∧ ((z < 0) ∨ (0 ≤ z ∧ ts.length ≤ 1048576 ∧ totSub ts ≤ 1048576))) ∧ Below w.heap.size w w' := by
  have hB0 := below1 w (.cells #[.int .i64 sd, .slice ao ts.length cap] 43)
  have HZ := hid (hz.later dSub_ok hB0)
  clear hz
  go_enter Try.func15, Try.ntmps15
  go_wp2_with fail
  refine (szSubS_any ao cap ts 1048576 _ (by omega) (by omega) hl hle HZ.out.1).mono ?_
  rintro e w1 ⟨⟨z, rfl, hr, hs⟩, hb1⟩
  have hB1 := hB0.trans (hb1.mono hB0.size)
  clear hb1
  by_cases h0 : z < 0
  · go_wp2
    go_ret
    exact ⟨⟨_, rfl, by omega, by omega⟩, hB1⟩
  · go_wp2
    go_ret
    exact ⟨⟨_, rfl, by omega, by omega⟩, hB1⟩
set_option maxHeartbeats 2000000 in
theorem toTopic_any (sd : Int) (ao : Option Addr) (cap : Nat) (ts : List LSub) (w : World) (hl : ts.length ≤ 1048576) (hf : Fits ts) (hz : DIn dSub w.heap.size w ao ts) :
    Calls Try.prog 17 #[.agg #[.int .i64 sd, .slice ao ts.length cap]] w fun e w' => ∃ g us, e = .returned (.agg #[.int .i64 sd, .slice (some ⟨g, 0, none⟩) ts.length ts.length]) ∧ us.map valSub = ts.map valSub ∧ DFr dSub w.heap.size w'.heap.size w' (some ⟨g, 0, none⟩) ts.length us ∧ Below w.heap.size w w' := by
  obtain ⟨w0, hw0⟩ : ∃ w0, w0 = ((w.alloc (.cells #[.int .i64 sd, .slice ao ts.length cap] 43)).alloc (.cells #[.int .i64 0, .slice none 0 0] 25)).alloc (.cells #[.int .i64 sd, .slice none 0 0] 25) := ⟨_, rfl⟩
  have hB0 : Below w.heap.size w w0 := by rw [hw0]; exact below3 _ _ _ _
  have XR0 : Hid (Bx w0 (w.heap.size + 1) [.int .i64 0, .slice none 0 0]) := by rw [hw0]; exact Bx.alloc (Bx.new [.int .i64 0, .slice none 0 0] _ (by simp)) _
  have XO0 : Hid (Bx w0 (w.heap.size + 1 + 1) [.int .i64 sd, .slice none 0 0]) := by rw [hw0]; exact Bx.new [.int .i64 sd, .slice none 0 0] _ (by simp)
  have hs0 : w0.heap.size = w.heap.size + 1 + 1 + 1 := by rw [hw0]; simp
  have HS0 := hid hs0
  have H0 := hid hw0
  clear hw0 hs0
  go_enter Try.func17, Try.ntmps17
  go_wp2_with fail
  rw [← H0.out]
  refine (toSubS_any ao cap ts w0 hl hf (hz.later dSub_ok hB0)).mono ?_
  rintro e w1 ⟨rfl, ⟨us, hv, hF⟩, hb1⟩
  have hB1 := hB0.trans (hb1.mono hB0.size)
  obtain ⟨g, hg⟩ : ∃ g, g = w0.heap.size := ⟨_, rfl⟩
  rw [← hg] at hF ⊢
  have HF := hid hF
  have HV := hid hv
  have hgg : w.heap.size + 1 + 1 + 1 = g := by rw [hg]; exact HS0.out.symm
  have XR1 := hid (XR0.out.later hb1)
  have XO1 := hid (XO0.out.later hb1)
  clear hF hv hb1 hg XR0 XO0 H0 hB0
  have r0 := XR1.out.c 0 rfl
  have rf0 := XR1.out.f 0 rfl
  have r1 := XR1.out.c 1 rfl
  have rf1 := XR1.out.f 1 rfl
  have o0 := XO1.out.c 0 rfl
  have of0 := XO1.out.f 0 rfl
  have o1 := XO1.out.c 1 rfl
  have of1 := XO1.out.f 1 rfl
  have HGG := hid hgg
  clear hgg
  go_wp2
  refine bodyPost_ret (v := .agg #[.int .i64 sd, .slice (some ⟨g, 0, none⟩) ts.length ts.length]) (by simp [results, Try.results17, go_sem, r0, r1]) rfl ⟨g, us, rfl, HV.out, ?_, ?_⟩
  · have := HGG.out
    exact ((HF.out.keep (lo := g) dSub_ok (fun k h1 h2 h3 => by rw [Below.heap_setCell _ _ _ _ (by dsimp only; omega), Below.heap_setCell _ _ _ _ (by dsimp only; omega), Below.heap_setCell _ _ _ _ (by dsimp only; omega)])).wide dSub_ok (by omega) (by simp))
  · exact ((hB1.setCell (p := ⟨w.heap.size + 1 + 1, 1, none⟩) (by dsimp only; omega) _).setCell (p := ⟨w.heap.size + 1, 0, none⟩) (by dsimp only; omega) _).setCell (p := ⟨w.heap.size + 1, 1, none⟩) (by dsimp only; omega) _
set_option maxHeartbeats 2000000 in
theorem eqTopic_of (sd : Int) (o o' : Option Addr) (c c' : Nat) (us us' : List LSub) (ps : List PSub) (w : World) (hv : us.map valSub = ps) (hv' : us'.map valSub = ps) (hl : ps.length ≤ 1048576) (ht : totP ps ≤ 1048576) (hz : DIn dSub w.heap.size w o us) (hz' : DIn dSub w.heap.size w o' us') :
    Calls Try.prog 19 #[.agg #[.int .i64 sd, .slice o ps.length c], .agg #[.int .i64 sd, .slice o' ps.length c']] w fun e w' => e = .returned (.bool true) ∧ Below w.heap.size w w' := by
  have h1 := len_ps hv
  have h2 := len_ps hv'
  have hf := fits_of (by rw [tot_ps hv]; exact ht)
  have hsd : (sd != sd) = false := by simp
  have hB0 := below2 w (.cells #[.int .i64 sd, .slice o ps.length c] 25) (.cells #[.int .i64 sd, .slice o' ps.length c'] 25)
  have HC := hid (eqSubS_same o o' c c' us us' ((w.alloc (.cells #[.int .i64 sd, .slice o ps.length c] 25)).alloc (.cells #[.int .i64 sd, .slice o' ps.length c'] 25)) (by omega) hf (hv.trans hv'.symm) (hz.later dSub_ok hB0) (hz'.later dSub_ok hB0))
  rw [h1, h2] at HC
  clear h1 h2 hf hz hz' hv hv' ht
  go_enter Try.func19, Try.ntmps19
  go_wp2_with fail
  refine HC.out.mono ?_
  rintro e w1 ⟨rfl, hb1⟩
  have hB1 := hB0.trans (hb1.mono hB0.size)
  go_wp2
  go_ret
  exact ⟨rfl, hB1⟩
end Go.Proofs.Ytdghlgpkcpndjaa
