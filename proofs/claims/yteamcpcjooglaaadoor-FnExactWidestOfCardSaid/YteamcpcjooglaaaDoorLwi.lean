
/- The walk of the law of WidestOf: it returns true. No conditions but those written. -/
import Derived.Test.YteamcpcjooglaaaDoorWz
namespace Go.Proofs.YteamcpcjooglaaaDoor
open Go.RowKit

theorem len_val {ts us : List LNode} (hv : us.map valNode = ts.map valNode) : us.length = ts.length := by have := congrArg List.length hv; simpa using this
/-- Graphs that were copied have room for what they hold. -/
theorem roomy_of {lo hi : Nat} {W : World} {o : Option Addr} {c : Nat} {us ts : List LNode} (hD : DFr dNode lo hi W o c us) (hv : us.map valNode = ts.map valNode) (hl : ts.length ≤ 1048576) (ht : totNode ts ≤ 1048576) (hc : ts.length ≤ c) : Roomy us c := by
  have hlen := len_val hv
  refine ⟨by omega, fun a ha => ?_, fun a ha => ?_, by omega⟩
  · obtain ⟨j, hj, rfl⟩ := mem_el ha
    have h : kI.Fresh lo hi W _ _ _ := hD.2.1 j hj
    exact h.cap
  · obtain ⟨j, hj, rfl⟩ := mem_el ha
    have h1 := totNode_el (ts := ts) (k := j) (by omega)
    have h2 : valNode (el us j) = valNode (el ts j) := by rw [← el_val hj, hv, el_val (by omega)]
    have e1 : (el us j).1 = (el ts j).1 := congrArg (fun p : PNode => p.1) h2
    have e2 : (el us j).2.2.2.2.2.2.2 = (el ts j).2.2.2.2.2.2.2 := congrArg (fun p : PNode => p.2.2.2.2.2) h2
    unfold sizeNode at h1
    rw [e1, e2]
    omega
theorem fits_of {ts : List LNode} (ht : totNode ts ≤ 1048576) : ∀ a ∈ ts, (a.2.2.2.2.2).2.2.length ≤ 1048576 := fun a ha => by
  obtain ⟨j, hj, rfl⟩ := mem_el ha
  have h1 := totNode_el hj
  unfold sizeNode at h1
  omega
theorem toNodeS_ts (ao : Option Addr) (cap : Nat) (ts : List LNode) (w : World) (hl : ts.length ≤ 1048576) (ht : totNode ts ≤ 1048576) (hz : DIn dNode w.heap.size w ao ts) :
    Calls Tryd.prog 6 #[.slice ao ts.length cap] w fun e w' => ∃ g us, e = .returned (.slice (some ⟨g, 0, none⟩) ts.length ts.length) ∧ us.length = ts.length ∧ us.map valNode = ts.map valNode ∧ DFr dNode w.heap.size w'.heap.size w' (some ⟨g, 0, none⟩) ts.length us ∧ Roomy us ts.length ∧ Below w.heap.size w w' := by
  refine (toNodeS_any ao cap ts w hl (fits_of ht) hz).mono ?_
  rintro e w' ⟨rfl, ⟨us, hv, hD⟩, hb⟩
  exact ⟨_, us, rfl, len_val hv, hv, hD, roomy_of hD hv hl ht (Nat.le_refl _), hb⟩
theorem eqNodeS_ts (g g2 : Nat) (us us2 ts : List LNode) (w : World) (hl : ts.length ≤ 1048576) (hv : us.map valNode = ts.map valNode) (hv2 : us2.map valNode = ts.map valNode) (hC : Roomy us ts.length) (hz : DIn dNode w.heap.size w (some ⟨g, 0, none⟩) us) (hz2 : DIn dNode w.heap.size w (some ⟨g2, 0, none⟩) us2) :
    Calls Tryd.prog 8 #[.slice (some ⟨g, 0, none⟩) ts.length ts.length, .slice (some ⟨g2, 0, none⟩) ts.length ts.length] w fun e w' => e = .returned (.bool true) ∧ Below w.heap.size w w' := by
  have h := eqNodeS_same (some ⟨g, 0, none⟩) (some ⟨g2, 0, none⟩) ts.length ts.length us us2 w (by rw [len_val hv]; exact hl) (fun a ha => (hC.fit a ha).2) (hv.trans hv2.symm) hz hz2
  rw [len_val hv, len_val hv2] at h; exact h
set_option maxRecDepth 100000 in
set_option maxHeartbeats 16000000 in
theorem lawWidest_any (ao : Option Addr) (cap : Nat) (ts : List LNode) (ea : Nat → Addr) (w : World) (hl : ts.length ≤ 9223372036854775807) (hle : ∀ a ∈ ts, a.1.size ≤ 9223372036854775807 ∧ (a.2.2.2.2.2).2.2.length ≤ 9223372036854775807) (hz : DIn dNode w.heap.size w ao ts) (hE : Errs w ea) :
    Calls Tryd.prog 3 #[.slice ao ts.length cap] w fun e w' => e = .returned (.bool true) ∧ Below w.heap.size w w' := by
  have HZ := hid hz
  have HLE := hid hle
  have HE := hid hE
  clear hz hle hE
  obtain ⟨⟨z, y⟩, hR⟩ : ∃ R, widR (ts.map valNode) = R := ⟨_, rfl⟩
  have HR := hid hR
  have hn1 : (z != z) = false := by simp
  have hn2 : (y != y) = false := by simp
  clear hR
  go_enter Tryd.func3, Tryd.ntmps3
  go_wp2_with fail
  refine (szNodeS_any ao cap ts 1048576 w (by omega) (by omega) hl HLE.out HZ.out.1).mono ?_
  rintro e w1 ⟨⟨r, rfl, hr1, hr⟩, hB1⟩
  rcases hr with hr | ⟨hr2, hr0⟩
  · go_wp2
    go_ret
    exact ⟨rfl, hB1⟩
  have hl2 : ts.length ≤ 1048576 := by omega
  have htt : totNode ts ≤ 1048576 := by omega
  have HTT := hid htt
  have hr' : decide (r < 0) = false := by simpa using hr0
  clear hr2 hr0 hr1 htt
  go_wp2_with fail
  refine (toNodeS_ts ao cap ts w1 hl2 HTT.out (HZ.out.later dNode_ok hB1)).mono ?_
  rintro e w2 ⟨g2, us2, rfl, hn2', hv2, hD2, hC2, hb2⟩
  have hB2 := hB1.trans (hb2.mono hB1.size)
  have D2 := hid (hD2.in dNode_ok)
  have hcon := specWidest_is (some ⟨g2, 0, none⟩) ts.length us2 w2 hC2 D2.out
  rw [hn2', hv2, HR.out] at hcon
  clear hb2 hD2 D2 hv2 hC2 hn2'
  dsimp only at hcon
  go_wp2_with fail
  refine hcon.mono ?_
  rintro e w3 ⟨rfl, hb3⟩
  have hB3 := hB2.trans (hb3.mono hB2.size)
  clear hb3 hcon
  go_wp2_with fail
  refine (toNodeS_ts ao cap ts w3 hl2 HTT.out (HZ.out.later dNode_ok hB3)).mono ?_
  rintro e w4 ⟨g4, us4, rfl, hn4, hv4, hD4, hC4, hb4⟩
  have hB4 := hB3.trans (hb4.mono hB3.size)
  have D4 := hid (hD4.in dNode_ok)
  have HV4 := hid (And.intro hv4 hC4)
  have hcon := implWidest_is (some ⟨g4, 0, none⟩) ts.length us4 ea w4 hC4 (HE.out.later hB4) D4.out
  rw [hn4, hv4, HR.out] at hcon
  clear hb4 hD4 hv4 hC4 hn4
  dsimp only at hcon
  go_wp2_with fail
  refine hcon.mono ?_
  rintro e w5 ⟨rfl, hb5⟩
  have hB5 := hB4.trans (hb5.mono hB4.size)
  have D5 := hid (D4.out.later dNode_ok hb5)
  clear hb5 hcon D4
  go_wp2_with fail
  refine (toNodeS_ts ao cap ts w5 hl2 HTT.out (HZ.out.later dNode_ok hB5)).mono ?_
  rintro e w6 ⟨g6, us6, rfl, hn6, hv6, hD6, hC6, hb6⟩
  have hB6 := hB5.trans (hb6.mono hB5.size)
  have D6 := hid (And.intro (D5.out.later dNode_ok hb6) (hD6.in dNode_ok))
  have HV6 := hid hv6
  clear hb6 hD6 hv6 hC6 hn6 D5
  go_wp2_with fail
  refine (eqNodeS_ts g4 g6 us4 us6 ts w6 hl2 HV4.out.1 HV6.out HV4.out.2 D6.out.1 D6.out.2).mono ?_
  rintro e w7 ⟨rfl, hb7⟩
  have hB7 := hB6.trans (hb7.mono hB6.size)
  clear hb7
  go_wp2
  go_ret
  exact ⟨rfl, hB7⟩
end Go.Proofs.YteamcpcjooglaaaDoor
