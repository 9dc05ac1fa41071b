
/- The widest of a graph: both sides. No conditions but those written. -/
import Derived.Test.YteamcpcjooglaaaDoorWy
import Derived.Test.YteamcpcjooglaaaDoorCk
import Derived.Test.YteamcpcjooglaaaDoorFp
import Derived.Test.YteamcpcjooglaaaDoorRo
namespace Go.Proofs.YteamcpcjooglaaaDoor
open Go.RowKit

set_option maxRecDepth 10000 in
set_option maxHeartbeats 4000000 in
theorem implWidest_is (ao : Option Addr) (cap : Nat) (ts : List LNode) (ea : Nat → Addr) (w : World) (hC : Roomy ts cap) (hE : Errs w ea) (hz : DIn dNode w.heap.size w ao ts) :
    Calls Tryd.prog 7 #[.slice ao ts.length cap] w fun e w' => e = .returned (.tuple #[.int .i64 (widR (ts.map valNode)).1, .bool (widR (ts.map valNode)).2]) ∧ Below w.heap.size w w' := by
  have hcon := goodGraph_is ao cap ts ea w hC hE hz
  have HZ := hid hz
  have HFi := hid hC.fitN
  clear hz hE hC
  by_cases h0 : codeG (ts.map valNode) = 0
  · have HV : Hid (widR (ts.map valNode) = (widP (ts.map valNode), true)) := by rw [Hid, widR, if_pos h0]
    obtain ⟨hm, hbk, hor⟩ := codeG_zero h0
    have HED := hid (edges_of (by omega) (hbk 4 (by omega)))
    have HOR := hid hor
    have h1 : 1 ≤ ts.length := by rw [val_len] at hm; omega
    rw [decide_eq_true h0] at hcon
    clear h0 hm hbk hor
    go_enter Tryd.func7, Tryd.ntmps7
    go_wp2_with fail
    refine hcon.mono ?_
    rintro e w1 ⟨rfl, hb1⟩
    have hB1 : Below w.heap.size w w1 := hb1
    clear hb1 hcon
    go_wp2_with fail
    refine (widestIn_is ao cap ts w1 HFi.out (by omega) HED.out (HZ.out.later dNode_ok hB1)).mono ?_
    rintro e w3 ⟨rfl, hb3⟩
    have hB3 := hB1.trans (hb3.mono hB1.size)
    clear hb3
    go_wp2
    rw [HV.out]
    refine bodyPost_ret (v := .tuple #[.int .i64 (widP (ts.map valNode)), .bool true]) (by simp [results, Tryd.results7, go_sem]) rfl ?_
    exact ⟨rfl, hB3⟩
  · have HV : Hid (widR (ts.map valNode) = (0, false)) := by rw [Hid, widR, if_neg h0]
    rw [decide_eq_false h0] at hcon
    clear h0
    go_enter Tryd.func7, Tryd.ntmps7
    go_wp2_with fail
    refine hcon.mono ?_
    rintro e w1 ⟨rfl, hb1⟩
    have hB1 : Below w.heap.size w w1 := hb1
    clear hb1
    go_wp2
    rw [HV.out]
    refine bodyPost_ret (v := .tuple #[.int .i64 0, .bool false]) (by simp [results, Tryd.results7, go_sem]) rfl ?_
    exact ⟨rfl, hB1⟩
set_option maxRecDepth 10000 in
set_option maxHeartbeats 4000000 in
theorem specWidest_is (ao : Option Addr) (cap : Nat) (ts : List LNode) (w : World) (hC : Roomy ts cap) (hz : DIn dNode w.heap.size w ao ts) :
    Calls Tryd.prog 5 #[.slice ao ts.length cap] w fun e w' => e = .returned (.tuple #[.int .i64 (widR (ts.map valNode)).1, .bool (widR (ts.map valNode)).2]) ∧ Below w.heap.size w w' := by
  have hcon := specCheck_is ao cap ts w hC hz
  have HZ := hid hz
  have HFi := hid hC.fitN
  clear hz hC
  by_cases h0 : codeG (ts.map valNode) = 0
  · have HV : Hid (widR (ts.map valNode) = (widP (ts.map valNode), true)) := by rw [Hid, widR, if_pos h0]
    obtain ⟨hm, hbk, hor⟩ := codeG_zero h0
    have HED := hid (edges_of (by omega) (hbk 4 (by omega)))
    have HOR := hid hor
    have h1 : 1 ≤ ts.length := by rw [val_len] at hm; omega
    rw [h0] at hcon
    clear h0 hm hbk hor
    go_enter Tryd.func5, Tryd.ntmps5
    go_wp2_with fail
    refine hcon.mono ?_
    rintro e w1 ⟨rfl, hb1⟩
    have hB1 : Below w.heap.size w w1 := hb1
    clear hb1 hcon
    go_wp2_with fail
    refine (l11Widest_is ao cap ts w1 HED.out HOR.out (HZ.out.later dNode_ok hB1)).mono ?_
    rintro e w3 ⟨rfl, hb3⟩
    have hB3 := hB1.trans (hb3.mono hB1.size)
    clear hb3
    go_wp2
    rw [HV.out]
    refine bodyPost_ret (v := .tuple #[.int .i64 (widP (ts.map valNode)), .bool true]) (by simp [results, Tryd.results5, go_sem]) rfl ?_
    exact ⟨rfl, hB3⟩
  · have HV : Hid (widR (ts.map valNode) = (0, false)) := by rw [Hid, widR, if_neg h0]
    have hne : (((codeG (ts.map valNode) : Nat) : Int) != 0) = true := by simp; omega
    clear h0
    go_enter Tryd.func5, Tryd.ntmps5
    go_wp2_with fail
    refine hcon.mono ?_
    generalize codeG (ts.map valNode) = cg at hne ⊢
    rintro e w1 ⟨rfl, hb1⟩
    have hB1 : Below w.heap.size w w1 := hb1
    clear hb1
    go_wp2
    rw [HV.out]
    refine bodyPost_ret (v := .tuple #[.int .i64 0, .bool false]) (by simp [results, Tryd.results5, go_sem]) rfl ?_
    exact ⟨rfl, hB1⟩
end Go.Proofs.YteamcpcjooglaaaDoor
