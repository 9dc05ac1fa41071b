
/- Yield, Park and End: the program's and the specification's. No conditions but those written. -/
import Derived.Test.YtgbnbnjfaffaiaaOMf
namespace Go.Proofs.Ytgbnbnjfaffaiaa.Old
open Go.RowKit

set_option maxHeartbeats 2000000 in
theorem specYield_any (ao : Option Addr) (cap : Nat) (ts : List (Int × Int)) (qo : Option Addr) (qcap : Nat) (q : List Int) (w : World) (hwf : (ao = none → cap = 0) ∧ (qo = none → qcap = 0)) (hl : ts.length ≤ 1048576) (hlq : q.length ≤ 1048576) (hz : TasksIn w.heap.size w ao ts) (hq : IntsIn w.heap.size w qo q) :
    Calls Try.prog 12 #[.agg #[.slice ao ts.length cap, .slice qo q.length qcap]] w fun e w' => Ans2c w (leaveR 1 ts q) e w' := by
  generalize hR : leaveR 1 ts q = R
  have HR : Hid (leaveR 1 ts q = R) := hR
  clear hR
  go_enter Try.func12, Try.ntmps12
  go_wp2_with fail
  refine (specLeave_any ao cap ts qo qcap q 1 _ hwf hl hlq (hz.later (below2 _ _ _)) (hq.later (below2 _ _ _))).mono ?_
  rintro e w1 ⟨⟨to, tc, go, qc, rfl, hT, hI, hQ⟩, hb1⟩
  rw [HR.out] at hT hI hQ ⊢
  have hB1 := (below2 w (.cells #[.slice ao ts.length cap, .slice qo q.length qcap] 26) (.cells #[.slice none 0 0, .slice none 0 0] 26)).trans (hb1.mono (by simp; omega))
  have r0 : w1.cell? ⟨w.heap.size + 1, 0, none⟩ = some (.slice none 0 0) := (hb1.cell (p := ⟨w.heap.size + 1, 0, none⟩) (by simp)).trans (by simp [go_sem])
  have r1 : w1.cell? ⟨w.heap.size + 1, 1, none⟩ = some (.slice none 0 0) := (hb1.cell (p := ⟨w.heap.size + 1, 1, none⟩) (by simp)).trans (by simp [go_sem])
  have f0 : w1.frozen? ⟨w.heap.size + 1, 0, none⟩ = false := (hb1.frozen (p := ⟨w.heap.size + 1, 0, none⟩) (by simp)).trans (by simp [go_sem])
  have f1 : w1.frozen? ⟨w.heap.size + 1, 1, none⟩ = false := (hb1.frozen (p := ⟨w.heap.size + 1, 1, none⟩) (by simp)).trans (by simp [go_sem])
  simp only [World.size_alloc] at hT hI
  have HF : Hid (FreshT (w.heap.size + 1 + 1) w1.heap.size w1 to tc R.1 ∧ FreshI (w.heap.size + 1 + 1) w1.heap.size w1 go qc R.2.1 ∧ (R.2.2 = 0 → R.2.1 = [] → qc = 0)) := ⟨hT, hI, hQ⟩
  clear hT hI hQ hb1 HR
  obtain ⟨R1, R2, R3⟩ := R
  dsimp only at HF ⊢
  go_wp2
  refine bodyPost_ret (v := .tuple #[.agg #[.slice to R1.length tc, .slice go R2.length qc], .int .i64 R3]) (by simp [results, Try.results12, go_sem, r0, r1]) rfl ?_
  exact ans2c_of hB1 HF.out.1 HF.out.2.1 HF.out.2.2 _ _

set_option maxHeartbeats 2000000 in
theorem implYield_any (ao : Option Addr) (cap : Nat) (ts : List (Int × Int)) (qo : Option Addr) (qcap : Nat) (q : List Int) (w : World) (hl : ts.length ≤ 1048576) (hlq : q.length ≤ 1048576) (hz : TasksIn w.heap.size w ao ts) (hq : IntsIn w.heap.size w qo q) :
    Calls Try.prog 9 #[.agg #[.slice ao ts.length cap, .slice qo q.length qcap]] w fun e w' => Ans2 w (leaveR 1 ts q) e w' := by
  generalize hR : leaveR 1 ts q = R
  have HR : Hid (leaveR 1 ts q = R) := hR
  clear hR
  go_enter Try.func9, Try.ntmps9
  go_wp2_with fail
  refine (implLeave_any ao cap ts qo qcap q 1 _ hl hlq (hz.later (below2 _ _ _)) (hq.later (below2 _ _ _))).mono ?_
  rintro e w1 ⟨⟨to, tc, go, qc, rfl, hT, hI⟩, hb1⟩
  rw [HR.out] at hT hI ⊢
  have hB1 := (below2 w (.cells #[.slice ao ts.length cap, .slice qo q.length qcap] 26) (.cells #[.slice none 0 0, .slice none 0 0] 26)).trans (hb1.mono (by simp; omega))
  have r0 : w1.cell? ⟨w.heap.size + 1, 0, none⟩ = some (.slice none 0 0) := (hb1.cell (p := ⟨w.heap.size + 1, 0, none⟩) (by simp)).trans (by simp [go_sem])
  have r1 : w1.cell? ⟨w.heap.size + 1, 1, none⟩ = some (.slice none 0 0) := (hb1.cell (p := ⟨w.heap.size + 1, 1, none⟩) (by simp)).trans (by simp [go_sem])
  have f0 : w1.frozen? ⟨w.heap.size + 1, 0, none⟩ = false := (hb1.frozen (p := ⟨w.heap.size + 1, 0, none⟩) (by simp)).trans (by simp [go_sem])
  have f1 : w1.frozen? ⟨w.heap.size + 1, 1, none⟩ = false := (hb1.frozen (p := ⟨w.heap.size + 1, 1, none⟩) (by simp)).trans (by simp [go_sem])
  simp only [World.size_alloc] at hT hI
  have HF : Hid (FreshT (w.heap.size + 1 + 1) w1.heap.size w1 to tc R.1 ∧ FreshI (w.heap.size + 1 + 1) w1.heap.size w1 go qc R.2.1) := ⟨hT, hI⟩
  clear hT hI hb1 HR
  obtain ⟨R1, R2, R3⟩ := R
  dsimp only at HF ⊢
  go_wp2
  refine bodyPost_ret (v := .tuple #[.agg #[.slice to R1.length tc, .slice go R2.length qc], .int .i64 R3]) (by simp [results, Try.results9, go_sem, r0, r1]) rfl ?_
  exact ans2_of hB1 HF.out.1 HF.out.2 _ _

set_option maxHeartbeats 2000000 in
theorem specPark_any (ao : Option Addr) (cap : Nat) (ts : List (Int × Int)) (qo : Option Addr) (qcap : Nat) (q : List Int) (w : World) (hwf : (ao = none → cap = 0) ∧ (qo = none → qcap = 0)) (hl : ts.length ≤ 1048576) (hlq : q.length ≤ 1048576) (hz : TasksIn w.heap.size w ao ts) (hq : IntsIn w.heap.size w qo q) :
    Calls Try.prog 33 #[.agg #[.slice ao ts.length cap, .slice qo q.length qcap]] w fun e w' => Ans2c w (leaveR 3 ts q) e w' := by
  generalize hR : leaveR 3 ts q = R
  have HR : Hid (leaveR 3 ts q = R) := hR
  clear hR
  go_enter Try.func33, Try.ntmps33
  go_wp2_with fail
  refine (specLeave_any ao cap ts qo qcap q 3 _ hwf hl hlq (hz.later (below2 _ _ _)) (hq.later (below2 _ _ _))).mono ?_
  rintro e w1 ⟨⟨to, tc, go, qc, rfl, hT, hI, hQ⟩, hb1⟩
  rw [HR.out] at hT hI hQ ⊢
  have hB1 := (below2 w (.cells #[.slice ao ts.length cap, .slice qo q.length qcap] 26) (.cells #[.slice none 0 0, .slice none 0 0] 26)).trans (hb1.mono (by simp; omega))
  have r0 : w1.cell? ⟨w.heap.size + 1, 0, none⟩ = some (.slice none 0 0) := (hb1.cell (p := ⟨w.heap.size + 1, 0, none⟩) (by simp)).trans (by simp [go_sem])
  have r1 : w1.cell? ⟨w.heap.size + 1, 1, none⟩ = some (.slice none 0 0) := (hb1.cell (p := ⟨w.heap.size + 1, 1, none⟩) (by simp)).trans (by simp [go_sem])
  have f0 : w1.frozen? ⟨w.heap.size + 1, 0, none⟩ = false := (hb1.frozen (p := ⟨w.heap.size + 1, 0, none⟩) (by simp)).trans (by simp [go_sem])
  have f1 : w1.frozen? ⟨w.heap.size + 1, 1, none⟩ = false := (hb1.frozen (p := ⟨w.heap.size + 1, 1, none⟩) (by simp)).trans (by simp [go_sem])
  simp only [World.size_alloc] at hT hI
  have HF : Hid (FreshT (w.heap.size + 1 + 1) w1.heap.size w1 to tc R.1 ∧ FreshI (w.heap.size + 1 + 1) w1.heap.size w1 go qc R.2.1 ∧ (R.2.2 = 0 → R.2.1 = [] → qc = 0)) := ⟨hT, hI, hQ⟩
  clear hT hI hQ hb1 HR
  obtain ⟨R1, R2, R3⟩ := R
  dsimp only at HF ⊢
  go_wp2
  refine bodyPost_ret (v := .tuple #[.agg #[.slice to R1.length tc, .slice go R2.length qc], .int .i64 R3]) (by simp [results, Try.results33, go_sem, r0, r1]) rfl ?_
  exact ans2c_of hB1 HF.out.1 HF.out.2.1 HF.out.2.2 _ _

set_option maxHeartbeats 2000000 in
theorem specEnd_any (ao : Option Addr) (cap : Nat) (ts : List (Int × Int)) (qo : Option Addr) (qcap : Nat) (q : List Int) (w : World) (hwf : (ao = none → cap = 0) ∧ (qo = none → qcap = 0)) (hl : ts.length ≤ 1048576) (hlq : q.length ≤ 1048576) (hz : TasksIn w.heap.size w ao ts) (hq : IntsIn w.heap.size w qo q) :
    Calls Try.prog 35 #[.agg #[.slice ao ts.length cap, .slice qo q.length qcap]] w fun e w' => Ans2c w (leaveR 4 ts q) e w' := by
  generalize hR : leaveR 4 ts q = R
  have HR : Hid (leaveR 4 ts q = R) := hR
  clear hR
  go_enter Try.func35, Try.ntmps35
  go_wp2_with fail
  refine (specLeave_any ao cap ts qo qcap q 4 _ hwf hl hlq (hz.later (below2 _ _ _)) (hq.later (below2 _ _ _))).mono ?_
  rintro e w1 ⟨⟨to, tc, go, qc, rfl, hT, hI, hQ⟩, hb1⟩
  rw [HR.out] at hT hI hQ ⊢
  have hB1 := (below2 w (.cells #[.slice ao ts.length cap, .slice qo q.length qcap] 26) (.cells #[.slice none 0 0, .slice none 0 0] 26)).trans (hb1.mono (by simp; omega))
  have r0 : w1.cell? ⟨w.heap.size + 1, 0, none⟩ = some (.slice none 0 0) := (hb1.cell (p := ⟨w.heap.size + 1, 0, none⟩) (by simp)).trans (by simp [go_sem])
  have r1 : w1.cell? ⟨w.heap.size + 1, 1, none⟩ = some (.slice none 0 0) := (hb1.cell (p := ⟨w.heap.size + 1, 1, none⟩) (by simp)).trans (by simp [go_sem])
  have f0 : w1.frozen? ⟨w.heap.size + 1, 0, none⟩ = false := (hb1.frozen (p := ⟨w.heap.size + 1, 0, none⟩) (by simp)).trans (by simp [go_sem])
  have f1 : w1.frozen? ⟨w.heap.size + 1, 1, none⟩ = false := (hb1.frozen (p := ⟨w.heap.size + 1, 1, none⟩) (by simp)).trans (by simp [go_sem])
  simp only [World.size_alloc] at hT hI
  have HF : Hid (FreshT (w.heap.size + 1 + 1) w1.heap.size w1 to tc R.1 ∧ FreshI (w.heap.size + 1 + 1) w1.heap.size w1 go qc R.2.1 ∧ (R.2.2 = 0 → R.2.1 = [] → qc = 0)) := ⟨hT, hI, hQ⟩
  clear hT hI hQ hb1 HR
  obtain ⟨R1, R2, R3⟩ := R
  dsimp only at HF ⊢
  go_wp2
  refine bodyPost_ret (v := .tuple #[.agg #[.slice to R1.length tc, .slice go R2.length qc], .int .i64 R3]) (by simp [results, Try.results35, go_sem, r0, r1]) rfl ?_
  exact ans2c_of hB1 HF.out.1 HF.out.2.1 HF.out.2.2 _ _

end Go.Proofs.Ytgbnbnjfaffaiaa.Old
