/- The walk of the law on MostPassed: it returns true. No conditions but those written. -/
import Derived.Test.YtemmjkmaiedadaaWk
import Derived.Test.YtemmjkmaiedadaaWe
namespace Go.Proofs.Ytemmjkmaiedadaa
open Go.RowKit

set_option maxHeartbeats 4000000 in
theorem lawMost_any (ao : Option Addr) (cap : Nat) (ts : List (Int × Int)) (qo : Option Addr) (qcap : Nat) (q : List Int) (w : World) (hl : ts.length ≤ 9223372036854775807) (hlq : q.length ≤ 9223372036854775807) (hz : TasksIn w.heap.size w ao ts) (hq : IntsIn w.heap.size w qo q) :
    Calls Try.prog 11 #[.agg #[.slice ao ts.length cap, .slice qo q.length qcap]] w fun e w' => e = .returned (.bool true) ∧ Below w.heap.size w w' := by
  obtain ⟨mv, bv, hmv⟩ := mostV_form ts q
  have HMV : Hid (mostV ts q = .tuple #[.int .i64 mv, .bool bv]) := hmv
  clear hmv
  go_enter Try.func11, Try.ntmps11
  go_wp2_with fail
  refine (szBoard_any ao ts.length cap qo q.length qcap _ hl hlq).mono ?_
  rintro e w1 ⟨⟨r, rfl, hr⟩, hb1⟩
  have hB1 := (below1 w (.cells #[.slice ao ts.length cap, .slice qo q.length qcap] 25)).trans (hb1.mono (by simp))
  have c0 : w1.cell? ⟨w.heap.size, 0, none⟩ = some (.slice ao ts.length cap) := (hb1.cell (p := ⟨w.heap.size, 0, none⟩) (by simp)).trans (by simp [go_sem])
  have c1 : w1.cell? ⟨w.heap.size, 1, none⟩ = some (.slice qo q.length qcap) := (hb1.cell (p := ⟨w.heap.size, 1, none⟩) (by simp)).trans (by simp [go_sem])
  have hs1 : w.heap.size < w1.heap.size := by have := hb1.size; simp at this; omega
  clear hb1
  rcases hr with hr | ⟨hr0, hr1⟩
  · go_wp2
    go_ret
    exact ⟨rfl, hB1⟩
  · go_wp2_with fail
    refine (toBoard_any ao cap ts qo qcap q _ (by omega) (by omega) (hz.later hB1) (hq.later hB1)).mono ?_
    rintro e w2 ⟨gt, gq, rfl, _, hT2, hI2, hb2⟩
    have hB2 := hB1.trans (hb2.mono hB1.size)
    have d0 : w2.cell? ⟨w.heap.size, 0, none⟩ = some (.slice ao ts.length cap) := (hb2.cell (p := ⟨w.heap.size, 0, none⟩) hs1).trans c0
    have d1 : w2.cell? ⟨w.heap.size, 1, none⟩ = some (.slice qo q.length qcap) := (hb2.cell (p := ⟨w.heap.size, 1, none⟩) hs1).trans c1
    have hs2 : w.heap.size < w2.heap.size := Nat.lt_of_lt_of_le hs1 hb2.size
    have hT2' := hT2.tasks
    have hI2' := hI2.ints
    clear hb2 hT2 hI2
    go_wp2_with fail
    refine (specMost_any (some ⟨gt, 0, none⟩) ts.length ts (some ⟨gq, 0, none⟩) q.length q w2 (by omega) (by omega) hT2' hI2').mono ?_
    rintro e w3 ⟨rfl, hb3⟩
    rw [HMV.out]
    have hB3 := hB2.trans (hb3.mono hB2.size)
    have e0 : w3.cell? ⟨w.heap.size, 0, none⟩ = some (.slice ao ts.length cap) := (hb3.cell (p := ⟨w.heap.size, 0, none⟩) hs2).trans d0
    have e1 : w3.cell? ⟨w.heap.size, 1, none⟩ = some (.slice qo q.length qcap) := (hb3.cell (p := ⟨w.heap.size, 1, none⟩) hs2).trans d1
    have hs3 : w.heap.size < w3.heap.size := Nat.lt_of_lt_of_le hs2 hb3.size
    clear hb3 hT2' hI2'
    go_wp2_with fail
    refine (toBoard_any ao cap ts qo qcap q _ (by omega) (by omega) (hz.later hB3) (hq.later hB3)).mono ?_
    rintro e w4 ⟨ht, hq', rfl, _, hT4, hI4, hb4⟩
    have hB4 := hB3.trans (hb4.mono hB3.size)
    have f0 : w4.cell? ⟨w.heap.size, 0, none⟩ = some (.slice ao ts.length cap) := (hb4.cell (p := ⟨w.heap.size, 0, none⟩) hs3).trans e0
    have f1 : w4.cell? ⟨w.heap.size, 1, none⟩ = some (.slice qo q.length qcap) := (hb4.cell (p := ⟨w.heap.size, 1, none⟩) hs3).trans e1
    have hs4 : w.heap.size < w4.heap.size := Nat.lt_of_lt_of_le hs3 hb4.size
    have hT4' := hT4.tasks
    have hI4' := hI4.ints
    clear hb4 hT4 hI4
    have hne : (mv != mv) = false := by simp
    have hnb : (bv != bv) = false := by simp
    go_wp2_with fail
    refine (implMost_any (some ⟨ht, 0, none⟩) ts.length ts (some ⟨hq', 0, none⟩) q.length q _ (by omega) (hT4'.later (below1 _ _)) (hI4'.later (below1 _ _))).mono ?_
    rintro e w5 ⟨rfl, hb5⟩
    rw [HMV.out]
    have hb45 : Below w4.heap.size w4 w5 := (below1 w4 (.cells #[.slice (some ⟨ht, 0, none⟩) ts.length ts.length, .slice (some ⟨hq', 0, none⟩) q.length q.length] 30)).trans (hb5.mono (by simp))
    have hB5 := hB4.trans (hb45.mono hB4.size)
    have g0 : w5.cell? ⟨w.heap.size, 0, none⟩ = some (.slice ao ts.length cap) := (hb45.cell (p := ⟨w.heap.size, 0, none⟩) hs4).trans f0
    have g1 : w5.cell? ⟨w.heap.size, 1, none⟩ = some (.slice qo q.length qcap) := (hb45.cell (p := ⟨w.heap.size, 1, none⟩) hs4).trans f1
    have i0 : w5.cell? ⟨w4.heap.size, 0, none⟩ = some (.slice (some ⟨ht, 0, none⟩) ts.length ts.length) := (hb5.cell (p := ⟨w4.heap.size, 0, none⟩) (by simp)).trans (by simp [go_sem])
    have i1 : w5.cell? ⟨w4.heap.size, 1, none⟩ = some (.slice (some ⟨hq', 0, none⟩) q.length q.length) := (hb5.cell (p := ⟨w4.heap.size, 1, none⟩) (by simp)).trans (by simp [go_sem])
    have hs45 : w4.heap.size < w5.heap.size := by have := hb5.size; simp at this; omega
    have hT5 := hT4'.later hb45
    have hI5 := hI4'.later hb45
    clear hb5 hT4' hI4' hb45 c0 c1 d0 d1 e0 e1 f0 f1
    go_wp2
    go_region_with (first
      | (go_at_call 14; refine (toBoard_any ao cap ts qo qcap q _ (by omega) (by omega) (by exact hz.later hB5.drew) (by exact hq.later hB5.drew)).mono ?_; rintro e w6 ⟨jt, jq, rfl, _, hT6, hI6, hb6⟩; have k0 : w6.cell? ⟨w4.heap.size, 0, none⟩ = some (.slice (some ⟨ht, 0, none⟩) ts.length ts.length) := (hb6.cell (p := ⟨w4.heap.size, 0, none⟩) hs45).trans i0; have k1 : w6.cell? ⟨w4.heap.size, 1, none⟩ = some (.slice (some ⟨hq', 0, none⟩) q.length q.length) := (hb6.cell (p := ⟨w4.heap.size, 1, none⟩) hs45).trans i1; have hT56 : TasksIn w6.heap.size w6 (some ⟨ht, 0, none⟩) ts := TasksIn.later (W := w5.drew) hT5 hb6; have hI56 : IntsIn w6.heap.size w6 (some ⟨hq', 0, none⟩) q := IntsIn.later (W := w5.drew) hI5 hb6; have hB6 : Below w.heap.size w w6 := hB5.drew.trans (hb6.mono hB5.size); have hT6' := hT6.tasks; have hI6' := hI6.ints; clear hb6 hT6 hI6)
      | (go_at_call 16; refine (eqBoard_same _ _ ts _ _ q _ _ _ _ _ (by omega) (by omega) (by exact hT56) (by exact hI56) (by exact hT6') (by exact hI6')).mono ?_; rintro e w7 ⟨rfl, hb7⟩; have hB7 : Below w.heap.size w w7 := hB6.trans (hb7.mono hB6.size)))
    all_goals go_wp2
    all_goals go_ret
    all_goals exact ⟨rfl, by assumption⟩
end Go.Proofs.Ytemmjkmaiedadaa
