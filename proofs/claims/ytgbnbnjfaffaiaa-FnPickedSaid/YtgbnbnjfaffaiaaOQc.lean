
/- Pick, the program's, where nothing is picked. No conditions but those written. -/
import Derived.Test.YtgbnbnjfaffaiaaOQb
namespace Go.Proofs.Ytgbnbnjfaffaiaa.Old
open Go.RowKit

set_option maxHeartbeats 4000000 in
theorem implPick_early (ao : Option Addr) (cap : Nat) (ts : List (Int × Int)) (qo : Option Addr) (qcap : Nat) (q : List Int) (iv : Int) (w : World) (hl : ts.length ≤ 1048576) (hlq : q.length ≤ 1048576) (hz : TasksIn w.heap.size w ao ts) (hq : IntsIn w.heap.size w qo q) (he : specGoodB ts q = false ∨ 0 ≤ runI ts ∨ q.length = 0) :
    Calls Try.prog 5 #[.agg #[.slice ao ts.length cap, .slice qo q.length qcap], .int .i64 iv] w fun e w' => Ans3 w (pickR iv ts q) e w' := by
  generalize hR : pickR iv ts q = R
  have HR : Hid (pickR iv ts q = R) := hR
  clear hR
  go_enter Try.func5, Try.ntmps5
  go_wp2_with fail
  refine (implGood_any ao cap ts qo qcap q _ hl (hz.later (below2 _ _ _)) (hq.later (below2 _ _ _))).mono ?_
  rintro e w1 ⟨rfl, hb1⟩
  have hB1 := (below2 w (.cells #[.slice ao ts.length cap, .slice qo q.length qcap] 26) (.cells #[.slice none 0 0, .slice none 0 0] 26)).trans (hb1.mono (by simp; omega))
  have hs1 : w.heap.size + 1 < w1.heap.size := by have := hb1.size; simp at this; omega
  have b0 : w1.cell? ⟨w.heap.size, 0, none⟩ = some (.slice ao ts.length cap) := (hb1.cell (p := ⟨w.heap.size, 0, none⟩) (by simp; omega)).trans (by simp [go_sem])
  have b1 : w1.cell? ⟨w.heap.size, 1, none⟩ = some (.slice qo q.length qcap) := (hb1.cell (p := ⟨w.heap.size, 1, none⟩) (by simp; omega)).trans (by simp [go_sem])
  have r0 : w1.cell? ⟨w.heap.size + 1, 0, none⟩ = some (.slice none 0 0) := (hb1.cell (p := ⟨w.heap.size + 1, 0, none⟩) (by simp)).trans (by simp [go_sem])
  have r1 : w1.cell? ⟨w.heap.size + 1, 1, none⟩ = some (.slice none 0 0) := (hb1.cell (p := ⟨w.heap.size + 1, 1, none⟩) (by simp)).trans (by simp [go_sem])
  have f0 : w1.frozen? ⟨w.heap.size + 1, 0, none⟩ = false := (hb1.frozen (p := ⟨w.heap.size + 1, 0, none⟩) (by simp)).trans (by simp [go_sem])
  have f1 : w1.frozen? ⟨w.heap.size + 1, 1, none⟩ = false := (hb1.frozen (p := ⟨w.heap.size + 1, 1, none⟩) (by simp)).trans (by simp [go_sem])
  clear hb1
  cases hg : specGoodB ts q
  · have HR2 : Hid (R = ([], [], 0, 1)) := by rw [Hid, ← HR.out, pickR, hg]; rfl
    clear hg HR
    go_wp2
    refine bodyPost_ret (v := .tuple #[.agg #[.slice none 0 0, .slice none 0 0], .int .i64 0, .int .i64 1]) (by simp [results, Try.results5, go_sem, r0, r1]) rfl ?_
    rw [HR2.out]
    exact ans3_of hB1 (.inl rfl) (.inl rfl) _ _
  · have HG : Hid (specGoodB ts q = true) := hg
    clear hg
    have HE : Hid (specGoodB ts q = false ∨ 0 ≤ runI ts ∨ q.length = 0) := he
    clear he
    go_wp2_with fail
    refine (runningTask_any ao cap ts qo q.length qcap _ hl (hz.later hB1)).mono ?_
    rintro e w2 ⟨rfl, hb2⟩
    have hB2 := hB1.trans (hb2.mono hB1.size)
    have hs2 : w.heap.size + 1 < w2.heap.size := Nat.lt_of_lt_of_le hs1 hb2.size
    have c0 : w2.cell? ⟨w.heap.size, 0, none⟩ = some (.slice ao ts.length cap) := (hb2.cell (p := ⟨w.heap.size, 0, none⟩) (by simp; omega)).trans b0
    have c1 : w2.cell? ⟨w.heap.size, 1, none⟩ = some (.slice qo q.length qcap) := (hb2.cell (p := ⟨w.heap.size, 1, none⟩) (by simp; omega)).trans b1
    have d0 : w2.cell? ⟨w.heap.size + 1, 0, none⟩ = some (.slice none 0 0) := (hb2.cell (p := ⟨w.heap.size + 1, 0, none⟩) hs1).trans r0
    have d1 : w2.cell? ⟨w.heap.size + 1, 1, none⟩ = some (.slice none 0 0) := (hb2.cell (p := ⟨w.heap.size + 1, 1, none⟩) hs1).trans r1
    have d2 : w2.frozen? ⟨w.heap.size + 1, 0, none⟩ = false := (hb2.frozen (p := ⟨w.heap.size + 1, 0, none⟩) hs1).trans f0
    have d3 : w2.frozen? ⟨w.heap.size + 1, 1, none⟩ = false := (hb2.frozen (p := ⟨w.heap.size + 1, 1, none⟩) hs1).trans f1
    clear hb2 b0 b1 r0 r1 f0 f1
    cases hf : firstRun ts with
    | some i =>
      have HR2 : Hid (R = (ts, q, 0, 3)) := by rw [Hid, ← HR.out, pickR, HG.out, if_pos rfl, if_pos (by rw [runI, hf]; simp)]
      rw [show runV ts = .tuple #[.int .i64 (i : Int), .bool true] from by rw [runV, hf]]
      clear hf HR
      go_wp2_with fail
      refine (copyBoard_any ao cap ts qo qcap q _ hl hlq (hz.later hB2) (hq.later hB2)).mono ?_
      rintro e w3 ⟨⟨to, go, rfl, hT, hI⟩, hb3⟩
      have hB3 := hB2.trans (hb3.mono hB2.size)
      have g0 : w3.cell? ⟨w.heap.size + 1, 0, none⟩ = some (.slice none 0 0) := (hb3.cell (p := ⟨w.heap.size + 1, 0, none⟩) hs2).trans d0
      have g1 : w3.cell? ⟨w.heap.size + 1, 1, none⟩ = some (.slice none 0 0) := (hb3.cell (p := ⟨w.heap.size + 1, 1, none⟩) hs2).trans d1
      have g2 : w3.frozen? ⟨w.heap.size + 1, 0, none⟩ = false := (hb3.frozen (p := ⟨w.heap.size + 1, 0, none⟩) hs2).trans d2
      have g3 : w3.frozen? ⟨w.heap.size + 1, 1, none⟩ = false := (hb3.frozen (p := ⟨w.heap.size + 1, 1, none⟩) hs2).trans d3
      have HF : Hid (FreshT w2.heap.size w3.heap.size w3 to ts.length ts ∧ FreshI w2.heap.size w3.heap.size w3 go q.length q) := ⟨hT, hI⟩
      clear hT hI hb3
      go_wp2
      refine bodyPost_ret (v := .tuple #[.agg #[.slice to ts.length ts.length, .slice go q.length q.length], .int .i64 0, .int .i64 3]) (by simp [results, Try.results5, go_sem, g0, g1]) rfl ?_
      rw [HR2.out]
      exact ans3_of hB3 (HF.out.1.wide (by omega) (Nat.le_refl _)) (HF.out.2.wide (by omega) (Nat.le_refl _)) _ _
    | none =>
      have hx : ¬ 0 ≤ runI ts := by rw [runI, hf]; simp
      have hq0 : q.length = 0 := by
        rcases HE.out with h | h | h
        · rw [HG.out] at h; cases h
        · exact absurd h hx
        · exact h
      have HR2 : Hid (R = (ts, q, 0, 2)) := by rw [Hid, ← HR.out, pickR, HG.out, if_pos rfl, if_neg hx, if_pos hq0]
      rw [show runV ts = .tuple #[.int .i64 0, .bool false] from by rw [runV, hf]]
      have hq0' : ((q.length : Int) == 0) = true := by simpa using hq0
      clear hf HR hx hq0 HE
      go_wp2_with fail
      refine (copyBoard_any ao cap ts qo qcap q _ hl hlq (hz.later hB2) (hq.later hB2)).mono ?_
      rintro e w3 ⟨⟨to, go, rfl, hT, hI⟩, hb3⟩
      have hB3 := hB2.trans (hb3.mono hB2.size)
      have g0 : w3.cell? ⟨w.heap.size + 1, 0, none⟩ = some (.slice none 0 0) := (hb3.cell (p := ⟨w.heap.size + 1, 0, none⟩) hs2).trans d0
      have g1 : w3.cell? ⟨w.heap.size + 1, 1, none⟩ = some (.slice none 0 0) := (hb3.cell (p := ⟨w.heap.size + 1, 1, none⟩) hs2).trans d1
      have g2 : w3.frozen? ⟨w.heap.size + 1, 0, none⟩ = false := (hb3.frozen (p := ⟨w.heap.size + 1, 0, none⟩) hs2).trans d2
      have g3 : w3.frozen? ⟨w.heap.size + 1, 1, none⟩ = false := (hb3.frozen (p := ⟨w.heap.size + 1, 1, none⟩) hs2).trans d3
      have HF : Hid (FreshT w2.heap.size w3.heap.size w3 to ts.length ts ∧ FreshI w2.heap.size w3.heap.size w3 go q.length q) := ⟨hT, hI⟩
      clear hT hI hb3
      go_wp2
      refine bodyPost_ret (v := .tuple #[.agg #[.slice to ts.length ts.length, .slice go q.length q.length], .int .i64 0, .int .i64 2]) (by simp [results, Try.results5, go_sem, g0, g1]) rfl ?_
      rw [HR2.out]
      exact ans3_of hB3 (HF.out.1.wide (by omega) (Nat.le_refl _)) (HF.out.2.wide (by omega) (Nat.le_refl _)) _ _
end Go.Proofs.Ytgbnbnjfaffaiaa.Old
