/- Wake: the program's and the specification's. No conditions but those written. -/
import Derived.Test.YtemmjkmaiedadaaMh
namespace Go.Proofs.Ytemmjkmaiedadaa
open Go.RowKit

/-- What WakeTask answers. -/
def wakeR (iv : Int) (ts : List (Int × Int)) (q : List Int) : List (Int × Int) × List Int × Int :=
  if specGoodB ts q = true then (if iv < 0 ∨ (ts.length : Int) ≤ iv then (ts, q, 2) else if (ts[iv.toNat]?.getD (0, 0)).1 ≠ 3 then (ts, q, 4) else (ts.set iv.toNat (1, 0), q ++ [iv], 0)) else ([], [], 1)
theorem wakeR_len (iv : Int) (ts : List (Int × Int)) (q : List Int) (h1 : ts.length ≤ 1048576) (h2 : q.length ≤ 1048576) : (wakeR iv ts q).1.length ≤ 1048576 ∧ (wakeR iv ts q).2.1.length ≤ 1048576 := by
  unfold wakeR
  split
  · rename_i hg
    have hq := good_queue ts q hg
    split
    · exact ⟨h1, h2⟩
    · split
      · exact ⟨h1, h2⟩
      · exact ⟨by simp; omega, by simp; omega⟩
  · simp

set_option maxHeartbeats 4000000 in
theorem implWake_any (ao : Option Addr) (cap : Nat) (ts : List (Int × Int)) (qo : Option Addr) (qcap : Nat) (q : List Int) (iv : Int) (w : World) (hl : ts.length ≤ 1048576) (hlq : q.length ≤ 1048576) (hz : TasksIn w.heap.size w ao ts) (hq : IntsIn w.heap.size w qo q) :
    Calls Try.prog 30 #[.agg #[.slice ao ts.length cap, .slice qo q.length qcap], .int .i64 iv] w fun e w' => Ans2 w (wakeR iv ts q) e w' := by
  generalize hR : wakeR iv ts q = R
  have HR : Hid (wakeR iv ts q = R) := hR
  clear hR
  go_enter Try.func30, Try.ntmps30
  go_wp2_with fail
  refine (implGood_any ao cap ts qo qcap q _ hl (hz.later (below2 _ _ _)) (hq.later (below2 _ _ _))).mono ?_
  rintro e w1 ⟨rfl, hb1⟩
  have hB1 := (below2 w (.cells #[.slice ao ts.length cap, .slice qo q.length qcap] 30) (.cells #[.slice none 0 0, .slice none 0 0] 30)).trans (hb1.mono (by simp; omega))
  have hs1 : w.heap.size + 1 < w1.heap.size := by have := hb1.size; simp at this; omega
  have b0 : w1.cell? ⟨w.heap.size, 0, none⟩ = some (.slice ao ts.length cap) := (hb1.cell (p := ⟨w.heap.size, 0, none⟩) (by simp; omega)).trans (by simp [go_sem])
  have b1 : w1.cell? ⟨w.heap.size, 1, none⟩ = some (.slice qo q.length qcap) := (hb1.cell (p := ⟨w.heap.size, 1, none⟩) (by simp; omega)).trans (by simp [go_sem])
  have r0 : w1.cell? ⟨w.heap.size + 1, 0, none⟩ = some (.slice none 0 0) := (hb1.cell (p := ⟨w.heap.size + 1, 0, none⟩) (by simp)).trans (by simp [go_sem])
  have r1 : w1.cell? ⟨w.heap.size + 1, 1, none⟩ = some (.slice none 0 0) := (hb1.cell (p := ⟨w.heap.size + 1, 1, none⟩) (by simp)).trans (by simp [go_sem])
  have f0 : w1.frozen? ⟨w.heap.size + 1, 0, none⟩ = false := (hb1.frozen (p := ⟨w.heap.size + 1, 0, none⟩) (by simp)).trans (by simp [go_sem])
  have f1 : w1.frozen? ⟨w.heap.size + 1, 1, none⟩ = false := (hb1.frozen (p := ⟨w.heap.size + 1, 1, none⟩) (by simp)).trans (by simp [go_sem])
  clear hb1
  cases hg : specGoodB ts q
  · have HR2 : Hid (R = ([], [], 1)) := by rw [Hid, ← HR.out, wakeR, hg]; rfl
    clear hg HR
    go_wp2
    refine bodyPost_ret (v := .tuple #[.agg #[.slice none 0 0, .slice none 0 0], .int .i64 1]) (by simp [results, Try.results30, go_sem, r0, r1]) rfl ?_
    rw [HR2.out]
    exact ans2_of hB1 (.inl rfl) (.inl rfl) _ _
  · have HG : Hid (specGoodB ts q = true) := hg
    clear hg
    by_cases hx : iv < 0 ∨ (ts.length : Int) ≤ iv
    · have HR2 : Hid (R = (ts, q, 2)) := by rw [Hid, ← HR.out, wakeR, HG.out, if_pos rfl, if_pos hx]
      have HX : Hid (iv < 0 ∨ (ts.length : Int) ≤ iv) := hx
      clear hx HR
      go_wp2_with fail
      refine (hasTask_no ao ts.length cap (.slice qo q.length qcap) iv _ hl ⟨_, _, _, rfl⟩ HX.out).mono ?_
      rintro e w2 ⟨rfl, hb2⟩
      have hB2 := hB1.trans (hb2.mono hB1.size)
      have hs2 : w.heap.size + 1 < w2.heap.size := Nat.lt_of_lt_of_le hs1 hb2.size
      have c0 : w2.cell? ⟨w.heap.size, 0, none⟩ = some (.slice ao ts.length cap) := (hb2.cell (p := ⟨w.heap.size, 0, none⟩) (by simp; omega)).trans b0
      have c1 : w2.cell? ⟨w.heap.size, 1, none⟩ = some (.slice qo q.length qcap) := (hb2.cell (p := ⟨w.heap.size, 1, none⟩) (by simp; omega)).trans b1
      have d0 : w2.cell? ⟨w.heap.size + 1, 0, none⟩ = some (.slice none 0 0) := (hb2.cell (p := ⟨w.heap.size + 1, 0, none⟩) hs1).trans r0
      have d1 : w2.cell? ⟨w.heap.size + 1, 1, none⟩ = some (.slice none 0 0) := (hb2.cell (p := ⟨w.heap.size + 1, 1, none⟩) hs1).trans r1
      have d2 : w2.frozen? ⟨w.heap.size + 1, 0, none⟩ = false := (hb2.frozen (p := ⟨w.heap.size + 1, 0, none⟩) hs1).trans f0
      have d3 : w2.frozen? ⟨w.heap.size + 1, 1, none⟩ = false := (hb2.frozen (p := ⟨w.heap.size + 1, 1, none⟩) hs1).trans f1
      clear hb2 b0 b1 r0 r1 f0 f1
      go_wp2_with fail
      refine (copyBoard_any ao cap ts qo qcap q _ hl hlq (hz.later hB2) (hq.later hB2)).mono ?_
      rintro e w3 ⟨⟨to, go, rfl, hT, hI⟩, hb3⟩
      have hB3 := hB2.trans (hb3.mono hB2.size)
      have g0 : w3.cell? ⟨w.heap.size + 1, 0, none⟩ = some (.slice none 0 0) := (hb3.cell (p := ⟨w.heap.size + 1, 0, none⟩) hs2).trans d0
      have g1 : w3.cell? ⟨w.heap.size + 1, 1, none⟩ = some (.slice none 0 0) := (hb3.cell (p := ⟨w.heap.size + 1, 1, none⟩) hs2).trans d1
      have g2 : w3.frozen? ⟨w.heap.size + 1, 0, none⟩ = false := (hb3.frozen (p := ⟨w.heap.size + 1, 0, none⟩) hs2).trans d2
      have g3 : w3.frozen? ⟨w.heap.size + 1, 1, none⟩ = false := (hb3.frozen (p := ⟨w.heap.size + 1, 1, none⟩) hs2).trans d3
      have HF : Hid (FreshT w2.heap.size w3.heap.size w3 to ts.length ts ∧ FreshI w2.heap.size w3.heap.size w3 go q.length q) := ⟨hT, hI⟩
      clear hT hI hb3
      go_wp2
      refine bodyPost_ret (v := .tuple #[.agg #[.slice to ts.length ts.length, .slice go q.length q.length], .int .i64 2]) (by simp [results, Try.results30, go_sem, g0, g1]) rfl ?_
      rw [HR2.out]
      exact ans2_of hB3 (HF.out.1.wide (by omega) (Nat.le_refl _)) (HF.out.2.wide (by omega) (Nat.le_refl _)) _ _
    · obtain ⟨id, rfl⟩ : ∃ id : Nat, iv = id := ⟨iv.toNat, by omega⟩
      have hid : id < ts.length := by omega
      obtain ⟨b, off, rfl, hb, hc⟩ := hz.pos hid
      have hidi : (id : Int) < (ts.length : Int) := by omega
      go_wp2_with fail
      refine (hasTask_yes (some ⟨b, off, none⟩) ts.length cap (.slice qo q.length qcap) id _ hl ⟨_, _, _, rfl⟩ (by omega) (by omega)).mono ?_
      rintro e w2 ⟨rfl, hb2⟩
      have hB2 := hB1.trans (hb2.mono hB1.size)
      have hs2 : w.heap.size + 1 < w2.heap.size := Nat.lt_of_lt_of_le hs1 hb2.size
      have c0 : w2.cell? ⟨w.heap.size, 0, none⟩ = some (.slice (some ⟨b, off, none⟩) ts.length cap) := (hb2.cell (p := ⟨w.heap.size, 0, none⟩) (by simp; omega)).trans b0
      have c1 : w2.cell? ⟨w.heap.size, 1, none⟩ = some (.slice qo q.length qcap) := (hb2.cell (p := ⟨w.heap.size, 1, none⟩) (by simp; omega)).trans b1
      have d0 : w2.cell? ⟨w.heap.size + 1, 0, none⟩ = some (.slice none 0 0) := (hb2.cell (p := ⟨w.heap.size + 1, 0, none⟩) hs1).trans r0
      have d1 : w2.cell? ⟨w.heap.size + 1, 1, none⟩ = some (.slice none 0 0) := (hb2.cell (p := ⟨w.heap.size + 1, 1, none⟩) hs1).trans r1
      have d2 : w2.frozen? ⟨w.heap.size + 1, 0, none⟩ = false := (hb2.frozen (p := ⟨w.heap.size + 1, 0, none⟩) hs1).trans f0
      have d3 : w2.frozen? ⟨w.heap.size + 1, 1, none⟩ = false := (hb2.frozen (p := ⟨w.heap.size + 1, 1, none⟩) hs1).trans f1
      clear hb2 b0 b1 r0 r1 f0 f1
      have hk1 := (hB2.cell (p := ⟨b, off + id * 2, none⟩) hb).trans (hc id hid).1
      clear hc
      obtain ⟨s, hs⟩ : ∃ s, s = (ts[id]?.getD (0, 0)).1 := ⟨_, rfl⟩
      rw [← hs] at hk1
      have HS : Hid (s = (ts[id]?.getD (0, 0)).1) := hs
      clear hs
      by_cases h3 : s = 3
      · have HR2 : Hid (R = (ts.set id (1, 0), q ++ [(id : Int)], 0)) := by
          rw [Hid, ← HR.out, wakeR, HG.out, if_pos rfl, if_neg hx, if_neg (by rw [Int.toNat_natCast, ← HS.out]; exact fun h => h h3), Int.toNat_natCast]
        have h3' : (s != 3) = false := by simpa using h3
        clear h3 HR hx
        go_wp2_with fail
        refine (withReady_any (some ⟨b, off, none⟩) cap ts qo qcap q id _ hl hlq hid (hz.later hB2) (hq.later hB2)).mono ?_
        rintro e w3 ⟨⟨to, go, rfl, hT, hI⟩, hb3⟩
        have hB3 := hB2.trans (hb3.mono hB2.size)
        have g0 : w3.cell? ⟨w.heap.size + 1, 0, none⟩ = some (.slice none 0 0) := (hb3.cell (p := ⟨w.heap.size + 1, 0, none⟩) hs2).trans d0
        have g1 : w3.cell? ⟨w.heap.size + 1, 1, none⟩ = some (.slice none 0 0) := (hb3.cell (p := ⟨w.heap.size + 1, 1, none⟩) hs2).trans d1
        have g2 : w3.frozen? ⟨w.heap.size + 1, 0, none⟩ = false := (hb3.frozen (p := ⟨w.heap.size + 1, 0, none⟩) hs2).trans d2
        have g3 : w3.frozen? ⟨w.heap.size + 1, 1, none⟩ = false := (hb3.frozen (p := ⟨w.heap.size + 1, 1, none⟩) hs2).trans d3
        have HF : Hid (FreshT w2.heap.size w3.heap.size w3 to ts.length (ts.set id (1, 0)) ∧ FreshI w2.heap.size w3.heap.size w3 go (q.length + 1) (q ++ [(id : Int)])) := ⟨hT, hI⟩
        clear hT hI hb3
        go_wp2
        refine bodyPost_ret (v := .tuple #[.agg #[.slice to ts.length ts.length, .slice go (q.length + 1) (q.length + 1)], .int .i64 0]) (by simp [results, Try.results30, go_sem, g0, g1]) rfl ?_
        rw [HR2.out]
        have h := ans2_of (c := 0) hB3 (HF.out.1.wide (by omega) (Nat.le_refl _)) (HF.out.2.wide (by omega) (Nat.le_refl _)) (.slice to ts.length ts.length) (.slice go (q.length + 1) (q.length + 1))
        simpa using h
      · have HR2 : Hid (R = (ts, q, 4)) := by
          rw [Hid, ← HR.out, wakeR, HG.out, if_pos rfl, if_neg hx, if_pos (by rw [Int.toNat_natCast, ← HS.out]; exact h3)]
        have h3' : (s != 3) = true := by simpa using h3
        clear h3 HR hx
        go_wp2_with fail
        refine (copyBoard_any (some ⟨b, off, none⟩) cap ts qo qcap q _ hl hlq (hz.later hB2) (hq.later hB2)).mono ?_
        rintro e w3 ⟨⟨to, go, rfl, hT, hI⟩, hb3⟩
        have hB3 := hB2.trans (hb3.mono hB2.size)
        have g0 : w3.cell? ⟨w.heap.size + 1, 0, none⟩ = some (.slice none 0 0) := (hb3.cell (p := ⟨w.heap.size + 1, 0, none⟩) hs2).trans d0
        have g1 : w3.cell? ⟨w.heap.size + 1, 1, none⟩ = some (.slice none 0 0) := (hb3.cell (p := ⟨w.heap.size + 1, 1, none⟩) hs2).trans d1
        have g2 : w3.frozen? ⟨w.heap.size + 1, 0, none⟩ = false := (hb3.frozen (p := ⟨w.heap.size + 1, 0, none⟩) hs2).trans d2
        have g3 : w3.frozen? ⟨w.heap.size + 1, 1, none⟩ = false := (hb3.frozen (p := ⟨w.heap.size + 1, 1, none⟩) hs2).trans d3
        have HF : Hid (FreshT w2.heap.size w3.heap.size w3 to ts.length ts ∧ FreshI w2.heap.size w3.heap.size w3 go q.length q) := ⟨hT, hI⟩
        clear hT hI hb3
        go_wp2
        refine bodyPost_ret (v := .tuple #[.agg #[.slice to ts.length ts.length, .slice go q.length q.length], .int .i64 4]) (by simp [results, Try.results30, go_sem, g0, g1]) rfl ?_
        rw [HR2.out]
        exact ans2_of hB3 (HF.out.1.wide (by omega) (Nat.le_refl _)) (HF.out.2.wide (by omega) (Nat.le_refl _)) _ _
end Go.Proofs.Ytemmjkmaiedadaa
