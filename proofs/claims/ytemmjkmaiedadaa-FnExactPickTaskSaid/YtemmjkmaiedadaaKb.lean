/- Kill, the specification's. No conditions but those written. -/
import Derived.Test.YtemmjkmaiedadaaKa
namespace Go.Proofs.Ytemmjkmaiedadaa
open Go.RowKit

/-- What KillTask answers. -/
def killR (iv : Int) (ts : List (Int × Int)) (q : List Int) : List (Int × Int) × List Int × Int :=
  if specGoodB ts q = true then (if iv < 0 ∨ (ts.length : Int) ≤ iv then (ts, q, 2) else if (ts[iv.toNat]?.getD (0, 0)).1 = 4 then (ts, q, 4) else (ts.set iv.toNat (4, 0), wout q iv, 0)) else ([], [], 1)
theorem killR_len (iv : Int) (ts : List (Int × Int)) (q : List Int) (h1 : ts.length ≤ 1048576) (h2 : q.length ≤ 1048576) : (killR iv ts q).1.length ≤ 1048576 ∧ (killR iv ts q).2.1.length ≤ 1048576 := by
  unfold killR
  split
  · split
    · exact ⟨h1, h2⟩
    · split
      · exact ⟨h1, h2⟩
      · exact ⟨by simp; omega, Nat.le_trans (wout_len _ _) h2⟩
  · simp

set_option maxHeartbeats 4000000 in
theorem specKill_any (ad : Addr) (cap : Nat) (ts : List (Int × Int)) (qd : Addr) (qcap : Nat) (q : List Int) (iv : Int) (w : World) (hl : ts.length ≤ 1048576) (hlq : q.length ≤ 1048576) (hz : TasksIn w.heap.size w (some ad) ts) (hq : IntsIn w.heap.size w (some qd) q) :
    Calls Try.prog 31 #[.agg #[.slice (some ad) ts.length cap, .slice (some qd) q.length qcap], .int .i64 iv] w fun e w' => Ans2 w (killR iv ts q) e w' := by
  generalize hR : killR iv ts q = R
  have HR : Hid (killR iv ts q = R) := hR
  clear hR
  go_enter Try.func31, Try.ntmps31
  go_wp2_with fail
  refine (specGood_any (some ad) cap ts (some qd) qcap q _ hl hlq (hz.later (below2 _ _ _)) (hq.later (below2 _ _ _))).mono ?_
  rintro e w1 ⟨rfl, hb1⟩
  have hB1 := (below2 w (.cells #[.slice (some ad) ts.length cap, .slice (some qd) q.length qcap] 30) (.cells #[.slice none 0 0, .slice none 0 0] 30)).trans (hb1.mono (by simp; omega))
  have hs1 : w.heap.size + 1 < w1.heap.size := by have := hb1.size; simp at this; omega
  have b0 : w1.cell? ⟨w.heap.size, 0, none⟩ = some (.slice (some ad) ts.length cap) := (hb1.cell (p := ⟨w.heap.size, 0, none⟩) (by simp; omega)).trans (by simp [go_sem])
  have b1 : w1.cell? ⟨w.heap.size, 1, none⟩ = some (.slice (some qd) q.length qcap) := (hb1.cell (p := ⟨w.heap.size, 1, none⟩) (by simp; omega)).trans (by simp [go_sem])
  have bf0 : w1.frozen? ⟨w.heap.size, 0, none⟩ = false := (hb1.frozen (p := ⟨w.heap.size, 0, none⟩) (by simp; omega)).trans (by simp [go_sem])
  have bf1 : w1.frozen? ⟨w.heap.size, 1, none⟩ = false := (hb1.frozen (p := ⟨w.heap.size, 1, none⟩) (by simp; omega)).trans (by simp [go_sem])
  have r0 : w1.cell? ⟨w.heap.size + 1, 0, none⟩ = some (.slice none 0 0) := (hb1.cell (p := ⟨w.heap.size + 1, 0, none⟩) (by simp)).trans (by simp [go_sem])
  have r1 : w1.cell? ⟨w.heap.size + 1, 1, none⟩ = some (.slice none 0 0) := (hb1.cell (p := ⟨w.heap.size + 1, 1, none⟩) (by simp)).trans (by simp [go_sem])
  have f0 : w1.frozen? ⟨w.heap.size + 1, 0, none⟩ = false := (hb1.frozen (p := ⟨w.heap.size + 1, 0, none⟩) (by simp)).trans (by simp [go_sem])
  have f1 : w1.frozen? ⟨w.heap.size + 1, 1, none⟩ = false := (hb1.frozen (p := ⟨w.heap.size + 1, 1, none⟩) (by simp)).trans (by simp [go_sem])
  clear hb1
  cases hg : specGoodB ts q
  · have HR2 : Hid (R = ([], [], 1)) := by rw [Hid, ← HR.out, killR, hg]; rfl
    clear hg HR
    go_wp2
    refine bodyPost_ret (v := .tuple #[.agg #[.slice none 0 0, .slice none 0 0], .int .i64 1]) (by simp [results, Try.results31, go_sem, r0, r1]) rfl ?_
    rw [HR2.out]
    exact ans2_of hB1 (.inl rfl) (.inl rfl) _ _
  · have HG : Hid (specGoodB ts q = true) := hg
    clear hg
    go_wp2_with fail
    refine (l1Own_any ad cap ts qd qcap q _ hl hlq (hz.later hB1) (hq.later hB1)).mono ?_
    rintro e w2 ⟨⟨to, tc, go, qc, rfl, hT, hI, hT0, hI0⟩, hb2⟩
    have hB2 := hB1.trans (hb2.mono hB1.size)
    have hs2 : w.heap.size + 1 < w2.heap.size := Nat.lt_of_lt_of_le hs1 hb2.size
    have hs12 := hb2.size
    have hlt0 : w.heap.size < w1.heap.size := by omega
    have c0 : w2.cell? ⟨w.heap.size, 0, none⟩ = some (.slice (some ad) ts.length cap) := (hb2.cell (p := ⟨w.heap.size, 0, none⟩) hlt0).trans b0
    have c1 : w2.cell? ⟨w.heap.size, 1, none⟩ = some (.slice (some qd) q.length qcap) := (hb2.cell (p := ⟨w.heap.size, 1, none⟩) hlt0).trans b1
    have c2 : w2.frozen? ⟨w.heap.size, 0, none⟩ = false := (hb2.frozen (p := ⟨w.heap.size, 0, none⟩) hlt0).trans bf0
    have c3 : w2.frozen? ⟨w.heap.size, 1, none⟩ = false := (hb2.frozen (p := ⟨w.heap.size, 1, none⟩) hlt0).trans bf1
    have d0 : w2.cell? ⟨w.heap.size + 1, 0, none⟩ = some (.slice none 0 0) := (hb2.cell (p := ⟨w.heap.size + 1, 0, none⟩) hs1).trans r0
    have d1 : w2.cell? ⟨w.heap.size + 1, 1, none⟩ = some (.slice none 0 0) := (hb2.cell (p := ⟨w.heap.size + 1, 1, none⟩) hs1).trans r1
    have d2 : w2.frozen? ⟨w.heap.size + 1, 0, none⟩ = false := (hb2.frozen (p := ⟨w.heap.size + 1, 0, none⟩) hs1).trans f0
    have d3 : w2.frozen? ⟨w.heap.size + 1, 1, none⟩ = false := (hb2.frozen (p := ⟨w.heap.size + 1, 1, none⟩) hs1).trans f1
    have HF : Hid (FreshT w1.heap.size w2.heap.size w2 to tc ts ∧ FreshI w1.heap.size w2.heap.size w2 go qc q ∧ (ts = [] → tc = 0) ∧ (q = [] → qc = 0)) := ⟨hT, hI, hT0, hI0⟩
    clear hT hI hT0 hI0 hb2 b0 b1 bf0 bf1 r0 r1 f0 f1
    go_wp2_with fail
    obtain ⟨W3, hW3⟩ : ∃ W3, W3 = (w2.setCell ⟨w.heap.size, 0, none⟩ (.slice to ts.length tc)).setCell ⟨w.heap.size, 1, none⟩ (.slice go q.length qc) := ⟨_, rfl⟩
    rw [← hW3]
    have hs3 : W3.heap.size = w2.heap.size := by rw [hW3]; simp
    have hB3 : Below w.heap.size w W3 := by rw [hW3]; exact (hB2.setCell (p := ⟨w.heap.size, 0, none⟩) (by simp) _).setCell (p := ⟨w.heap.size, 1, none⟩) (by simp) _
    have e0 : W3.cell? ⟨w.heap.size, 0, none⟩ = some (.slice to ts.length tc) := by rw [hW3]; simp [go_sem, c0]
    have e1 : W3.cell? ⟨w.heap.size, 1, none⟩ = some (.slice go q.length qc) := by rw [hW3]; simp [go_sem, c1]
    have e2 : W3.frozen? ⟨w.heap.size, 1, none⟩ = false := by rw [hW3]; simp [go_sem, c3]
    have g0 : W3.cell? ⟨w.heap.size + 1, 0, none⟩ = some (.slice none 0 0) := by rw [hW3]; simp [go_sem, d0]
    have g1 : W3.cell? ⟨w.heap.size + 1, 1, none⟩ = some (.slice none 0 0) := by rw [hW3]; simp [go_sem, d1]
    have g2 : W3.frozen? ⟨w.heap.size + 1, 0, none⟩ = false := by rw [hW3]; simp [go_sem, d2]
    have g3 : W3.frozen? ⟨w.heap.size + 1, 1, none⟩ = false := by rw [hW3]; simp [go_sem, d3]
    have HF3 : Hid (FreshT w1.heap.size W3.heap.size W3 to tc ts ∧ FreshI w1.heap.size W3.heap.size W3 go qc q ∧ (ts = [] → tc = 0) ∧ (q = [] → qc = 0)) := by
      rw [hs3, hW3]
      exact ⟨(HF.out.1.setBelow (a := ⟨w.heap.size, 0, none⟩) hlt0 _).setBelow (a := ⟨w.heap.size, 1, none⟩) hlt0 _, (HF.out.2.1.setBelow (a := ⟨w.heap.size, 0, none⟩) hlt0 _).setBelow (a := ⟨w.heap.size, 1, none⟩) hlt0 _, HF.out.2.2⟩
    clear hW3 HF c0 c1 c2 c3 d0 d1 d2 d3
    have hltB : w.heap.size < W3.heap.size := by omega
    have hltR : w.heap.size + 1 < W3.heap.size := by omega
    have hs3a : w2.heap.size ≤ W3.heap.size := by omega
    have hB4 := hB3
    have h0 := e0
    have h1 := e1
    have h2 := e2
    have k0 := g0
    have k1 := g1
    have k2 := g2
    have k3 := g3
    have HF4 := HF3
    clear e0 e1 e2 g0 g1 g2 g3 HF3 hB3 hs3
    by_cases hx : iv < 0 ∨ (ts.length : Int) ≤ iv
    · have HR2 : Hid (R = (ts, q, 2)) := by rw [Hid, ← HR.out, killR, HG.out, if_pos rfl, if_pos hx]
      refine (l1In_is iv 0 ((ts.length : Int) - 1) W3 false (by simp; omega)).mono ?_
      rintro e w4 ⟨rfl, hw4⟩
      rw [hw4]
      clear hw4
      clear hx HR
      go_wp2
      refine bodyPost_ret (v := .tuple #[.agg #[.slice to ts.length tc, .slice go q.length qc], .int .i64 2]) (by simp [results, Try.results31, go_sem, k0, k1]) rfl ?_
      rw [HR2.out]
      exact ans2_of hB4 (HF4.out.1.wide (by omega) (Nat.le_refl _)) (HF4.out.2.1.wide (by omega) (Nat.le_refl _)) _ _
    · obtain ⟨id, rfl⟩ : ∃ id : Nat, iv = id := ⟨iv.toNat, by omega⟩
      have hid : id < ts.length := by omega
      refine (l1In_is (id : Int) 0 ((ts.length : Int) - 1) W3 true (by simp; omega)).mono ?_
      rintro e w4 ⟨rfl, hw4⟩
      rw [hw4]
      clear hw4
      obtain ⟨s, hs⟩ : ∃ s, s = (ts[id]?.getD (0, 0)).1 := ⟨_, rfl⟩
      have HS : Hid (s = (ts[id]?.getD (0, 0)).1) := hs
      have htk := HF4.out.1.tasks
      obtain ⟨g, rfl, hg1, hg2, hg3, hcs, hfs, hput⟩ := HF4.out.1.at (by omega)
      obtain ⟨b, off, e, _, hc⟩ := htk.pos hid
      cases e
      have hu0 := (hc id hid).1
      rw [Nat.zero_add, ← hs] at hu0
      have hgB : g ≠ w.heap.size := by omega
      have hgR : g ≠ w.heap.size + 1 := by omega
      have hi0 : (0 : Int) ≤ (id : Int) := by omega
      have hi1 : (id : Int) < (ts.length : Int) := by omega
      clear hcs hfs htk hc hput hs
      by_cases h3 : s = 4
      · have HR2 : Hid (R = (ts, q, 4)) := by
          rw [Hid, ← HR.out, killR, HG.out, if_pos rfl, if_neg hx, if_pos (by rw [Int.toNat_natCast, ← HS.out]; exact h3)]
        have h3' : (s == 4) = true := by simpa using h3
        clear h3 HR hx
        go_wp2
        refine bodyPost_ret (v := .tuple #[.agg #[.slice (some ⟨g, 0, none⟩) ts.length tc, .slice go q.length qc], .int .i64 4]) (by simp [results, Try.results31, go_sem, k0, k1]) rfl ?_
        rw [HR2.out]
        exact ans2_of hB4 (HF4.out.1.wide (by omega) (Nat.le_refl _)) (HF4.out.2.1.wide (by omega) (Nat.le_refl _)) _ _
      · have HR2 : Hid (R = (ts.set id (4, 0), wout q id, 0)) := by
          rw [Hid, ← HR.out, killR, HG.out, if_pos rfl, if_neg hx, if_neg (by rw [Int.toNat_natCast, ← HS.out]; exact h3), Int.toNat_natCast]
        have h3' : (s == 4) = false := by simpa using h3
        clear h3 HR hx
        go_wp2_with fail
        refine (l1Without_any go qc q id W3 hlq HF4.out.2.1.ints).mono ?_
        rintro e w5 ⟨⟨go5, qc5, rfl, hI5⟩, hb5⟩
        have hs5 := hb5.size
        have hB5 := hB4.trans (hb5.mono hB4.size)
        have l0 : w5.cell? ⟨w.heap.size, 0, none⟩ = some (.slice (some ⟨g, 0, none⟩) ts.length tc) := (hb5.cell (p := ⟨w.heap.size, 0, none⟩) hltB).trans h0
        have l1 : w5.cell? ⟨w.heap.size, 1, none⟩ = some (.slice go q.length qc) := (hb5.cell (p := ⟨w.heap.size, 1, none⟩) hltB).trans h1
        have l2 : w5.frozen? ⟨w.heap.size, 1, none⟩ = false := (hb5.frozen (p := ⟨w.heap.size, 1, none⟩) hltB).trans h2
        have n0 : w5.cell? ⟨w.heap.size + 1, 0, none⟩ = some (.slice none 0 0) := (hb5.cell (p := ⟨w.heap.size + 1, 0, none⟩) hltR).trans k0
        have n1 : w5.cell? ⟨w.heap.size + 1, 1, none⟩ = some (.slice none 0 0) := (hb5.cell (p := ⟨w.heap.size + 1, 1, none⟩) hltR).trans k1
        have n2 : w5.frozen? ⟨w.heap.size + 1, 0, none⟩ = false := (hb5.frozen (p := ⟨w.heap.size + 1, 0, none⟩) hltR).trans k2
        have n3 : w5.frozen? ⟨w.heap.size + 1, 1, none⟩ = false := (hb5.frozen (p := ⟨w.heap.size + 1, 1, none⟩) hltR).trans k3
        have hT5 := HF4.out.1.later hb5
        obtain ⟨g2, e2, _, _, _, hcs, hfs, hput⟩ := hT5.at (by omega)
        cases e2
        obtain ⟨u0, hv0⟩ := hcs (id * 2) (by omega)
        obtain ⟨u1, hv1⟩ := hcs (id * 2 + 1) (by omega)
        have hv2 := hfs (id * 2)
        have hv3 := hfs (id * 2 + 1)
        have HP : Hid ((∀ (id : Nat) (s p : Int), id < ts.length → FreshT w1.heap.size W3.heap.size ((w5.setCell ⟨g, id * 2, none⟩ (.int .i64 s)).setCell ⟨g, id * 2 + 1, none⟩ (.int .i64 p)) (some ⟨g, 0, none⟩) tc (ts.set id (s, p))) ∧ FreshT w1.heap.size W3.heap.size w5 (some ⟨g, 0, none⟩) tc ts ∧ FreshI W3.heap.size w5.heap.size w5 go5 qc5 (wout q id)) := ⟨hput, hT5, hI5⟩
        have hgW : g < W3.heap.size := by omega
        clear hcs hfs hput hT5 hI5 hb5 h0 h1 h2 k0 k1 k2 k3
        go_wp2
        have hT6 := HP.out.2.1.setBelow (a := ⟨w.heap.size, 1, none⟩) hlt0 (.slice go5 (wout q id).length qc5)
        obtain ⟨g3, e3, _, _, _, _, _, hput⟩ := hT6.at (by omega)
        cases e3
        have hT7 := hput id 4 0 hid
        have hI7 := ((HP.out.2.2.setBelow (a := ⟨w.heap.size, 1, none⟩) hltB (.slice go5 (wout q id).length qc5)).setBelow (a := ⟨g, id * 2, none⟩) hgW (.int .i64 4)).setBelow (a := ⟨g, id * 2 + 1, none⟩) hgW (.int .i64 0)
        refine bodyPost_ret (v := .tuple #[.agg #[.slice (some ⟨g, 0, none⟩) ts.length tc, .slice go5 (wout q id).length qc5], .int .i64 0]) (by simp [results, Try.results31, go_sem, n0, n1]) rfl ?_
        rw [HR2.out]
        have h := ans2_of (c := 0) (((hB5.setCell (p := ⟨w.heap.size, 1, none⟩) (by simp) (.slice go5 (wout q id).length qc5)).setCell (p := ⟨g, id * 2, none⟩) (by simp; omega) (.int .i64 4)).setCell (p := ⟨g, id * 2 + 1, none⟩) (by simp; omega) (.int .i64 0)) (hT7.wide (by omega) (by simp; omega)) (hI7.wide (by omega) (by simp)) (.slice (some ⟨g, 0, none⟩) ts.length tc) (.slice go5 (wout q id).length qc5)
        simpa using h
end Go.Proofs.Ytemmjkmaiedadaa
