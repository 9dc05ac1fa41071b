
/- Wake, the specification's. No conditions but those written. -/
import Derived.Test.YtgbnbnjfaffaiaaOMi
namespace Go.Proofs.Ytgbnbnjfaffaiaa.Old
open Go.RowKit

set_option maxHeartbeats 4000000 in
theorem specWake_any (ao : Option Addr) (cap : Nat) (ts : List (Int × Int)) (qo : Option Addr) (qcap : Nat) (q : List Int) (iv : Int) (w : World) (hwf : (ao = none → cap = 0) ∧ (qo = none → qcap = 0)) (hl : ts.length ≤ 1048576) (hlq : q.length ≤ 1048576) (hz : TasksIn w.heap.size w ao ts) (hq : IntsIn w.heap.size w qo q) :
    Calls Try.prog 34 #[.agg #[.slice ao ts.length cap, .slice qo q.length qcap], .int .i64 iv] w fun e w' => Ans2 w (wakeR iv ts q) e w' := by
  generalize hR : wakeR iv ts q = R
  have HR : Hid (wakeR iv ts q = R) := hR
  clear hR
  go_enter Try.func34, Try.ntmps34
  go_wp2_with fail
  refine (specGood_any ao cap ts qo qcap q _ hl hlq (hz.later (below2 _ _ _)) (hq.later (below2 _ _ _))).mono ?_
  rintro e w1 ⟨rfl, hb1⟩
  have hB1 := (below2 w (.cells #[.slice ao ts.length cap, .slice qo q.length qcap] 26) (.cells #[.slice none 0 0, .slice none 0 0] 26)).trans (hb1.mono (by simp; omega))
  have hs1 : w.heap.size + 1 < w1.heap.size := by have := hb1.size; simp at this; omega
  have b0 : w1.cell? ⟨w.heap.size, 0, none⟩ = some (.slice ao ts.length cap) := (hb1.cell (p := ⟨w.heap.size, 0, none⟩) (by simp; omega)).trans (by simp [go_sem])
  have b1 : w1.cell? ⟨w.heap.size, 1, none⟩ = some (.slice qo q.length qcap) := (hb1.cell (p := ⟨w.heap.size, 1, none⟩) (by simp; omega)).trans (by simp [go_sem])
  have bf0 : w1.frozen? ⟨w.heap.size, 0, none⟩ = false := (hb1.frozen (p := ⟨w.heap.size, 0, none⟩) (by simp; omega)).trans (by simp [go_sem])
  have bf1 : w1.frozen? ⟨w.heap.size, 1, none⟩ = false := (hb1.frozen (p := ⟨w.heap.size, 1, none⟩) (by simp; omega)).trans (by simp [go_sem])
  have r0 : w1.cell? ⟨w.heap.size + 1, 0, none⟩ = some (.slice none 0 0) := (hb1.cell (p := ⟨w.heap.size + 1, 0, none⟩) (by simp)).trans (by simp [go_sem])
  have r1 : w1.cell? ⟨w.heap.size + 1, 1, none⟩ = some (.slice none 0 0) := (hb1.cell (p := ⟨w.heap.size + 1, 1, none⟩) (by simp)).trans (by simp [go_sem])
  have f0 : w1.frozen? ⟨w.heap.size + 1, 0, none⟩ = false := (hb1.frozen (p := ⟨w.heap.size + 1, 0, none⟩) (by simp)).trans (by simp [go_sem])
  have f1 : w1.frozen? ⟨w.heap.size + 1, 1, none⟩ = false := (hb1.frozen (p := ⟨w.heap.size + 1, 1, none⟩) (by simp)).trans (by simp [go_sem])
  clear hb1
  cases hg : specGoodB ts q
  · have HR2 : Hid (R = ([], [], 1)) := by rw [Hid, ← HR.out, wakeR, hg]; rfl
    clear hg HR
    go_wp2
    refine bodyPost_ret (v := .tuple #[.agg #[.slice none 0 0, .slice none 0 0], .int .i64 1]) (by simp [results, Try.results34, go_sem, r0, r1]) rfl ?_
    rw [HR2.out]
    exact ans2_of hB1 (.inl rfl) (.inl rfl) _ _
  · have HG : Hid (specGoodB ts q = true) := hg
    clear hg
    go_wp2_with fail
    refine (l1Own_any ao cap ts qo qcap q _ hwf hl hlq (hz.later hB1) (hq.later hB1)).mono ?_
    rintro e w2 ⟨⟨to, tc, go, qc, rfl, hT, hI, hT0, hI0⟩, hb2⟩
    have hB2 := hB1.trans (hb2.mono hB1.size)
    have hs2 : w.heap.size + 1 < w2.heap.size := Nat.lt_of_lt_of_le hs1 hb2.size
    have hs12 := hb2.size
    have hlt0 : w.heap.size < w1.heap.size := by omega
    have c0 : w2.cell? ⟨w.heap.size, 0, none⟩ = some (.slice ao ts.length cap) := (hb2.cell (p := ⟨w.heap.size, 0, none⟩) hlt0).trans b0
    have c1 : w2.cell? ⟨w.heap.size, 1, none⟩ = some (.slice qo q.length qcap) := (hb2.cell (p := ⟨w.heap.size, 1, none⟩) hlt0).trans b1
    have c2 : w2.frozen? ⟨w.heap.size, 0, none⟩ = false := (hb2.frozen (p := ⟨w.heap.size, 0, none⟩) hlt0).trans bf0
    have c3 : w2.frozen? ⟨w.heap.size, 1, none⟩ = false := (hb2.frozen (p := ⟨w.heap.size, 1, none⟩) hlt0).trans bf1
    have d0 : w2.cell? ⟨w.heap.size + 1, 0, none⟩ = some (.slice none 0 0) := (hb2.cell (p := ⟨w.heap.size + 1, 0, none⟩) hs1).trans r0
    have d1 : w2.cell? ⟨w.heap.size + 1, 1, none⟩ = some (.slice none 0 0) := (hb2.cell (p := ⟨w.heap.size + 1, 1, none⟩) hs1).trans r1
    have d2 : w2.frozen? ⟨w.heap.size + 1, 0, none⟩ = false := (hb2.frozen (p := ⟨w.heap.size + 1, 0, none⟩) hs1).trans f0
    have d3 : w2.frozen? ⟨w.heap.size + 1, 1, none⟩ = false := (hb2.frozen (p := ⟨w.heap.size + 1, 1, none⟩) hs1).trans f1
    have HF : Hid (FreshT w1.heap.size w2.heap.size w2 to tc ts ∧ FreshI w1.heap.size w2.heap.size w2 go qc q ∧ (ts = [] → tc = 0) ∧ (q = [] → qc = 0)) := ⟨hT, hI, hT0, hI0⟩
    clear hT hI hT0 hI0 hb2 b0 b1 bf0 bf1 r0 r1 f0 f1
    go_wp2_with fail
    obtain ⟨W3, hW3⟩ : ∃ W3, W3 = (w2.setCell ⟨w.heap.size, 0, none⟩ (.slice to ts.length tc)).setCell ⟨w.heap.size, 1, none⟩ (.slice go q.length qc) := ⟨_, rfl⟩
    rw [← hW3]
    have hs3 : W3.heap.size = w2.heap.size := by rw [hW3]; simp
    have hB3 : Below w.heap.size w W3 := by rw [hW3]; exact (hB2.setCell (p := ⟨w.heap.size, 0, none⟩) (by simp) _).setCell (p := ⟨w.heap.size, 1, none⟩) (by simp) _
    have e0 : W3.cell? ⟨w.heap.size, 0, none⟩ = some (.slice to ts.length tc) := by rw [hW3]; simp [go_sem, c0]
    have e1 : W3.cell? ⟨w.heap.size, 1, none⟩ = some (.slice go q.length qc) := by rw [hW3]; simp [go_sem, c1]
    have e2 : W3.frozen? ⟨w.heap.size, 1, none⟩ = false := by rw [hW3]; simp [go_sem, c3]
    have g0 : W3.cell? ⟨w.heap.size + 1, 0, none⟩ = some (.slice none 0 0) := by rw [hW3]; simp [go_sem, d0]
    have g1 : W3.cell? ⟨w.heap.size + 1, 1, none⟩ = some (.slice none 0 0) := by rw [hW3]; simp [go_sem, d1]
    have g2 : W3.frozen? ⟨w.heap.size + 1, 0, none⟩ = false := by rw [hW3]; simp [go_sem, d2]
    have g3 : W3.frozen? ⟨w.heap.size + 1, 1, none⟩ = false := by rw [hW3]; simp [go_sem, d3]
    have HF3 : Hid (FreshT w1.heap.size W3.heap.size W3 to tc ts ∧ FreshI w1.heap.size W3.heap.size W3 go qc q ∧ (ts = [] → tc = 0) ∧ (q = [] → qc = 0)) := by
      rw [hs3, hW3]
      exact ⟨(HF.out.1.setBelow (a := ⟨w.heap.size, 0, none⟩) hlt0 _).setBelow (a := ⟨w.heap.size, 1, none⟩) hlt0 _, (HF.out.2.1.setBelow (a := ⟨w.heap.size, 0, none⟩) hlt0 _).setBelow (a := ⟨w.heap.size, 1, none⟩) hlt0 _, HF.out.2.2⟩
    clear hW3 HF c0 c1 c2 c3 d0 d1 d2 d3
    have hltB : w.heap.size < W3.heap.size := by omega
    have hltR : w.heap.size + 1 < W3.heap.size := by omega
    have hs3a : w2.heap.size ≤ W3.heap.size := by omega
    have hB4 := hB3
    have h0 := e0
    have h1 := e1
    have h2 := e2
    have k0 := g0
    have k1 := g1
    have k2 := g2
    have k3 := g3
    have HF4 := HF3
    clear e0 e1 e2 g0 g1 g2 g3 HF3 hB3 hs3
    by_cases hx : iv < 0 ∨ (ts.length : Int) ≤ iv
    · have HR2 : Hid (R = (ts, q, 2)) := by rw [Hid, ← HR.out, wakeR, HG.out, if_pos rfl, if_pos hx]
      refine (l1In_is iv 0 ((ts.length : Int) - 1) W3 false (by simp; omega)).mono ?_
      rintro e w4 ⟨rfl, hw4⟩
      rw [hw4]
      clear hw4
      clear hx HR
      go_wp2
      refine bodyPost_ret (v := .tuple #[.agg #[.slice to ts.length tc, .slice go q.length qc], .int .i64 2]) (by simp [results, Try.results34, go_sem, k0, k1]) rfl ?_
      rw [HR2.out]
      exact ans2_of hB4 (HF4.out.1.wide (by omega) (Nat.le_refl _)) (HF4.out.2.1.wide (by omega) (Nat.le_refl _)) _ _
    · obtain ⟨id, rfl⟩ : ∃ id : Nat, iv = id := ⟨iv.toNat, by omega⟩
      have hid : id < ts.length := by omega
      refine (l1In_is (id : Int) 0 ((ts.length : Int) - 1) W3 true (by simp; omega)).mono ?_
      rintro e w4 ⟨rfl, hw4⟩
      rw [hw4]
      clear hw4
      obtain ⟨s, hs⟩ : ∃ s, s = (ts[id]?.getD (0, 0)).1 := ⟨_, rfl⟩
      have HS : Hid (s = (ts[id]?.getD (0, 0)).1) := hs
      have htk := HF4.out.1.tasks
      obtain ⟨g, rfl, hg1, hg2, hg3, hcs, hfs, hput⟩ := HF4.out.1.atS (by omega)
      obtain ⟨b, off, e, _, hc⟩ := htk.pos hid
      cases e
      have hu0 := (hc id hid).1
      rw [Nat.zero_add, ← hs] at hu0
      have hu1 := hfs (id * 2)
      have hgB : g ≠ w.heap.size := by omega
      have hgR : g ≠ w.heap.size + 1 := by omega
      have hi0 : (0 : Int) ≤ (id : Int) := by omega
      have hi1 : (id : Int) < (ts.length : Int) := by omega
      have hput2 := hput id 1 hid
      clear hcs hfs htk hc hput hs
      by_cases h3 : s = 3
      · have HR2 : Hid (R = (ts.set id (1, 0), q ++ [(id : Int)], 0)) := by
          rw [Hid, ← HR.out, wakeR, HG.out, if_pos rfl, if_neg hx, if_neg (by rw [Int.toNat_natCast, ← HS.out]; exact fun h => h h3), Int.toNat_natCast]
        have hpz : (ts[id]?.getD (0, 0)).2 = 0 := good_zero ts q HG.out id hid (by rw [← HS.out, h3]; decide)
        rw [hpz] at hput2
        have ho5 : OnlyAt (eff (some ⟨g, 0, none⟩) ts.length) W3 (W3.setCell ⟨g, id * 2, none⟩ (.int .i64 1)) := by rw [eff_pos (by omega)]; exact OnlyAt.set g (id * 2) _ _
        have HF5 : Hid (FreshT w1.heap.size W3.heap.size (W3.setCell ⟨g, id * 2, none⟩ (.int .i64 1)) (some ⟨g, 0, none⟩) tc (ts.set id (1, 0)) ∧ FreshI w1.heap.size W3.heap.size (W3.setCell ⟨g, id * 2, none⟩ (.int .i64 1)) go qc q ∧ (q = [] → qc = 0)) := ⟨hput2, HF4.out.2.1.only HF4.out.1 ho5, HF4.out.2.2.2⟩
        have h3' : (s != 3) = false := by simpa using h3
        clear h3 HR hx hpz ho5 hput2
        have HX : Hid (w1.heap.size ≤ ((W3.setCell ⟨g, id * 2, none⟩ (.int .i64 1)).alloc (.cells #[.int .i64 (id : Int)] 3)).heap.size ∧ ((W3.setCell ⟨g, id * 2, none⟩ (.int .i64 1)).alloc (.cells #[.int .i64 (id : Int)] 3)).cell? ⟨W3.heap.size, 0, none⟩ = some (.int .i64 (id : Int))) := by
          refine ⟨?_, ?_⟩
          · simp; omega
          · rw [World.cell?_alloc_at (hn := by simp)]; rfl
        go_wp2_with (at_builtin; refine wpList_push3 ((W3.setCell ⟨g, id * 2, none⟩ (.int .i64 1)).alloc (.cells #[.int .i64 (id : Int)] 3)) rfl (.tmp 34) (.tmp 36) rfl w1.heap.size W3.heap.size go qc q rfl (HF5.out.2.1.later (below1 _ _)) HX.out.1 HF5.out.2.2 (push_none HF5.out.2.1 HF5.out.2.2) hlq W3.heap.size (id : Int) 1 rfl HX.out.2 ?_; intro g' qc' w5 hI5 hz5 ho5 ht5 hp5 hk5; have hz6 : W3.heap.size + 1 ≤ w5.heap.size := (by simpa using hz5); have hlow : ∀ k, k < w1.heap.size → w5.heap[k]? = (W3.setCell ⟨g, id * 2, none⟩ (.int .i64 1)).heap[k]? := (fun k hk => (push_low (HF5.out.2.1.later (below1 _ _)) hk5 k hk (by simp <;> omega)).trans (Below.heap_alloc _ _ k (by simp <;> omega))); have l0 : w5.cell? ⟨w.heap.size, 0, none⟩ = some (.slice (some ⟨g, 0, none⟩) ts.length tc) := (World.cell?_of_block (a := ⟨w.heap.size, 0, none⟩) (hlow _ hlt0)).trans (by rw [World.cell?_setCell_other _ _ _ _ (by simp <;> omega)]; exact h0); have l1 : w5.cell? ⟨w.heap.size, 1, none⟩ = some (.slice go q.length qc) := (World.cell?_of_block (a := ⟨w.heap.size, 1, none⟩) (hlow _ hlt0)).trans (by rw [World.cell?_setCell_other _ _ _ _ (by simp <;> omega)]; exact h1); have l2 : w5.frozen? ⟨w.heap.size, 1, none⟩ = false := (World.frozen?_of_block (a := ⟨w.heap.size, 1, none⟩) (hlow _ hlt0)).trans (by rw [World.frozen?_setCell]; exact h2); have n0 : w5.cell? ⟨w.heap.size + 1, 0, none⟩ = some (.slice none 0 0) := (World.cell?_of_block (a := ⟨w.heap.size + 1, 0, none⟩) (hlow _ hs1)).trans (by rw [World.cell?_setCell_other _ _ _ _ (by simp <;> omega)]; exact k0); have n1 : w5.cell? ⟨w.heap.size + 1, 1, none⟩ = some (.slice none 0 0) := (World.cell?_of_block (a := ⟨w.heap.size + 1, 1, none⟩) (hlow _ hs1)).trans (by rw [World.cell?_setCell_other _ _ _ _ (by simp <;> omega)]; exact k1); have n2 : w5.frozen? ⟨w.heap.size + 1, 0, none⟩ = false := (World.frozen?_of_block (a := ⟨w.heap.size + 1, 0, none⟩) (hlow _ hs1)).trans (by rw [World.frozen?_setCell]; exact k2); have n3 : w5.frozen? ⟨w.heap.size + 1, 1, none⟩ = false := (World.frozen?_of_block (a := ⟨w.heap.size + 1, 1, none⟩) (hlow _ hs1)).trans (by rw [World.frozen?_setCell]; exact k3); have HF6 : Hid (FreshT w1.heap.size w5.heap.size w5 (some ⟨g, 0, none⟩) tc (ts.set id (1, 0)) ∧ FreshI w1.heap.size w5.heap.size w5 (some ⟨g', 0, none⟩) qc' (q ++ [(id : Int)]) ∧ Below w.heap.size w w5) := (by
          refine ⟨(push_T (HF5.out.1.later (below1 _ _)) (HF5.out.2.1.later (below1 _ _)) hk5).wide (Nat.le_refl _) (by omega), hI5, ?_⟩
          have hb4 := hB4.setCell (p := ⟨g, id * 2, none⟩) (by simp <;> omega) (.int .i64 1)
          exact hb4.trans ⟨ho5, ht5, hp5, by simp <;> omega, fun k hk => hlow k (by omega)⟩); clear hI5 hk5 hlow ho5 ht5 hp5)
        refine bodyPost_ret (v := .tuple #[.agg #[.slice (some ⟨g, 0, none⟩) ts.length tc, .slice (some ⟨g', 0, none⟩) (q.length + 1) qc'], .int .i64 0]) (by simp [results, Try.results34, go_sem, n0, n1]) rfl ?_
        rw [HR2.out]
        have h := ans2_of (c := 0) (HF6.out.2.2.setCell (p := ⟨w.heap.size, 1, none⟩) (by simp) (.slice (some ⟨g', 0, none⟩) (q.length + 1) qc')) ((HF6.out.1.setBelow (a := ⟨w.heap.size, 1, none⟩) hlt0 _).wide (by omega) (by simp)) ((HF6.out.2.1.setBelow (a := ⟨w.heap.size, 1, none⟩) hlt0 _).wide (by omega) (by simp)) (.slice (some ⟨g, 0, none⟩) ts.length tc) (.slice (some ⟨g', 0, none⟩) (q.length + 1) qc')
        simpa using h
      · have HR2 : Hid (R = (ts, q, 4)) := by
          rw [Hid, ← HR.out, wakeR, HG.out, if_pos rfl, if_neg hx, if_pos (by rw [Int.toNat_natCast, ← HS.out]; exact h3)]
        have h3' : (s != 3) = true := by simpa using h3
        clear h3 HR hx hput2
        go_wp2
        refine bodyPost_ret (v := .tuple #[.agg #[.slice (some ⟨g, 0, none⟩) ts.length tc, .slice go q.length qc], .int .i64 4]) (by simp [results, Try.results34, go_sem, k0, k1]) rfl ?_
        rw [HR2.out]
        exact ans2_of hB4 (HF4.out.1.wide (by omega) (Nat.le_refl _)) (HF4.out.2.1.wide (by omega) (Nat.le_refl _)) _ _
end Go.Proofs.Ytgbnbnjfaffaiaa.Old
