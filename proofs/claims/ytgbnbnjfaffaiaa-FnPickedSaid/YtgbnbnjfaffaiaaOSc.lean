
/- Spawn, the specification's. No conditions but those written. -/
import Derived.Test.YtgbnbnjfaffaiaaOSb
namespace Go.Proofs.Ytgbnbnjfaffaiaa.Old
open Go.RowKit

set_option maxHeartbeats 4000000 in
theorem specSpawn_any (ao : Option Addr) (cap : Nat) (ts : List (Int × Int)) (qo : Option Addr) (qcap : Nat) (q : List Int) (w : World) (hwf : (ao = none → cap = 0) ∧ (qo = none → qcap = 0)) (hl : ts.length ≤ 1048576) (hlq : q.length ≤ 1048576) (hz : TasksIn w.heap.size w ao ts) (hq : IntsIn w.heap.size w qo q) :
    Calls Try.prog 32 #[.agg #[.slice ao ts.length cap, .slice qo q.length qcap]] w fun e w' => Ans3 w (spawnR ts q) e w' := by
  generalize hR : spawnR ts q = R
  have HR : Hid (spawnR ts q = R) := hR
  clear hR
  go_enter Try.func32, Try.ntmps32
  go_wp2_with fail
  refine (specGood_any ao cap ts qo qcap q _ hl hlq (hz.later (below2 _ _ _)) (hq.later (below2 _ _ _))).mono ?_
  rintro e w1 ⟨rfl, hb1⟩
  have hB1 := (below2 w (.cells #[.slice ao ts.length cap, .slice qo q.length qcap] 26) (.cells #[.slice none 0 0, .slice none 0 0] 26)).trans (hb1.mono (by simp; omega))
  have hs1 : w.heap.size + 1 < w1.heap.size := by have := hb1.size; simp at this; omega
  have b0 : w1.cell? ⟨w.heap.size, 0, none⟩ = some (.slice ao ts.length cap) := (hb1.cell (p := ⟨w.heap.size, 0, none⟩) (by simp; omega)).trans (by simp [go_sem])
  have b1 : w1.cell? ⟨w.heap.size, 1, none⟩ = some (.slice qo q.length qcap) := (hb1.cell (p := ⟨w.heap.size, 1, none⟩) (by simp; omega)).trans (by simp [go_sem])
  have bf0 : w1.frozen? ⟨w.heap.size, 0, none⟩ = false := (hb1.frozen (p := ⟨w.heap.size, 0, none⟩) (by simp; omega)).trans (by simp [go_sem])
  have bf1 : w1.frozen? ⟨w.heap.size, 1, none⟩ = false := (hb1.frozen (p := ⟨w.heap.size, 1, none⟩) (by simp; omega)).trans (by simp [go_sem])
  have r0 : w1.cell? ⟨w.heap.size + 1, 0, none⟩ = some (.slice none 0 0) := (hb1.cell (p := ⟨w.heap.size + 1, 0, none⟩) (by simp)).trans (by simp [go_sem])
  have r1 : w1.cell? ⟨w.heap.size + 1, 1, none⟩ = some (.slice none 0 0) := (hb1.cell (p := ⟨w.heap.size + 1, 1, none⟩) (by simp)).trans (by simp [go_sem])
  have f0 : w1.frozen? ⟨w.heap.size + 1, 0, none⟩ = false := (hb1.frozen (p := ⟨w.heap.size + 1, 0, none⟩) (by simp)).trans (by simp [go_sem])
  have f1 : w1.frozen? ⟨w.heap.size + 1, 1, none⟩ = false := (hb1.frozen (p := ⟨w.heap.size + 1, 1, none⟩) (by simp)).trans (by simp [go_sem])
  clear hb1
  cases hg : specGoodB ts q
  · have HR2 : Hid (R = ([], [], 0, 1)) := by rw [Hid, ← HR.out, spawnR, hg]; rfl
    clear hg HR
    go_wp2
    refine bodyPost_ret (v := .tuple #[.agg #[.slice none 0 0, .slice none 0 0], .int .i64 0, .int .i64 1]) (by simp [results, Try.results32, go_sem, r0, r1]) rfl ?_
    rw [HR2.out]
    exact ans3_of hB1 (.inl rfl) (.inl rfl) _ _
  · have HG : Hid (specGoodB ts q = true) := hg
    clear hg
    go_wp2_with fail
    refine (l1Own_any ao cap ts qo qcap q _ hwf hl hlq (hz.later hB1) (hq.later hB1)).mono ?_
    rintro e w2 ⟨⟨to, tc, go, qc, rfl, hT, hI, hT0, hI0⟩, hb2⟩
    have hB2 := hB1.trans (hb2.mono hB1.size)
    have hs2 : w.heap.size + 1 < w2.heap.size := Nat.lt_of_lt_of_le hs1 hb2.size
    have hs12 := hb2.size
    have hlt0 : w.heap.size < w1.heap.size := by omega
    have c0 : w2.cell? ⟨w.heap.size, 0, none⟩ = some (.slice ao ts.length cap) := (hb2.cell (p := ⟨w.heap.size, 0, none⟩) hlt0).trans b0
    have c1 : w2.cell? ⟨w.heap.size, 1, none⟩ = some (.slice qo q.length qcap) := (hb2.cell (p := ⟨w.heap.size, 1, none⟩) hlt0).trans b1
    have c2 : w2.frozen? ⟨w.heap.size, 0, none⟩ = false := (hb2.frozen (p := ⟨w.heap.size, 0, none⟩) hlt0).trans bf0
    have c3 : w2.frozen? ⟨w.heap.size, 1, none⟩ = false := (hb2.frozen (p := ⟨w.heap.size, 1, none⟩) hlt0).trans bf1
    have d0 : w2.cell? ⟨w.heap.size + 1, 0, none⟩ = some (.slice none 0 0) := (hb2.cell (p := ⟨w.heap.size + 1, 0, none⟩) hs1).trans r0
    have d1 : w2.cell? ⟨w.heap.size + 1, 1, none⟩ = some (.slice none 0 0) := (hb2.cell (p := ⟨w.heap.size + 1, 1, none⟩) hs1).trans r1
    have d2 : w2.frozen? ⟨w.heap.size + 1, 0, none⟩ = false := (hb2.frozen (p := ⟨w.heap.size + 1, 0, none⟩) hs1).trans f0
    have d3 : w2.frozen? ⟨w.heap.size + 1, 1, none⟩ = false := (hb2.frozen (p := ⟨w.heap.size + 1, 1, none⟩) hs1).trans f1
    have HF : Hid (FreshT w1.heap.size w2.heap.size w2 to tc ts ∧ FreshI w1.heap.size w2.heap.size w2 go qc q ∧ (ts = [] → tc = 0) ∧ (q = [] → qc = 0)) := ⟨hT, hI, hT0, hI0⟩
    clear hT hI hT0 hI0 hb2 b0 b1 bf0 bf1 r0 r1 f0 f1
    obtain ⟨W3, hW3⟩ : ∃ W3, W3 = (w2.setCell ⟨w.heap.size, 0, none⟩ (.slice to ts.length tc)).setCell ⟨w.heap.size, 1, none⟩ (.slice go q.length qc) := ⟨_, rfl⟩
    have hs3 : W3.heap.size = w2.heap.size := by rw [hW3]; simp
    have hB3 : Below w.heap.size w W3 := by rw [hW3]; exact (hB2.setCell (p := ⟨w.heap.size, 0, none⟩) (by simp) _).setCell (p := ⟨w.heap.size, 1, none⟩) (by simp) _
    have e0 : W3.cell? ⟨w.heap.size, 0, none⟩ = some (.slice to ts.length tc) := by rw [hW3]; simp [go_sem, c0]
    have e1 : W3.cell? ⟨w.heap.size, 1, none⟩ = some (.slice go q.length qc) := by rw [hW3]; simp [go_sem, c1]
    have e2 : W3.frozen? ⟨w.heap.size, 1, none⟩ = false := by rw [hW3]; simp [go_sem, c3]
    have g0 : W3.cell? ⟨w.heap.size + 1, 0, none⟩ = some (.slice none 0 0) := by rw [hW3]; simp [go_sem, d0]
    have g1 : W3.cell? ⟨w.heap.size + 1, 1, none⟩ = some (.slice none 0 0) := by rw [hW3]; simp [go_sem, d1]
    have g2 : W3.frozen? ⟨w.heap.size + 1, 0, none⟩ = false := by rw [hW3]; simp [go_sem, d2]
    have g3 : W3.frozen? ⟨w.heap.size + 1, 1, none⟩ = false := by rw [hW3]; simp [go_sem, d3]
    have HF3 : Hid (FreshT w1.heap.size W3.heap.size W3 to tc ts ∧ FreshI w1.heap.size W3.heap.size W3 go qc q ∧ (ts = [] → tc = 0) ∧ (q = [] → qc = 0)) := by
      rw [hs3, hW3]
      exact ⟨(HF.out.1.setBelow (a := ⟨w.heap.size, 0, none⟩) hlt0 _).setBelow (a := ⟨w.heap.size, 1, none⟩) hlt0 _, (HF.out.2.1.setBelow (a := ⟨w.heap.size, 0, none⟩) hlt0 _).setBelow (a := ⟨w.heap.size, 1, none⟩) hlt0 _, HF.out.2.2⟩
    have HW3 : Hid (W3 = (w2.setCell ⟨w.heap.size, 0, none⟩ (.slice to ts.length tc)).setCell ⟨w.heap.size, 1, none⟩ (.slice go q.length qc)) := hW3
    clear hW3 HF
    have hltB : w.heap.size < W3.heap.size := by omega
    have hltR : w.heap.size + 1 < W3.heap.size := by omega
    have hs3a : w2.heap.size ≤ W3.heap.size := by omega
    have HS3 : Hid (W3.heap.size = w2.heap.size) := hs3
    have hB4 := hB3
    have h0 := e0
    have h1 := e1
    have h2 := e2
    have k0 := g0
    have k1 := g1
    have k2 := g2
    have k3 := g3
    have HF4 := HF3
    clear e0 e1 e2 g0 g1 g2 g3 HF3 hB3 hs3
    have hl30 := good_len ts q HG.out
    have e3 : W3.frozen? ⟨w.heap.size, 0, none⟩ = false := by rw [HW3.out]; simp [go_sem, c2]
    by_cases h30 : ts.length = 30
    · have HR2 : Hid (R = (ts, q, 0, 5)) := by rw [Hid, ← HR.out, spawnR, HG.out, if_pos rfl, if_pos h30]
      have h30' : ((ts.length : Int) == 30) = true := by simp; omega
      clear h30 HR
      go_wp2
      rw [← HW3.out]
      refine bodyPost_ret (v := .tuple #[.agg #[.slice to ts.length tc, .slice go q.length qc], .int .i64 0, .int .i64 5]) (by simp [results, Try.results32, go_sem, k0, k1]) rfl ?_
      rw [HR2.out]
      exact ans3_of hB4 (HF4.out.1.wide (by omega) (Nat.le_refl _)) (HF4.out.2.1.wide (by omega) (Nat.le_refl _)) _ _
    · have HR2 : Hid (R = (ts ++ [(1, 0)], q ++ [(ts.length : Int)], (ts.length : Int), 0)) := by rw [Hid, ← HR.out, spawnR, HG.out, if_pos rfl, if_neg h30]
      have h30' : ((ts.length : Int) == 30) = false := by simp; omega
      clear h30 HR
      have HX : Hid (w1.heap.size ≤ (W3.alloc (.cells #[.int .i64 1, .int .i64 0] 34)).heap.size ∧ (W3.alloc (.cells #[.int .i64 1, .int .i64 0] 34)).cell? ⟨w2.heap.size, 0, none⟩ = some (.int .i64 1) ∧ (W3.alloc (.cells #[.int .i64 1, .int .i64 0] 34)).cell? ⟨w2.heap.size, 1, none⟩ = some (.int .i64 0)) := by
        rw [← HS3.out]
        exact ⟨by simp; omega, by simp, by simp⟩
      go_wp2_with (first
        | (at_builtin; rw [← HW3.out]; refine wpList_push47 (W3.alloc (.cells #[.int .i64 1, .int .i64 0] 34)) rfl (.tmp 19) (.tmp 21) rfl w1.heap.size W3.heap.size to tc ts rfl (HF4.out.1.later (below1 _ _)) HX.out.1 HF4.out.2.2.1 (push_noneT HF4.out.1 HF4.out.2.2.1) hl w2.heap.size 1 0 1 rfl HX.out.2.1 HX.out.2.2 ?_; intro g' tc' w5 hT5 hz5 ho5 ht5 hp5 hk5; have hz6 : W3.heap.size + 1 ≤ w5.heap.size := (by simpa using hz5); have hlow : ∀ k, k < w1.heap.size → w5.heap[k]? = W3.heap[k]? := (fun k hk => (push_lowT (HF4.out.1.later (below1 _ _)) hk5 k hk (by simp <;> omega)).trans (Below.heap_alloc _ _ k (by omega))); have l0 : w5.cell? ⟨w.heap.size, 0, none⟩ = some (.slice to ts.length tc) := (World.cell?_of_block (a := ⟨w.heap.size, 0, none⟩) (hlow _ hlt0)).trans h0; have l1 : w5.cell? ⟨w.heap.size, 1, none⟩ = some (.slice go q.length qc) := (World.cell?_of_block (a := ⟨w.heap.size, 1, none⟩) (hlow _ hlt0)).trans h1; have l2 : w5.frozen? ⟨w.heap.size, 0, none⟩ = false := (World.frozen?_of_block (a := ⟨w.heap.size, 0, none⟩) (hlow _ hlt0)).trans e3; have l3 : w5.frozen? ⟨w.heap.size, 1, none⟩ = false := (World.frozen?_of_block (a := ⟨w.heap.size, 1, none⟩) (hlow _ hlt0)).trans h2; have n0 : w5.cell? ⟨w.heap.size + 1, 0, none⟩ = some (.slice none 0 0) := (World.cell?_of_block (a := ⟨w.heap.size + 1, 0, none⟩) (hlow _ hs1)).trans k0; have n1 : w5.cell? ⟨w.heap.size + 1, 1, none⟩ = some (.slice none 0 0) := (World.cell?_of_block (a := ⟨w.heap.size + 1, 1, none⟩) (hlow _ hs1)).trans k1; have n2 : w5.frozen? ⟨w.heap.size + 1, 0, none⟩ = false := (World.frozen?_of_block (a := ⟨w.heap.size + 1, 0, none⟩) (hlow _ hs1)).trans k2; have n3 : w5.frozen? ⟨w.heap.size + 1, 1, none⟩ = false := (World.frozen?_of_block (a := ⟨w.heap.size + 1, 1, none⟩) (hlow _ hs1)).trans k3; have HF6 : Hid (FreshT w1.heap.size w5.heap.size w5 (some ⟨g', 0, none⟩) tc' (ts ++ [(1, 0)]) ∧ FreshI w1.heap.size w5.heap.size w5 go qc q ∧ Below w.heap.size w w5) := ⟨hT5, (push_I (HF4.out.2.1.later (below1 _ _)) (HF4.out.1.later (below1 _ _)) hk5).wide (Nat.le_refl _) (by omega), hB4.trans ⟨ho5, ht5, hp5, by omega, fun k hk => hlow k (by omega)⟩⟩; have hlt5 : w.heap.size < w5.heap.size := (by omega); have hlt6 : w.heap.size + 1 < w5.heap.size := (by omega); have HX5 : Hid (w1.heap.size ≤ ((w5.setCell ⟨w.heap.size, 0, none⟩ (.slice (some ⟨g', 0, none⟩) (ts.length + 1) tc')).alloc (.cells #[.int .i64 (ts.length : Int)] 3)).heap.size ∧ ((w5.setCell ⟨w.heap.size, 0, none⟩ (.slice (some ⟨g', 0, none⟩) (ts.length + 1) tc')).alloc (.cells #[.int .i64 (ts.length : Int)] 3)).cell? ⟨w5.heap.size, 0, none⟩ = some (.int .i64 (ts.length : Int)) ∧ FreshI w1.heap.size w5.heap.size (w5.setCell ⟨w.heap.size, 0, none⟩ (.slice (some ⟨g', 0, none⟩) (ts.length + 1) tc')) go qc q ∧ FreshT w1.heap.size w5.heap.size (w5.setCell ⟨w.heap.size, 0, none⟩ (.slice (some ⟨g', 0, none⟩) (ts.length + 1) tc')) (some ⟨g', 0, none⟩) tc' (ts ++ [(1, 0)])) := (by
          refine ⟨by simp <;> omega, ?_, HF6.out.2.1.setBelow (a := ⟨w.heap.size, 0, none⟩) hlt0 _, HF6.out.1.setBelow (a := ⟨w.heap.size, 0, none⟩) hlt0 _⟩
          rw [World.cell?_alloc_at (hn := by simp)]; rfl); clear hT5 hk5 hlow ho5 ht5 hp5)
        | (at_builtin; refine wpList_push3 ((w5.setCell ⟨w.heap.size, 0, none⟩ (.slice (some ⟨g', 0, none⟩) (ts.length + 1) tc')).alloc (.cells #[.int .i64 (ts.length : Int)] 3)) rfl (.tmp 25) (.tmp 27) rfl w1.heap.size w5.heap.size go qc q rfl (HX5.out.2.2.1.later (below1 _ _)) HX5.out.1 HF4.out.2.2.2 (push_none HX5.out.2.2.1 HF4.out.2.2.2) hlq w5.heap.size (ts.length : Int) 1 rfl HX5.out.2.1 ?_; intro g2 qc2 w6 hI6 hz7 ho6 ht6 hp6 hk6; have hz8 : w5.heap.size + 1 ≤ w6.heap.size := (by simpa using hz7); have hlow : ∀ k, k < w1.heap.size → w6.heap[k]? = (w5.setCell ⟨w.heap.size, 0, none⟩ (.slice (some ⟨g', 0, none⟩) (ts.length + 1) tc')).heap[k]? := (fun k hk => (push_low (HX5.out.2.2.1.later (below1 _ _)) hk6 k hk (by simp <;> omega)).trans (Below.heap_alloc _ _ k (by simp <;> omega))); have i0 : w6.cell? ⟨w.heap.size, 0, none⟩ = some (.slice (some ⟨g', 0, none⟩) (ts.length + 1) tc') := (World.cell?_of_block (a := ⟨w.heap.size, 0, none⟩) (hlow _ hlt0)).trans (World.cell?_setCell_same' _ _ _ (by rw [l0]; rfl)); have i1 : w6.cell? ⟨w.heap.size, 1, none⟩ = some (.slice go q.length qc) := (World.cell?_of_block (a := ⟨w.heap.size, 1, none⟩) (hlow _ hlt0)).trans (by rw [World.cell?_setCell_other _ _ _ _ (by simp)]; exact l1); have i3 : w6.frozen? ⟨w.heap.size, 1, none⟩ = false := (World.frozen?_of_block (a := ⟨w.heap.size, 1, none⟩) (hlow _ hlt0)).trans (by rw [World.frozen?_setCell]; exact l3); have j0 : w6.cell? ⟨w.heap.size + 1, 0, none⟩ = some (.slice none 0 0) := (World.cell?_of_block (a := ⟨w.heap.size + 1, 0, none⟩) (hlow _ hs1)).trans (by rw [World.cell?_setCell_other _ _ _ _ (by simp)]; exact n0); have j1 : w6.cell? ⟨w.heap.size + 1, 1, none⟩ = some (.slice none 0 0) := (World.cell?_of_block (a := ⟨w.heap.size + 1, 1, none⟩) (hlow _ hs1)).trans (by rw [World.cell?_setCell_other _ _ _ _ (by simp)]; exact n1); have j2 : w6.frozen? ⟨w.heap.size + 1, 0, none⟩ = false := (World.frozen?_of_block (a := ⟨w.heap.size + 1, 0, none⟩) (hlow _ hs1)).trans (by rw [World.frozen?_setCell]; exact n2); have j3 : w6.frozen? ⟨w.heap.size + 1, 1, none⟩ = false := (World.frozen?_of_block (a := ⟨w.heap.size + 1, 1, none⟩) (hlow _ hs1)).trans (by rw [World.frozen?_setCell]; exact n3); have HF7 : Hid (FreshT w1.heap.size w6.heap.size w6 (some ⟨g', 0, none⟩) tc' (ts ++ [(1, 0)]) ∧ FreshI w1.heap.size w6.heap.size w6 (some ⟨g2, 0, none⟩) qc2 (q ++ [(ts.length : Int)]) ∧ Below w.heap.size w w6) := (by
          refine ⟨(push_T (HX5.out.2.2.2.later (below1 _ _)) (HX5.out.2.2.1.later (below1 _ _)) hk6).wide (Nat.le_refl _) (by omega), hI6, ?_⟩
          exact (HF6.out.2.2.setCell (p := ⟨w.heap.size, 0, none⟩) (by simp) _).trans ⟨ho6, ht6, hp6, by simp <;> omega, fun k hk => hlow k (by omega)⟩); clear hI6 hk6 hlow ho6 ht6 hp6))
      refine bodyPost_ret (v := .tuple #[.agg #[.slice (some ⟨g', 0, none⟩) (ts.length + 1) tc', .slice (some ⟨g2, 0, none⟩) (q.length + 1) qc2], .int .i64 (ts.length : Int), .int .i64 0]) (by simp [results, Try.results32, go_sem, j0, j1]) rfl ?_
      rw [HR2.out]
      have h := ans3_of (i := (ts.length : Int)) (c := 0) (HF7.out.2.2.setCell (p := ⟨w.heap.size, 1, none⟩) (by simp) (.slice (some ⟨g2, 0, none⟩) (q.length + 1) qc2)) ((HF7.out.1.setBelow (a := ⟨w.heap.size, 1, none⟩) hlt0 _).wide (by omega) (by simp)) ((HF7.out.2.1.setBelow (a := ⟨w.heap.size, 1, none⟩) hlt0 _).wide (by omega) (by simp)) (.slice (some ⟨g', 0, none⟩) (ts.length + 1) tc') (.slice (some ⟨g2, 0, none⟩) (q.length + 1) qc2)
      simpa using h
end Go.Proofs.Ytgbnbnjfaffaiaa.Old
