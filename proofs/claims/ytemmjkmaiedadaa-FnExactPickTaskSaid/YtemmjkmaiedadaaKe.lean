/- Kill, the program's. No conditions but those written. -/
import Derived.Test.YtemmjkmaiedadaaKb
import Derived.Test.YtemmjkmaiedadaaKd
namespace Go.Proofs.Ytemmjkmaiedadaa
open Go.RowKit

theorem wout_none (q : List Int) (id : Int) (h : q.findIdx? (fun x => x == id) = none) : wout q id = q := by
  rw [List.findIdx?_eq_none_iff] at h
  rw [wout, List.filter_eq_self]
  intro x hx
  have := h x hx
  simpa using this
theorem upto_all (q : List Int) : (upto (fun j => (j, q[j]?.getD 0)) q.length).map Prod.snd = q := by
  rw [upto_snd q q.length (Nat.le_refl _), List.take_length]
theorem wout_some (q : List Int) (id : Int) (p : Nat) (h : q.findIdx? (fun x => x == id) = some p) (hn : q.Nodup) : wout q id = dropAt q p := by
  rw [List.findIdx?_eq_some_iff_getElem] at h
  obtain ⟨hp, he, _⟩ := h
  have he' : q[p] = id := by simpa using he
  have e : wout q id = ((upto (fun j => (j, q[j]?.getD 0)) q.length).filter (fun x => x.2 != id)).map Prod.snd := by
    rw [wout]
    conv => lhs; rw [← upto_all q]
    rw [List.filter_map]
    rfl
  rw [e, dropAt, keepP]
  congr 1
  apply List.filter_congr
  intro x hx
  simp only [upto, List.mem_map, List.mem_range] at hx
  obtain ⟨j, hj, rfl⟩ := hx
  dsimp only
  have hinj : q[j] = q[p] ↔ j = p := by
    constructor
    · intro e2
      have hpw := List.pairwise_iff_getElem.1 hn
      rcases Nat.lt_trichotomy j p with h | h | h
      · exact absurd e2 (hpw j p hj hp h)
      · exact h
      · exact absurd e2.symm (hpw p j hp hj h)
    · rintro rfl; rfl
  have hg : q[j]?.getD 0 = q[j] := by simp [hj]
  rw [hg, ← he']
  by_cases h : j = p
  · subst h; simp
  · have h1 : q[j] ≠ q[p] := fun e => h (hinj.1 e)
    have h2 : (j : Int) ≠ (p : Int) := by omega
    rw [bne_iff_ne.2 h1, bne_iff_ne.2 h2]

set_option maxHeartbeats 4000000 in
theorem implKill_any (ao : Option Addr) (cap : Nat) (ts : List (Int × Int)) (qo : Option Addr) (qcap : Nat) (q : List Int) (iv : Int) (w : World) (hl : ts.length ≤ 1048576) (hlq : q.length ≤ 1048576) (hz : TasksIn w.heap.size w ao ts) (hq : IntsIn w.heap.size w qo q) :
    Calls Try.prog 32 #[.agg #[.slice ao ts.length cap, .slice qo q.length qcap], .int .i64 iv] w fun e w' => Ans2 w (killR iv ts q) e w' := by
  generalize hR : killR iv ts q = R
  have HR : Hid (killR iv ts q = R) := hR
  clear hR
  go_enter Try.func32, Try.ntmps32
  go_wp2_with fail
  refine (implGood_any ao cap ts qo qcap q _ hl (hz.later (below2 _ _ _)) (hq.later (below2 _ _ _))).mono ?_
  rintro e w1 ⟨rfl, hb1⟩
  have hB1 := (below2 w (.cells #[.slice ao ts.length cap, .slice qo q.length qcap] 30) (.cells #[.slice none 0 0, .slice none 0 0] 30)).trans (hb1.mono (by simp; omega))
  have hs1 : w.heap.size + 1 < w1.heap.size := by have := hb1.size; simp at this; omega
  have b0 : w1.cell? ⟨w.heap.size, 0, none⟩ = some (.slice ao ts.length cap) := (hb1.cell (p := ⟨w.heap.size, 0, none⟩) (by simp; omega)).trans (by simp [go_sem])
  have b1 : w1.cell? ⟨w.heap.size, 1, none⟩ = some (.slice qo q.length qcap) := (hb1.cell (p := ⟨w.heap.size, 1, none⟩) (by simp; omega)).trans (by simp [go_sem])
  have r0 : w1.cell? ⟨w.heap.size + 1, 0, none⟩ = some (.slice none 0 0) := (hb1.cell (p := ⟨w.heap.size + 1, 0, none⟩) (by simp)).trans (by simp [go_sem])
  have r1 : w1.cell? ⟨w.heap.size + 1, 1, none⟩ = some (.slice none 0 0) := (hb1.cell (p := ⟨w.heap.size + 1, 1, none⟩) (by simp)).trans (by simp [go_sem])
  have f0 : w1.frozen? ⟨w.heap.size + 1, 0, none⟩ = false := (hb1.frozen (p := ⟨w.heap.size + 1, 0, none⟩) (by simp)).trans (by simp [go_sem])
  have f1 : w1.frozen? ⟨w.heap.size + 1, 1, none⟩ = false := (hb1.frozen (p := ⟨w.heap.size + 1, 1, none⟩) (by simp)).trans (by simp [go_sem])
  clear hb1
  cases hg : specGoodB ts q
  · have HR2 : Hid (R = ([], [], 1)) := by rw [Hid, ← HR.out, killR, hg]; rfl
    clear hg HR
    go_wp2
    refine bodyPost_ret (v := .tuple #[.agg #[.slice none 0 0, .slice none 0 0], .int .i64 1]) (by simp [results, Try.results32, go_sem, r0, r1]) rfl ?_
    rw [HR2.out]
    exact ans2_of hB1 (.inl rfl) (.inl rfl) _ _
  · have HG : Hid (specGoodB ts q = true) := hg
    clear hg
    by_cases hx : iv < 0 ∨ (ts.length : Int) ≤ iv
    · have HR2 : Hid (R = (ts, q, 2)) := by rw [Hid, ← HR.out, killR, HG.out, if_pos rfl, if_pos hx]
      have HX : Hid (iv < 0 ∨ (ts.length : Int) ≤ iv) := hx
      clear hx HR
      go_wp2_with fail
      refine (hasTask_no ao ts.length cap (.slice qo q.length qcap) iv _ hl ⟨_, _, _, rfl⟩ HX.out).mono ?_
      rintro e w2 ⟨rfl, hb2⟩
      have hB2 := hB1.trans (hb2.mono hB1.size)
      have hs2 : w.heap.size + 1 < w2.heap.size := Nat.lt_of_lt_of_le hs1 hb2.size
      have c0 : w2.cell? ⟨w.heap.size, 0, none⟩ = some (.slice ao ts.length cap) := (hb2.cell (p := ⟨w.heap.size, 0, none⟩) (by simp; omega)).trans b0
      have c1 : w2.cell? ⟨w.heap.size, 1, none⟩ = some (.slice qo q.length qcap) := (hb2.cell (p := ⟨w.heap.size, 1, none⟩) (by simp; omega)).trans b1
      have d0 : w2.cell? ⟨w.heap.size + 1, 0, none⟩ = some (.slice none 0 0) := (hb2.cell (p := ⟨w.heap.size + 1, 0, none⟩) hs1).trans r0
      have d1 : w2.cell? ⟨w.heap.size + 1, 1, none⟩ = some (.slice none 0 0) := (hb2.cell (p := ⟨w.heap.size + 1, 1, none⟩) hs1).trans r1
      have d2 : w2.frozen? ⟨w.heap.size + 1, 0, none⟩ = false := (hb2.frozen (p := ⟨w.heap.size + 1, 0, none⟩) hs1).trans f0
      have d3 : w2.frozen? ⟨w.heap.size + 1, 1, none⟩ = false := (hb2.frozen (p := ⟨w.heap.size + 1, 1, none⟩) hs1).trans f1
      clear hb2 b0 b1 r0 r1 f0 f1
      go_wp2_with fail
      refine (copyBoard_any ao cap ts qo qcap q _ hl hlq (hz.later hB2) (hq.later hB2)).mono ?_
      rintro e w3 ⟨⟨to, go, rfl, hT, hI⟩, hb3⟩
      have hB3 := hB2.trans (hb3.mono hB2.size)
      have g0 : w3.cell? ⟨w.heap.size + 1, 0, none⟩ = some (.slice none 0 0) := (hb3.cell (p := ⟨w.heap.size + 1, 0, none⟩) hs2).trans d0
      have g1 : w3.cell? ⟨w.heap.size + 1, 1, none⟩ = some (.slice none 0 0) := (hb3.cell (p := ⟨w.heap.size + 1, 1, none⟩) hs2).trans d1
      have g2 : w3.frozen? ⟨w.heap.size + 1, 0, none⟩ = false := (hb3.frozen (p := ⟨w.heap.size + 1, 0, none⟩) hs2).trans d2
      have g3 : w3.frozen? ⟨w.heap.size + 1, 1, none⟩ = false := (hb3.frozen (p := ⟨w.heap.size + 1, 1, none⟩) hs2).trans d3
      have HF : Hid (FreshT w2.heap.size w3.heap.size w3 to ts.length ts ∧ FreshI w2.heap.size w3.heap.size w3 go q.length q) := ⟨hT, hI⟩
      clear hT hI hb3
      go_wp2
      refine bodyPost_ret (v := .tuple #[.agg #[.slice to ts.length ts.length, .slice go q.length q.length], .int .i64 2]) (by simp [results, Try.results32, go_sem, g0, g1]) rfl ?_
      rw [HR2.out]
      exact ans2_of hB3 (HF.out.1.wide (by omega) (Nat.le_refl _)) (HF.out.2.wide (by omega) (Nat.le_refl _)) _ _
    · obtain ⟨id, rfl⟩ : ∃ id : Nat, iv = id := ⟨iv.toNat, by omega⟩
      have hid : id < ts.length := by omega
      obtain ⟨b, off, rfl, hb, hc⟩ := hz.pos hid
      have hidi : (id : Int) < (ts.length : Int) := by omega
      go_wp2_with fail
      refine (hasTask_yes (some ⟨b, off, none⟩) ts.length cap (.slice qo q.length qcap) id _ hl ⟨_, _, _, rfl⟩ (by omega) (by omega)).mono ?_
      rintro e w2 ⟨rfl, hb2⟩
      have hB2 := hB1.trans (hb2.mono hB1.size)
      have hs2 : w.heap.size + 1 < w2.heap.size := Nat.lt_of_lt_of_le hs1 hb2.size
      have c0 : w2.cell? ⟨w.heap.size, 0, none⟩ = some (.slice (some ⟨b, off, none⟩) ts.length cap) := (hb2.cell (p := ⟨w.heap.size, 0, none⟩) (by simp; omega)).trans b0
      have c1 : w2.cell? ⟨w.heap.size, 1, none⟩ = some (.slice qo q.length qcap) := (hb2.cell (p := ⟨w.heap.size, 1, none⟩) (by simp; omega)).trans b1
      have d0 : w2.cell? ⟨w.heap.size + 1, 0, none⟩ = some (.slice none 0 0) := (hb2.cell (p := ⟨w.heap.size + 1, 0, none⟩) hs1).trans r0
      have d1 : w2.cell? ⟨w.heap.size + 1, 1, none⟩ = some (.slice none 0 0) := (hb2.cell (p := ⟨w.heap.size + 1, 1, none⟩) hs1).trans r1
      have d2 : w2.frozen? ⟨w.heap.size + 1, 0, none⟩ = false := (hb2.frozen (p := ⟨w.heap.size + 1, 0, none⟩) hs1).trans f0
      have d3 : w2.frozen? ⟨w.heap.size + 1, 1, none⟩ = false := (hb2.frozen (p := ⟨w.heap.size + 1, 1, none⟩) hs1).trans f1
      clear hb2 b0 b1 r0 r1 f0 f1
      have hk1 := (hB2.cell (p := ⟨b, off + id * 2, none⟩) hb).trans (hc id hid).1
      clear hc
      obtain ⟨s, hs⟩ : ∃ s, s = (ts[id]?.getD (0, 0)).1 := ⟨_, rfl⟩
      rw [← hs] at hk1
      have HS : Hid (s = (ts[id]?.getD (0, 0)).1) := hs
      clear hs
      by_cases h3 : s = 4
      · have HR2 : Hid (R = (ts, q, 4)) := by
          rw [Hid, ← HR.out, killR, HG.out, if_pos rfl, if_neg hx, if_pos (by rw [Int.toNat_natCast, ← HS.out]; exact h3)]
        have h3' : (s == 4) = true := by simpa using h3
        clear h3 HR hx
        go_wp2_with fail
        refine (copyBoard_any (some ⟨b, off, none⟩) cap ts qo qcap q _ hl hlq (hz.later hB2) (hq.later hB2)).mono ?_
        rintro e w3 ⟨⟨to, go, rfl, hT, hI⟩, hb3⟩
        have hB3 := hB2.trans (hb3.mono hB2.size)
        have g0 : w3.cell? ⟨w.heap.size + 1, 0, none⟩ = some (.slice none 0 0) := (hb3.cell (p := ⟨w.heap.size + 1, 0, none⟩) hs2).trans d0
        have g1 : w3.cell? ⟨w.heap.size + 1, 1, none⟩ = some (.slice none 0 0) := (hb3.cell (p := ⟨w.heap.size + 1, 1, none⟩) hs2).trans d1
        have g2 : w3.frozen? ⟨w.heap.size + 1, 0, none⟩ = false := (hb3.frozen (p := ⟨w.heap.size + 1, 0, none⟩) hs2).trans d2
        have g3 : w3.frozen? ⟨w.heap.size + 1, 1, none⟩ = false := (hb3.frozen (p := ⟨w.heap.size + 1, 1, none⟩) hs2).trans d3
        have HF : Hid (FreshT w2.heap.size w3.heap.size w3 to ts.length ts ∧ FreshI w2.heap.size w3.heap.size w3 go q.length q) := ⟨hT, hI⟩
        clear hT hI hb3
        go_wp2
        refine bodyPost_ret (v := .tuple #[.agg #[.slice to ts.length ts.length, .slice go q.length q.length], .int .i64 4]) (by simp [results, Try.results32, go_sem, g0, g1]) rfl ?_
        rw [HR2.out]
        exact ans2_of hB3 (HF.out.1.wide (by omega) (Nat.le_refl _)) (HF.out.2.wide (by omega) (Nat.le_refl _)) _ _
      · have HR2 : Hid (R = (ts.set id (4, 0), wout q id, 0)) := by
          rw [Hid, ← HR.out, killR, HG.out, if_pos rfl, if_neg hx, if_neg (by rw [Int.toNat_natCast, ← HS.out]; exact h3), Int.toNat_natCast]
        have h3' : (s == 4) = false := by simpa using h3
        clear h3 HR hx
        go_wp2_with fail
        refine (withTask_any (some ⟨b, off, none⟩) cap ts qo qcap q id 4 _ hl hlq hid (hz.later hB2) (hq.later hB2)).mono ?_
        rintro e w3 ⟨⟨to, go, rfl, hT, hI⟩, hb3⟩
        have hB3 := hB2.trans (hb3.mono hB2.size)
        have hs3 := hb3.size
        have hlB : w.heap.size < w3.heap.size := by omega
        have hlR : w.heap.size + 1 < w3.heap.size := by omega
        have m0 : w3.cell? ⟨w.heap.size, 0, none⟩ = some (.slice (some ⟨b, off, none⟩) ts.length cap) := (hb3.cell (p := ⟨w.heap.size, 0, none⟩) (by simp; omega)).trans c0
        have m1 : w3.cell? ⟨w.heap.size, 1, none⟩ = some (.slice qo q.length qcap) := (hb3.cell (p := ⟨w.heap.size, 1, none⟩) (by simp; omega)).trans c1
        have g0 : w3.cell? ⟨w.heap.size + 1, 0, none⟩ = some (.slice none 0 0) := (hb3.cell (p := ⟨w.heap.size + 1, 0, none⟩) hs2).trans d0
        have g1 : w3.cell? ⟨w.heap.size + 1, 1, none⟩ = some (.slice none 0 0) := (hb3.cell (p := ⟨w.heap.size + 1, 1, none⟩) hs2).trans d1
        have g2 : w3.frozen? ⟨w.heap.size + 1, 0, none⟩ = false := (hb3.frozen (p := ⟨w.heap.size + 1, 0, none⟩) hs2).trans d2
        have g3 : w3.frozen? ⟨w.heap.size + 1, 1, none⟩ = false := (hb3.frozen (p := ⟨w.heap.size + 1, 1, none⟩) hs2).trans d3
        have HF : Hid (FreshT w2.heap.size w3.heap.size w3 to ts.length (ts.set id (4, 0)) ∧ FreshI w2.heap.size w3.heap.size w3 go q.length q) := ⟨hT, hI⟩
        clear hT hI hb3 c0 c1 d0 d1 d2 d3
        go_wp2_with fail
        refine (placeInQueue_any (some ⟨b, off, none⟩) ts.length cap qo qcap q id _ hlq ((hq.later hB3).later (below1 _ _))).mono ?_
        rintro e w4 ⟨rfl, hb4⟩
        have hb34 : Below w3.heap.size w3 w4 := (below1 w3 (.cells #[.slice to ts.length ts.length, .slice go q.length q.length] 30)).trans (hb4.mono (by simp))
        have hB4 := hB3.trans (hb34.mono hB3.size)
        have hs4 : w3.heap.size < w4.heap.size := by have := hb4.size; simp at this; omega
        have u0 : w4.cell? ⟨w3.heap.size, 0, none⟩ = some (.slice to ts.length ts.length) := (hb4.cell (p := ⟨w3.heap.size, 0, none⟩) (by simp)).trans (by simp [go_sem])
        have u1 : w4.cell? ⟨w3.heap.size, 1, none⟩ = some (.slice go q.length q.length) := (hb4.cell (p := ⟨w3.heap.size, 1, none⟩) (by simp)).trans (by simp [go_sem])
        have u2 : w4.frozen? ⟨w3.heap.size, 1, none⟩ = false := (hb4.frozen (p := ⟨w3.heap.size, 1, none⟩) (by simp)).trans (by simp [go_sem])
        have o1 : w4.cell? ⟨w.heap.size, 1, none⟩ = some (.slice qo q.length qcap) := (hb34.cell (p := ⟨w.heap.size, 1, none⟩) hlB).trans m1
        have x0 : w4.cell? ⟨w.heap.size + 1, 0, none⟩ = some (.slice none 0 0) := (hb34.cell (p := ⟨w.heap.size + 1, 0, none⟩) hlR).trans g0
        have x1 : w4.cell? ⟨w.heap.size + 1, 1, none⟩ = some (.slice none 0 0) := (hb34.cell (p := ⟨w.heap.size + 1, 1, none⟩) hlR).trans g1
        have x2 : w4.frozen? ⟨w.heap.size + 1, 0, none⟩ = false := (hb34.frozen (p := ⟨w.heap.size + 1, 0, none⟩) hlR).trans g2
        have x3 : w4.frozen? ⟨w.heap.size + 1, 1, none⟩ = false := (hb34.frozen (p := ⟨w.heap.size + 1, 1, none⟩) hlR).trans g3
        have HF4 : Hid (FreshT w2.heap.size w3.heap.size w4 to ts.length (ts.set id (4, 0)) ∧ FreshI w2.heap.size w3.heap.size w4 go q.length q) := ⟨HF.out.1.later hb34, HF.out.2.later hb34⟩
        clear HF m0 m1 g0 g1 g2 g3 hb4 hb34
        cases hp : q.findIdx? (fun x => x == (id : Int)) with
        | none =>
          have HW : Hid (wout q id = q) := wout_none q id hp
          rw [show placeV q id = .tuple #[.int .i64 0, .bool false] from by rw [placeV, hp]]
          clear hp
          go_wp2
          refine bodyPost_ret (v := .tuple #[.agg #[.slice to ts.length ts.length, .slice go q.length q.length], .int .i64 0]) (by simp [results, Try.results32, go_sem, x0, x1]) rfl ?_
          rw [HR2.out, HW.out]
          have h := ans2_of (c := 0) hB4 (HF4.out.1.wide (by omega) (by omega)) (HF4.out.2.wide (by omega) (by omega)) (.slice to ts.length ts.length) (.slice go q.length q.length)
          simpa using h
        | some p =>
          have HW : Hid (wout q id = dropAt q p) := wout_some q id p hp ((good_iff ts q).2 HG.out).2.2.2.2.1
          rw [show placeV q id = .tuple #[.int .i64 (p : Int), .bool true] from by rw [placeV, hp]]
          clear hp
          go_wp2_with fail
          refine (queueOfI_any qo qcap q w4 hlq (hq.later hB4)).mono ?_
          rintro e w5 ⟨⟨go5, rfl, hO5⟩, hb5⟩
          have hB5 := hB4.trans (hb5.mono hB4.size)
          have hs5 := hb5.size
          have HO5 := show Hid (IntsIn w5.heap.size w5 go5 q) from hO5.ints
          clear hO5
          go_wp2_with fail
          refine (without_any go5 q.length q p w5 hlq HO5.out).mono ?_
          rintro e w6 ⟨⟨go6, qc6, rfl, hI6⟩, hb6⟩
          have hB6 := hB5.trans (hb6.mono hB5.size)
          have hb46 : Below w4.heap.size w4 w6 := hb5.trans (hb6.mono hs5)
          have hs6 := hb46.size
          have v0 : w6.cell? ⟨w3.heap.size, 0, none⟩ = some (.slice to ts.length ts.length) := (hb46.cell (p := ⟨w3.heap.size, 0, none⟩) hs4).trans u0
          have v1 : w6.cell? ⟨w3.heap.size, 1, none⟩ = some (.slice go q.length q.length) := (hb46.cell (p := ⟨w3.heap.size, 1, none⟩) hs4).trans u1
          have v2 : w6.frozen? ⟨w3.heap.size, 1, none⟩ = false := (hb46.frozen (p := ⟨w3.heap.size, 1, none⟩) hs4).trans u2
          have hlR4 : w.heap.size + 1 < w4.heap.size := by omega
          have y0 : w6.cell? ⟨w.heap.size + 1, 0, none⟩ = some (.slice none 0 0) := (hb46.cell (p := ⟨w.heap.size + 1, 0, none⟩) hlR4).trans x0
          have y1 : w6.cell? ⟨w.heap.size + 1, 1, none⟩ = some (.slice none 0 0) := (hb46.cell (p := ⟨w.heap.size + 1, 1, none⟩) hlR4).trans x1
          have y2 : w6.frozen? ⟨w.heap.size + 1, 0, none⟩ = false := (hb46.frozen (p := ⟨w.heap.size + 1, 0, none⟩) hlR4).trans x2
          have y3 : w6.frozen? ⟨w.heap.size + 1, 1, none⟩ = false := (hb46.frozen (p := ⟨w.heap.size + 1, 1, none⟩) hlR4).trans x3
          have hne : w3.heap.size ≠ w.heap.size + 1 := by omega
          have hfld := run_field67 go6 (dropAt q p).length qc6
          have HF6 : Hid (FreshT w2.heap.size w3.heap.size w6 to ts.length (ts.set id (4, 0)) ∧ FreshI w5.heap.size w6.heap.size w6 go6 qc6 (dropAt q p)) := ⟨HF4.out.1.later hb46, hI6⟩
          clear hI6 hb5 hb6 hb46 u0 u1 u2 x0 x1 x2 x3 o1 HO5
          go_wp2
          refine bodyPost_ret (v := .tuple #[.agg #[.slice to ts.length ts.length, .slice go6 (dropAt q p).length qc6], .int .i64 0]) (by simp [results, Try.results32, go_sem, y0, y1]) rfl ?_
          rw [HR2.out, HW.out]
          have h := ans2_of (c := 0) (hB6.setCell (p := ⟨w3.heap.size, 1, none⟩) (by simp; omega) (.slice go6 (dropAt q p).length qc6)) ((HF6.out.1.setAbove (a := ⟨w3.heap.size, 1, none⟩) (Nat.le_refl _) _).wide (by omega) (by simp; omega)) ((HF6.out.2.setBelow (a := ⟨w3.heap.size, 1, none⟩) (by simp; omega) _).wide (by omega) (by simp)) (.slice to ts.length ts.length) (.slice go6 (dropAt q p).length qc6)
          simpa using h
end Go.Proofs.Ytemmjkmaiedadaa
