
/- Pick, the specification's. No conditions but those written. -/
import Derived.Test.YtgbnbnjfaffaiaaOQa
namespace Go.Proofs.Ytgbnbnjfaffaiaa.Old
open Go.RowKit

theorem FreshT.pass {lo hi : Nat} {W : World} {to : Option Addr} {tc : Nat} {ts : List (Int × Int)} (h : FreshT lo hi W to tc ts) (hn : 0 < ts.length) :
    ∃ g, to = some ⟨g, 0, none⟩ ∧ lo ≤ g ∧ g < hi ∧ g < W.heap.size ∧ (∀ j, j < ts.length → W.cell? ⟨g, j * 2, none⟩ = some (.int .i64 (ts[j]?.getD (0, 0)).1) ∧ W.cell? ⟨g, j * 2 + 1, none⟩ = some (.int .i64 (ts[j]?.getD (0, 0)).2)) ∧ (∀ j, W.frozen? ⟨g, j, none⟩ = false) ∧
      ∀ (id : Nat) (p : Int), id < ts.length → FreshT lo hi (W.setCell ⟨g, id * 2 + 1, none⟩ (.int .i64 p)) to tc (ts.set id ((ts[id]?.getD (0, 0)).1, p)) := by
  rcases h with rfl | ⟨g, xs, rfl, hg, ho, hp⟩
  · simp at hn
  · refine ⟨g, rfl, (owns_lt ho).1, hg, (owns_lt ho).2, fun j hj => ?_, fun j => ho.frozenAt j, fun id p hid => ?_⟩
    · exact ⟨(ho.cellAt (j * 2) (by omega)).trans (hp j hj).1, (ho.cellAt (j * 2 + 1) (by omega)).trans (hp j hj).2⟩
    · refine .inr ⟨g, xs.set (id * 2 + 1) (.int .i64 p), rfl, hg, ?_, fun j hj => ?_⟩
      · rw [List.length_set]; exact (ho.stored (id * 2 + 1) _).1
      · rw [List.length_set] at hj
        have hl := ho.1
        simp only [List.getElem?_set]
        by_cases e : id = j
        · subst e
          refine ⟨?_, ?_⟩
          · rw [if_neg (by omega), if_pos rfl, if_pos hj]; exact (hp id hj).1
          · rw [if_pos rfl, if_pos (by omega), if_pos rfl, if_pos hj]; rfl
        · refine ⟨?_, ?_⟩
          · rw [if_neg (by omega), if_neg e]; exact (hp j hj).1
          · rw [if_neg (by omega), if_neg e]; exact (hp j hj).2

theorem set_self (T : List (Int × Int)) (n : Nat) : T.set n ((T[n]?.getD (0, 0)).1, (T[n]?.getD (0, 0)).2) = T := by
  refine List.ext_getElem? fun i => ?_
  rw [List.getElem?_set]
  split
  · rename_i h
    subst h
    split
    · rename_i h
      rw [List.getElem?_eq_getElem h, Option.getD_some]
    · rename_i h
      rw [List.getElem?_eq_none (by omega)]
  · rfl

/-- What the loop over the new queue keeps. -/
structure PLoop (w : World) (lo hi g : Nat) (tc : Nat) (n : Nat) (go5 : Option Addr) (qc5 : Nat) (Q : List Int) (T : List (Int × Int)) (wr : World) : Prop where
  tasks : FreshT lo hi wr (some ⟨g, 0, none⟩) tc T
  len : T.length = n
  ints : FreshI hi wr.heap.size wr go5 qc5 Q
  pos : Pos T
  b0 : wr.cell? ⟨w.heap.size, 0, none⟩ = some (.slice (some ⟨g, 0, none⟩) n tc)
  b1 : wr.cell? ⟨w.heap.size, 1, none⟩ = some (.slice go5 Q.length qc5)
  r0 : wr.cell? ⟨w.heap.size + 1, 0, none⟩ = some (.slice none 0 0)
  r1 : wr.cell? ⟨w.heap.size + 1, 1, none⟩ = some (.slice none 0 0)
  r2 : wr.frozen? ⟨w.heap.size + 1, 0, none⟩ = false
  r3 : wr.frozen? ⟨w.heap.size + 1, 1, none⟩ = false
  below : Below w.heap.size w wr
  size : hi ≤ wr.heap.size
theorem PLoop.put {w : World} {lo hi g tc n : Nat} {go5 : Option Addr} {qc5 : Nat} {Q : List Int} {T : List (Int × Int)} {wr : World} (h : PLoop w lo hi g tc n go5 qc5 Q T wr) (hlo : w.heap.size + 1 < lo) (hg : lo ≤ g) (hh : g < hi) (id : Nat) (hid : id < n) (p : Int) (hp : 0 ≤ p) : PLoop w lo hi g tc n go5 qc5 Q (T.set id ((T[id]?.getD (0, 0)).1, p)) (wr.setCell ⟨g, id * 2 + 1, none⟩ (.int .i64 p)) := by
  have hl := h.len
  obtain ⟨g', e, _, _, _, _, _, hput⟩ := h.tasks.pass (by omega)
  cases e
  have hn0 : g ≠ w.heap.size := by omega
  have hn1 : g ≠ w.heap.size + 1 := by omega
  refine ⟨hput id p (by omega), by simpa using hl, ?_, h.pos.set _ _ hp, ?_, ?_, ?_, ?_, ?_, ?_, h.below.setCell (p := ⟨g, id * 2 + 1, none⟩) (by simp; omega) _, by simpa using h.size⟩
  · rw [World.size_setCell]; exact h.ints.setBelow (a := ⟨g, id * 2 + 1, none⟩) hh _
  · rw [World.cell?_setCell_other _ _ _ _ (by simp)]; exact h.b0
  · rw [World.cell?_setCell_other _ _ _ _ (by simp)]; exact h.b1
  · rw [World.cell?_setCell_other _ _ _ _ (by simp)]; exact h.r0
  · rw [World.cell?_setCell_other _ _ _ _ (by simp)]; exact h.r1
  · simp [go_sem, h.r2]
  · simp [go_sem, h.r3]

/-- A board of its own memory, an id and a code; where that is 0 an empty queue has no room. -/
def Ans3c (w : World) (r : List (Int × Int) × List Int × Int × Int) (e : Ending) (w' : World) : Prop :=
  (∃ to tc go qc, e = .returned (.tuple #[.agg #[.slice to r.1.length tc, .slice go r.2.1.length qc], .int .i64 r.2.2.1, .int .i64 r.2.2.2]) ∧ FreshT w.heap.size w'.heap.size w' to tc r.1 ∧ FreshI w.heap.size w'.heap.size w' go qc r.2.1 ∧ (r.2.2.2 = 0 → r.2.1 = [] → qc = 0)) ∧ Below w.heap.size w w'
theorem Ans3.c {w : World} {r : List (Int × Int) × List Int × Int × Int} {e : Ending} {w' : World} (h : Ans3 w r e w') (hn : r.2.2.2 = 0 → r.2.1 = [] → False) : Ans3c w r e w' := by
  obtain ⟨⟨to, tc, go, qc, e, h1, h2⟩, hb⟩ := h
  exact ⟨⟨to, tc, go, qc, e, h1, h2, fun a b => (hn a b).elim⟩, hb⟩
theorem ans3c_of {w W : World} {ts' : List (Int × Int)} {q' : List Int} {i c : Int} {to go : Option Addr} {tc qc : Nat} (hB : Below w.heap.size w W) (hT : FreshT (w.heap.size + 1 + 1) W.heap.size W to tc ts') (hI : FreshI (w.heap.size + 1 + 1) W.heap.size W go qc q') (hc : c = 0 → q' = [] → qc = 0) (u0 u1 : Value) :
    Ans3c w (ts', q', i, c) (.returned (.tuple #[.agg #[.slice to ts'.length tc, .slice go q'.length qc], .int .i64 i, .int .i64 c])) ((W.setCell ⟨w.heap.size + 1, 0, none⟩ u0).setCell ⟨w.heap.size + 1, 1, none⟩ u1) :=
  ⟨⟨to, tc, go, qc, rfl, ((hT.setBelow (a := ⟨w.heap.size + 1, 0, none⟩) (by simp) _).setBelow (a := ⟨w.heap.size + 1, 1, none⟩) (by simp) _).wide (by omega) (by simp), ((hI.setBelow (a := ⟨w.heap.size + 1, 0, none⟩) (by simp) _).setBelow (a := ⟨w.heap.size + 1, 1, none⟩) (by simp) _).wide (by omega) (by simp), hc⟩,
    (hB.setCell (p := ⟨w.heap.size + 1, 0, none⟩) (by simp) _).setCell (p := ⟨w.heap.size + 1, 1, none⟩) (by simp) _⟩

set_option maxHeartbeats 4000000 in
theorem specPick_any (ao : Option Addr) (cap : Nat) (ts : List (Int × Int)) (qo : Option Addr) (qcap : Nat) (q : List Int) (iv : Int) (w : World) (hwf : (ao = none → cap = 0) ∧ (qo = none → qcap = 0)) (hl : ts.length ≤ 1048576) (hlq : q.length ≤ 1048576) (hz : TasksIn w.heap.size w ao ts) (hq : IntsIn w.heap.size w qo q) :
    Calls Try.prog 6 #[.agg #[.slice ao ts.length cap, .slice qo q.length qcap], .int .i64 iv] w fun e w' => Ans3c w (pickR iv ts q) e w' := by
  generalize hR : pickR iv ts q = R
  have HR : Hid (pickR iv ts q = R) := hR
  clear hR
  go_enter Try.func6, Try.ntmps6
  go_wp2_with fail
  refine (specGood_any ao cap ts qo qcap q _ hl hlq (hz.later (below2 _ _ _)) (hq.later (below2 _ _ _))).mono ?_
  rintro e w1 ⟨rfl, hb1⟩
  have hB1 := (below2 w (.cells #[.slice ao ts.length cap, .slice qo q.length qcap] 26) (.cells #[.slice none 0 0, .slice none 0 0] 26)).trans (hb1.mono (by simp; omega))
  have hs1 : w.heap.size + 1 < w1.heap.size := by have := hb1.size; simp at this; omega
  have b0 : w1.cell? ⟨w.heap.size, 0, none⟩ = some (.slice ao ts.length cap) := (hb1.cell (p := ⟨w.heap.size, 0, none⟩) (by simp; omega)).trans (by simp [go_sem])
  have b1 : w1.cell? ⟨w.heap.size, 1, none⟩ = some (.slice qo q.length qcap) := (hb1.cell (p := ⟨w.heap.size, 1, none⟩) (by simp; omega)).trans (by simp [go_sem])
  have bf0 : w1.frozen? ⟨w.heap.size, 0, none⟩ = false := (hb1.frozen (p := ⟨w.heap.size, 0, none⟩) (by simp; omega)).trans (by simp [go_sem])
  have bf1 : w1.frozen? ⟨w.heap.size, 1, none⟩ = false := (hb1.frozen (p := ⟨w.heap.size, 1, none⟩) (by simp; omega)).trans (by simp [go_sem])
  have r0 : w1.cell? ⟨w.heap.size + 1, 0, none⟩ = some (.slice none 0 0) := (hb1.cell (p := ⟨w.heap.size + 1, 0, none⟩) (by simp)).trans (by simp [go_sem])
  have r1 : w1.cell? ⟨w.heap.size + 1, 1, none⟩ = some (.slice none 0 0) := (hb1.cell (p := ⟨w.heap.size + 1, 1, none⟩) (by simp)).trans (by simp [go_sem])
  have f0 : w1.frozen? ⟨w.heap.size + 1, 0, none⟩ = false := (hb1.frozen (p := ⟨w.heap.size + 1, 0, none⟩) (by simp)).trans (by simp [go_sem])
  have f1 : w1.frozen? ⟨w.heap.size + 1, 1, none⟩ = false := (hb1.frozen (p := ⟨w.heap.size + 1, 1, none⟩) (by simp)).trans (by simp [go_sem])
  clear hb1
  cases hg : specGoodB ts q
  · have HR2 : Hid (R = ([], [], 0, 1)) := by rw [Hid, ← HR.out, pickR, hg]; rfl
    clear hg HR
    go_wp2
    refine bodyPost_ret (v := .tuple #[.agg #[.slice none 0 0, .slice none 0 0], .int .i64 0, .int .i64 1]) (by simp [results, Try.results6, go_sem, r0, r1]) rfl ?_
    rw [HR2.out]
    exact (ans3_of hB1 (.inl rfl) (.inl rfl) _ _).c (fun h => by simp at h)
  · have HG : Hid (specGoodB ts q = true) := hg
    clear hg
    go_wp2_with fail
    refine (l1Own_any ao cap ts qo qcap q _ hwf hl hlq (hz.later hB1) (hq.later hB1)).mono ?_
    rintro e w2 ⟨⟨to, tc, go, qc, rfl, hT, hI, hT0, hI0⟩, hb2⟩
    have hB2 := hB1.trans (hb2.mono hB1.size)
    have hs2 : w.heap.size + 1 < w2.heap.size := Nat.lt_of_lt_of_le hs1 hb2.size
    have hs12 := hb2.size
    have hlt0 : w.heap.size < w1.heap.size := by omega
    have c0 : w2.cell? ⟨w.heap.size, 0, none⟩ = some (.slice ao ts.length cap) := (hb2.cell (p := ⟨w.heap.size, 0, none⟩) hlt0).trans b0
    have c1 : w2.cell? ⟨w.heap.size, 1, none⟩ = some (.slice qo q.length qcap) := (hb2.cell (p := ⟨w.heap.size, 1, none⟩) hlt0).trans b1
    have c2 : w2.frozen? ⟨w.heap.size, 0, none⟩ = false := (hb2.frozen (p := ⟨w.heap.size, 0, none⟩) hlt0).trans bf0
    have c3 : w2.frozen? ⟨w.heap.size, 1, none⟩ = false := (hb2.frozen (p := ⟨w.heap.size, 1, none⟩) hlt0).trans bf1
    have d0 : w2.cell? ⟨w.heap.size + 1, 0, none⟩ = some (.slice none 0 0) := (hb2.cell (p := ⟨w.heap.size + 1, 0, none⟩) hs1).trans r0
    have d1 : w2.cell? ⟨w.heap.size + 1, 1, none⟩ = some (.slice none 0 0) := (hb2.cell (p := ⟨w.heap.size + 1, 1, none⟩) hs1).trans r1
    have d2 : w2.frozen? ⟨w.heap.size + 1, 0, none⟩ = false := (hb2.frozen (p := ⟨w.heap.size + 1, 0, none⟩) hs1).trans f0
    have d3 : w2.frozen? ⟨w.heap.size + 1, 1, none⟩ = false := (hb2.frozen (p := ⟨w.heap.size + 1, 1, none⟩) hs1).trans f1
    have HF : Hid (FreshT w1.heap.size w2.heap.size w2 to tc ts ∧ FreshI w1.heap.size w2.heap.size w2 go qc q ∧ (ts = [] → tc = 0) ∧ (q = [] → qc = 0)) := ⟨hT, hI, hT0, hI0⟩
    clear hT hI hT0 hI0 hb2 b0 b1 bf0 bf1 r0 r1 f0 f1
    go_wp2_with fail
    obtain ⟨W3, hW3⟩ : ∃ W3, W3 = (w2.setCell ⟨w.heap.size, 0, none⟩ (.slice to ts.length tc)).setCell ⟨w.heap.size, 1, none⟩ (.slice go q.length qc) := ⟨_, rfl⟩
    rw [← hW3]
    have hs3 : W3.heap.size = w2.heap.size := by rw [hW3]; simp
    have hB3 : Below w.heap.size w W3 := by rw [hW3]; exact (hB2.setCell (p := ⟨w.heap.size, 0, none⟩) (by simp) _).setCell (p := ⟨w.heap.size, 1, none⟩) (by simp) _
    have e0 : W3.cell? ⟨w.heap.size, 0, none⟩ = some (.slice to ts.length tc) := by rw [hW3]; simp [go_sem, c0]
    have e1 : W3.cell? ⟨w.heap.size, 1, none⟩ = some (.slice go q.length qc) := by rw [hW3]; simp [go_sem, c1]
    have e2 : W3.frozen? ⟨w.heap.size, 1, none⟩ = false := by rw [hW3]; simp [go_sem, c3]
    have g0 : W3.cell? ⟨w.heap.size + 1, 0, none⟩ = some (.slice none 0 0) := by rw [hW3]; simp [go_sem, d0]
    have g1 : W3.cell? ⟨w.heap.size + 1, 1, none⟩ = some (.slice none 0 0) := by rw [hW3]; simp [go_sem, d1]
    have g2 : W3.frozen? ⟨w.heap.size + 1, 0, none⟩ = false := by rw [hW3]; simp [go_sem, d2]
    have g3 : W3.frozen? ⟨w.heap.size + 1, 1, none⟩ = false := by rw [hW3]; simp [go_sem, d3]
    have HF3 : Hid (FreshT w1.heap.size W3.heap.size W3 to tc ts ∧ FreshI w1.heap.size W3.heap.size W3 go qc q ∧ (ts = [] → tc = 0) ∧ (q = [] → qc = 0)) := by
      rw [hs3, hW3]
      exact ⟨(HF.out.1.setBelow (a := ⟨w.heap.size, 0, none⟩) hlt0 _).setBelow (a := ⟨w.heap.size, 1, none⟩) hlt0 _, (HF.out.2.1.setBelow (a := ⟨w.heap.size, 0, none⟩) hlt0 _).setBelow (a := ⟨w.heap.size, 1, none⟩) hlt0 _, HF.out.2.2⟩
    clear hW3 HF c0 c1 c2 c3 d0 d1 d2 d3
    have hltB : w.heap.size < W3.heap.size := by omega
    have hltR : w.heap.size + 1 < W3.heap.size := by omega
    have hs3a : w2.heap.size ≤ W3.heap.size := by omega
    have hB4 := hB3
    have h0 := e0
    have h1 := e1
    have h2 := e2
    have k0 := g0
    have k1 := g1
    have k2 := g2
    have k3 := g3
    have HF4 := HF3
    clear e0 e1 e2 g0 g1 g2 g3 HF3 hB3 hs3
    refine (l1Runs_any to tc ts go q.length qc W3 hl HF4.out.1.tasks).mono ?_
    rintro e w4 ⟨rfl, hb4⟩
    have hB4 := hB4.trans (hb4.mono hB4.size)
    have hs4 := hb4.size
    have h0 := (hb4.cell (p := ⟨w.heap.size, 0, none⟩) hltB).trans h0
    have h1 := (hb4.cell (p := ⟨w.heap.size, 1, none⟩) hltB).trans h1
    have h2 := (hb4.frozen (p := ⟨w.heap.size, 1, none⟩) hltB).trans h2
    have k0 := (hb4.cell (p := ⟨w.heap.size + 1, 0, none⟩) hltR).trans k0
    have k1 := (hb4.cell (p := ⟨w.heap.size + 1, 1, none⟩) hltR).trans k1
    have k2 := (hb4.frozen (p := ⟨w.heap.size + 1, 0, none⟩) hltR).trans k2
    have k3 := (hb4.frozen (p := ⟨w.heap.size + 1, 1, none⟩) hltR).trans k3
    have HF4 : Hid (FreshT w1.heap.size W3.heap.size w4 to tc ts ∧ FreshI w1.heap.size W3.heap.size w4 go qc q) := ⟨HF4.out.1.later hb4, HF4.out.2.1.later hb4⟩
    clear hb4
    by_cases hx : 0 ≤ runI ts
    · have HR2 : Hid (R = (ts, q, 0, 3)) := by rw [Hid, ← HR.out, pickR, HG.out, if_pos rfl, if_pos hx]
      generalize runI ts = ri at *
      clear HR
      go_wp2
      refine bodyPost_ret (v := .tuple #[.agg #[.slice to ts.length tc, .slice go q.length qc], .int .i64 0, .int .i64 3]) (by simp [results, Try.results6, go_sem, k0, k1]) rfl ?_
      rw [HR2.out]
      exact (ans3_of hB4 (HF4.out.1.wide (by omega) (by omega)) (HF4.out.2.wide (by omega) (by omega)) _ _).c (fun h => by simp at h)
    · by_cases hq0 : q.length = 0
      · have HR2 : Hid (R = (ts, q, 0, 2)) := by rw [Hid, ← HR.out, pickR, HG.out, if_pos rfl, if_neg hx, if_pos hq0]
        generalize runI ts = ri at *
        have hq0' : ((q.length : Int) == 0) = true := by simpa using hq0
        clear HR hq0
        go_wp2
        refine bodyPost_ret (v := .tuple #[.agg #[.slice to ts.length tc, .slice go q.length qc], .int .i64 0, .int .i64 2]) (by simp [results, Try.results6, go_sem, k0, k1]) rfl ?_
        rw [HR2.out]
        exact (ans3_of hB4 (HF4.out.1.wide (by omega) (by omega)) (HF4.out.2.wide (by omega) (by omega)) _ _).c (fun h => by simp at h)
      · obtain ⟨hj, hjj⟩ := pick_place iv q.length hq0
        obtain ⟨id, hid⟩ : ∃ id : Int, id = q[(iv % (q.length : Int)).toNat]?.getD 0 := ⟨_, rfl⟩
        have HR2 : Hid (R = ((bumps ts (wout q id)).set id.toNat (2, 0), wout q id, id, 0)) := by rw [Hid, ← HR.out, pickR, HG.out, if_pos rfl, if_neg hx, if_neg hq0, ← hid]
        generalize (iv % (q.length : Int)).toNat = j at *
        have hQ := ((good_iff ts q).2 HG.out).2.2
        have hin : 0 ≤ id ∧ id < ts.length := by rw [hid]; exact hQ.2.1 _ (mem_at hj)
        have HQ : Hid (∀ x, x ∈ wout q id → 0 ≤ x ∧ x < ts.length) := fun x hx => hQ.2.1 x (wout_mem hx).1
        have HPos : Hid (Pos ts) := good_pos ts q HG.out
        clear hQ HR
        generalize runI ts = ri at *
        obtain ⟨b, off, rfl, hb, hc⟩ := HF4.out.2.ints.pos hj
        have hcj := hc j hj
        rw [← hid] at hcj
        clear hc hid
        have hq0' : ((q.length : Int) == 0) = false := by simpa using hq0
        have hj0 : (0 : Int) ≤ (j : Int) := by omega
        have hj1 : (j : Int) < (q.length : Int) := by omega
        have HM : Hid (iv % (q.length : Int) = (j : Int)) := hjj
        clear hjj
        have HMod : Hid (∀ W : World, Calls Try.prog 26 #[.int .i64 iv, .int .i64 (q.length : Int)] W fun e w' => e = .returned (.int .i64 (j : Int)) ∧ w' = W) := fun W => by
          have := l1Mod_any iv (q.length : Int) W (by omega) (by omega)
          rw [HM.out] at this; exact this
        go_wp2_with fail
        go_quiet (first | (go_at_call 26; exact Calls.quiet_of_same (HMod.out _)))
        generalize hD : World.drewN w4 _ = w4b
        have hs4b : w4b.heap.size = w4.heap.size := by rw [← hD]; rfl
        have hB5 : Below w.heap.size w w4b := by rw [← hD]; exact below_draws hB4 _
        have a0 : w4b.cell? ⟨w.heap.size, 0, none⟩ = some (.slice to ts.length tc) := by rw [← hD]; exact h0
        have a1 : w4b.cell? ⟨w.heap.size, 1, none⟩ = some (.slice (some ⟨b, off, none⟩) q.length qc) := by rw [← hD]; exact h1
        have a2 : w4b.frozen? ⟨w.heap.size, 1, none⟩ = false := by rw [← hD]; exact h2
        have a3 : w4b.cell? ⟨w.heap.size + 1, 0, none⟩ = some (.slice none 0 0) := by rw [← hD]; exact k0
        have a4 : w4b.cell? ⟨w.heap.size + 1, 1, none⟩ = some (.slice none 0 0) := by rw [← hD]; exact k1
        have a5 : w4b.frozen? ⟨w.heap.size + 1, 0, none⟩ = false := by rw [← hD]; exact k2
        have a6 : w4b.frozen? ⟨w.heap.size + 1, 1, none⟩ = false := by rw [← hD]; exact k3
        have HF5 : Hid (FreshT w1.heap.size W3.heap.size w4b to tc ts ∧ FreshI w1.heap.size W3.heap.size w4b (some ⟨b, off, none⟩) qc q) := by rw [← hD]; exact ⟨HF4.out.1.keep fun _ _ _ _ => rfl, HF4.out.2.keep fun _ _ _ _ => rfl⟩
        clear hD HF4 h0 h1 h2 k0 k1 k2 k3 hcj HMod
        obtain ⟨idn, rfl⟩ : ∃ n : Nat, id = n := ⟨id.toNat, by omega⟩
        obtain ⟨g, rfl, hg1, hg2, hg3, z1, z2, z3⟩ := HF5.out.1.pass (by omega)
        clear z1 z2 z3
        go_wp2_with fail
        refine (l1Without_any (some ⟨b, off, none⟩) qc q idn w4b hlq HF5.out.2.ints).mono ?_
        rintro e w5 ⟨⟨go5, qc5, rfl, hI5, hQ0⟩, hb5⟩
        have hs5 := hb5.size
        have hB6 := hB5.trans (hb5.mono hB5.size)
        have hltB4 : w.heap.size < w4b.heap.size := by omega
        have hltR4 : w.heap.size + 1 < w4b.heap.size := by omega
        have c0 := (hb5.cell (p := ⟨w.heap.size, 0, none⟩) hltB4).trans a0
        have c1 := (hb5.cell (p := ⟨w.heap.size, 1, none⟩) hltB4).trans a1
        have c2 := (hb5.frozen (p := ⟨w.heap.size, 1, none⟩) hltB4).trans a2
        have c3 := (hb5.cell (p := ⟨w.heap.size + 1, 0, none⟩) hltR4).trans a3
        have c4 := (hb5.cell (p := ⟨w.heap.size + 1, 1, none⟩) hltR4).trans a4
        have c5 := (hb5.frozen (p := ⟨w.heap.size + 1, 0, none⟩) hltR4).trans a5
        have c6 := (hb5.frozen (p := ⟨w.heap.size + 1, 1, none⟩) hltR4).trans a6
        have HT6 : Hid (FreshT w1.heap.size W3.heap.size w5 (some ⟨g, 0, none⟩) tc ts) := HF5.out.1.later hb5
        have HQ0 : Hid (wout q idn = [] → qc5 = 0) := hQ0
        clear hQ0
        have HI6 : Hid (FreshI w4b.heap.size w5.heap.size w5 go5 qc5 (wout q idn)) := hI5
        clear a0 a1 a2 a3 a4 a5 a6 HF5 hI5 hb5
        obtain ⟨Q, hQe⟩ : ∃ Q, Q = wout q idn := ⟨_, rfl⟩
        have hQl : Q.length ≤ 1048576 := by rw [hQe]; exact Nat.le_trans (wout_len _ _) hlq
        rw [← hQe] at HI6 HR2 HQ HQ0 ⊢
        clear hQe
        have HS : Hid (PLoop w w1.heap.size W3.heap.size g tc ts.length go5 qc5 Q ts (w5.setCell ⟨w.heap.size, 1, none⟩ (.slice go5 Q.length qc5))) := by
          refine ⟨HT6.out.setBelow (a := ⟨w.heap.size, 1, none⟩) hlt0 _, rfl, ?_, HPos.out, ?_, ?_, ?_, ?_, ?_, ?_, hB6.setCell (p := ⟨w.heap.size, 1, none⟩) (by simp) _, by simp; omega⟩
          · exact (HI6.out.setBelow (a := ⟨w.heap.size, 1, none⟩) (by simp; omega) _).wide (by omega) (by simp)
          · simp [go_sem, c0]
          · simp [go_sem, c1]
          · simp [go_sem, c3]
          · simp [go_sem, c4]
          · simp [go_sem, c5]
          · simp [go_sem, c6]
        have hsW : W3.heap.size ≤ w5.heap.size := by omega
        clear HT6 HI6 HPos h0 h1 h2 k0 k1 k2 k3 HF4 hB2 hB4 hB5 hB6 hz hq HG
        obtain ⟨W6, hW6⟩ : ∃ W6, W6 = w5.setCell ⟨w.heap.size, 1, none⟩ (.slice go5 Q.length qc5) := ⟨_, rfl⟩
        rw [← hW6] at HS
        go_wp2_with fail
        rw [← hW6]
        clear hW6
        go_loopw [42] (fun i wr => ∃ k : Nat, k ≤ Q.length ∧ i = .int .i64 k ∧ Hid (PLoop w w1.heap.size W3.heap.size g tc ts.length go5 qc5 Q (bumps ts (Q.take k)) wr)) (fun i _ => Q.length - (intOf i).toNat)
        case atStart => exact ⟨0, Nat.zero_le _, rfl, HS⟩
        case round =>
          clear HS
          obtain ⟨k, hk, rfl, HL⟩ := hrel
          by_cases hlt : k < Q.length
          · obtain ⟨b2, off2, rfl, hb2, hc2⟩ := HL.out.ints.ints.pos hlt
            have hck := hc2 k hlt
            obtain ⟨x, hxe⟩ : ∃ x, x = Q[k]?.getD 0 := ⟨_, rfl⟩
            rw [← hxe] at hck
            have hxin := HQ.out x (by rw [hxe]; exact mem_at hlt)
            obtain ⟨xn, rfl⟩ : ∃ n : Nat, x = n := ⟨x.toNat, by omega⟩
            have HT : Hid (bumps ts (Q.take (k + 1)) = bump (bumps ts (Q.take k)) (xn : Int)) := by rw [Hid, take_snoc Q k 0 hlt, ← hxe, bumps_snoc]
            clear hc2 hxe
            have hx0 : (0 : Int) ≤ (xn : Int) := by omega
            have hx1 : (xn : Int) < (ts.length : Int) := by omega
            have hxn : xn < ts.length := by omega
            have hTl := HL.out.len
            obtain ⟨g', e, _, _, hgw, hcs, hfs, _⟩ := HL.out.tasks.pass (by omega)
            cases e
            generalize bumps ts (Q.take k) = T at *
            have hp0 := (hcs xn (by omega)).2
            have hpf := hfs (xn * 2 + 1)
            have HP := HL.out.pos xn
            obtain ⟨p, hpe⟩ : ∃ p, p = (T[xn]?.getD (0, 0)).2 := ⟨_, rfl⟩
            rw [← hpe] at hp0 HP
            have HB : Hid (bump T (xn : Int) = T.set xn ((T[xn]?.getD (0, 0)).1, passV p)) := by rw [Hid, bump, Int.toNat_natCast, hpe]
            clear hcs hfs
            have d0 := HL.out.b0
            by_cases hlim : p < 1000000
            · have hV : passV p = p + 1 := if_pos hlim
              have HN := HL.out.put (by omega) hg1 hg2 xn hxn (p + 1) (by omega)
              have HN2 : Hid (PLoop w w1.heap.size W3.heap.size g tc ts.length (some ⟨b2, off2, none⟩) qc5 Q (bumps ts (Q.take (k + 1))) (wr.setCell ⟨g, xn * 2 + 1, none⟩ (.int .i64 (p + 1)))) := by
                rw [Hid, HT.out, HB.out, hV]; exact HN
              clear HN hpe HT HB hV
              go_wp2
              go_roundw
              case rel => exact ⟨k + 1, by omega, by go_num, HN2⟩
              case measure => simp [intOf]; omega
            · have hV : passV p = p := if_neg hlim
              have HN2 : Hid (PLoop w w1.heap.size W3.heap.size g tc ts.length (some ⟨b2, off2, none⟩) qc5 Q (bumps ts (Q.take (k + 1))) wr) := by
                rw [Hid, HT.out, HB.out, hV, hpe]
                rw [set_self T xn]; exact HL.out
              clear hpe HT HB hV
              go_wp2
              go_roundw
              case rel => exact ⟨k + 1, by omega, by go_num, HN2⟩
              case measure => simp [intOf]; omega
          · obtain rfl : k = Q.length := by omega
            rw [List.take_length] at HL
            have hTl := HL.out.len
            have hidl : idn < ts.length := by omega
            obtain ⟨g', e, _, _, hgw, hcs, hfs, hput⟩ := HL.out.tasks.at (by rw [hTl]; omega)
            cases e
            obtain ⟨u0, hu0⟩ := hcs (idn * 2) (by rw [hTl]; omega)
            obtain ⟨u1, hu1⟩ := hcs (idn * 2 + 1) (by rw [hTl]; omega)
            have hu2 := hfs (idn * 2)
            have hu3 := hfs (idn * 2 + 1)
            have HU := show Hid (FreshT w1.heap.size W3.heap.size ((wr.setCell ⟨g, idn * 2, none⟩ (.int .i64 2)).setCell ⟨g, idn * 2 + 1, none⟩ (.int .i64 0)) (some ⟨g, 0, none⟩) tc ((bumps ts Q).set idn (2, 0))) from hput idn 2 0 (by rw [hTl]; exact hidl)
            clear hcs hfs hput
            have e0 := HL.out.b0
            have e1 := HL.out.b1
            have e2 := HL.out.r0
            have e3 := HL.out.r1
            have e4 := HL.out.r2
            have e5 := HL.out.r3
            have hgB : g ≠ w.heap.size := by omega
            have hgR : g ≠ w.heap.size + 1 := by omega
            go_wp2
            refine bodyPost_ret (v := .tuple #[.agg #[.slice (some ⟨g, 0, none⟩) ts.length tc, .slice go5 Q.length qc5], .int .i64 (idn : Int), .int .i64 0]) (by simp [results, Try.results6, go_sem, e2, e3]) rfl ?_
            rw [HR2.out]
            have h := ans3c_of (i := (idn : Int)) (c := 0) ((HL.out.below.setCell (p := ⟨g, idn * 2, none⟩) (by simp; omega) (.int .i64 2)).setCell (p := ⟨g, idn * 2 + 1, none⟩) (by simp; omega) (.int .i64 0)) (HU.out.wide (by omega) (by have := HL.out.size; simp; omega)) (((HL.out.ints.setBelow (a := ⟨g, idn * 2, none⟩) hg2 (.int .i64 2)).setBelow (a := ⟨g, idn * 2 + 1, none⟩) hg2 (.int .i64 0)).wide (by omega) (by simp)) (fun _ => HQ0.out) (.slice (some ⟨g, 0, none⟩) ts.length tc) (.slice go5 Q.length qc5)
            simpa [hTl] using h
end Go.Proofs.Ytgbnbnjfaffaiaa.Old
