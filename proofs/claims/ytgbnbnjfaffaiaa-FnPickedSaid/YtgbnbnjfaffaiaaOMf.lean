
/- The specification's leaving of whoever runs. No conditions but those written. -/
import Derived.Test.YtgbnbnjfaffaiaaOMe
namespace Go.Proofs.Ytgbnbnjfaffaiaa.Old
open Go.RowKit

theorem wpList_push3 {ops : Array Oper} {rest : List Oper} {o : Oper} {a : Act} {Q : Exit → Act → World → Prop} (W : World) (hg : o.guard = none) (s x : Operand) (hop : o.op = Op.call { callee := Callee.builtin Builtin.append, args := #[s, x], argTypes := #[24, 24] })
    (lo hi : Nat) (qo : Option Addr) (qc : Nat) (q : List Int) (hs : a.eval s = .slice qo q.length qc) (hF : FreshI lo hi W qo qc q) (hlo : lo ≤ W.heap.size) (h0 : q = [] → qc = 0) (hn0 : qo = none → q.length = 0 ∧ qc = 0) (hl : q.length ≤ 1048576)
    (b : Nat) (z : Int) (c : Nat) (hx : a.eval x = .slice (some ⟨b, 0, none⟩) 1 c) (hc : W.cell? ⟨b, 0, none⟩ = some (.int .i64 z))
    (hK : ∀ g' qc' w', FreshI lo w'.heap.size w' (some ⟨g', 0, none⟩) qc' (q ++ [z]) → W.heap.size ≤ w'.heap.size → w'.os = W.os → w'.tape = W.tape → w'.output = W.output → (∀ k, k < W.heap.size → (∀ g, eff qo q.length = some ⟨g, 0, none⟩ → k ≠ g) → w'.heap[k]? = W.heap[k]?) → wpList Try.prog ops Q rest (a.put o.dst (.slice (some ⟨g', 0, none⟩) (q.length + 1) qc')) w') :
    wpList Try.prog ops Q (o :: rest) a W := by
  obtain ⟨i0, hin, hz0, hz1, hz2⟩ := info_parts Try.info3
  have hcz : ∀ j u, ([Value.int .i64 z] : List Value)[j]? = some u → W.cell? ((⟨b, 0, none⟩ : Addr).add j) = some u := by
    intro j u h
    match j, h with
    | 0, h => simp at h; subst h; simpa [Addr.add] using hc
  have hone : ∀ u ∈ ([Value.int .i64 z] : List Value), u.oneCell' = true := by intro u hu; simp at hu; subst hu; rfl
  rcases Nat.eq_zero_or_pos q.length with hq | hq
  · obtain rfl : q = [] := List.length_eq_zero_iff.1 hq
    obtain rfl := h0 rfl
    refine wpList_append_grows W hg s x 24 hop 3 i0 (.int .i64 0) 1 8 Try.underlying24 hin hz0 hz1 hz2 rfl (by decide) qo 0 0 [] hs hn0 rfl (by simp) ⟨b, 0, none⟩ 1 c [.int .i64 z] hx rfl hcz hone (by omega) (by unfold maxLen; omega) (by omega) ?_
    intro v' w' hown hgrow
    rw [Nat.zero_add, List.nil_append] at hown
    obtain ⟨g', cap', rfl⟩ := owns_form hown (by omega)
    exact hK g' cap' w' (.inr ⟨g', rfl, (owns_lt hown).2, ownsRow_base hown (Nat.le_trans hlo (owns_lt hown).1)⟩) hgrow.size hgrow.os hgrow.tape hgrow.output (fun k hk _ => hgrow.block k hk (by simp))
  · rw [eff_pos hq] at hK
    obtain ⟨g, rfl, hgh, ho⟩ : ∃ g, qo = some ⟨g, 0, none⟩ ∧ g < hi ∧ W.ownsRow lo 3 1 (.slice (some ⟨g, 0, none⟩) q.length qc) q.length (q.map (Value.int .i64)) := by
      rcases hF with rfl | h
      · simp at hq
      · exact h
    refine wpList_append_own W hg s x 24 hop lo 3 i0 (.int .i64 0) 1 8 Try.underlying24 hin hz0 hz1 hz2 rfl (by decide) _ q.length _ hs ho ⟨b, 0, none⟩ 1 c [.int .i64 z] hx rfl hcz hone (by unfold maxLen; omega) (by omega) hlo ?_
    intro v' w' hown hgrow _
    obtain ⟨g', cap', rfl⟩ := owns_form hown (by omega)
    refine hK g' cap' w' (.inr ⟨g', rfl, (owns_lt hown).2, by simpa using hown⟩) hgrow.size hgrow.os hgrow.tape hgrow.output (fun k hk hne => hgrow.block k hk (fun e => ?_))
    simp [Value.ownBlock] at e
    exact hne g rfl e

theorem push_low {lo hi : Nat} {W w' : World} {qo : Option Addr} {qc : Nat} {q : List Int} (hF : FreshI lo hi W qo qc q) (hk : ∀ k, k < W.heap.size → (∀ g, eff qo q.length = some ⟨g, 0, none⟩ → k ≠ g) → w'.heap[k]? = W.heap[k]?) (k : Nat) (h1 : k < lo) (h2 : k < W.heap.size) : w'.heap[k]? = W.heap[k]? := by
  refine hk k h2 fun g e => ?_
  rcases hF with rfl | ⟨g2, e2, _, ho⟩
  · simp [eff] at e
  · unfold eff at e
    split at e
    · cases e
    · rw [e2] at e; simp at e; subst e
      have := (owns_lt ho).1
      omega
theorem push_T {lo hi hi' : Nat} {W w' : World} {to qo : Option Addr} {tc qc : Nat} {ts : List (Int × Int)} {q : List Int} (hT : FreshT lo hi W to tc ts) (hF : FreshI lo hi' W qo qc q) (hk : ∀ k, k < W.heap.size → (∀ g, eff qo q.length = some ⟨g, 0, none⟩ → k ≠ g) → w'.heap[k]? = W.heap[k]?) : FreshT lo hi w' to tc ts := by
  rcases hT with h | ⟨g, xs, e, hg, ho, hp⟩
  · exact .inl h
  · refine .inr ⟨g, xs, e, hg, owns_block ho (hk g (owns_lt ho).2 fun g' e' => ?_), hp⟩
    rcases hF with rfl | ⟨g2, e2, _, ho2⟩
    · simp [eff] at e'
    · unfold eff at e'
      split at e'
      · cases e'
      · rw [e2] at e'; simp at e'; subst e'
        exact owns_ne ho ho2
theorem push_none {lo hi : Nat} {W : World} {qo : Option Addr} {qc : Nat} {q : List Int} (hF : FreshI lo hi W qo qc q) (h0 : q = [] → qc = 0) (h : qo = none) : q.length = 0 ∧ qc = 0 := by
  rcases hF with rfl | ⟨g, e, _⟩
  · exact ⟨rfl, h0 rfl⟩
  · rw [e] at h; cases h

theorem FreshT.atS {lo hi : Nat} {W : World} {to : Option Addr} {tc : Nat} {ts : List (Int × Int)} (h : FreshT lo hi W to tc ts) (hn : 0 < ts.length) :
    ∃ g, to = some ⟨g, 0, none⟩ ∧ lo ≤ g ∧ g < hi ∧ g < W.heap.size ∧ (∀ j, j < ts.length * 2 → ∃ u, W.cell? ⟨g, j, none⟩ = some u) ∧ (∀ j, W.frozen? ⟨g, j, none⟩ = false) ∧
      ∀ (id : Nat) (s : Int), id < ts.length → FreshT lo hi (W.setCell ⟨g, id * 2, none⟩ (.int .i64 s)) to tc (ts.set id (s, (ts[id]?.getD (0, 0)).2)) := by
  rcases h with rfl | ⟨g, xs, rfl, hg, ho, hp⟩
  · simp at hn
  · refine ⟨g, rfl, (owns_lt ho).1, hg, (owns_lt ho).2, fun j hj => ?_, fun j => ho.frozenAt j, fun id s hid => ?_⟩
    · have hl := ho.1
      exact ⟨xs[j], (ho.cellAt j hj).trans (by simp)⟩
    · refine .inr ⟨g, xs.set (id * 2) (.int .i64 s), rfl, hg, ?_, fun j hj => ?_⟩
      · rw [List.length_set]; exact (ho.stored (id * 2) _).1
      · rw [List.length_set] at hj
        have hl := ho.1
        simp only [List.getElem?_set]
        by_cases e : id = j
        · subst e
          refine ⟨?_, ?_⟩
          · rw [if_pos rfl, if_pos (by omega), if_pos rfl, if_pos hj]; rfl
          · rw [if_neg (by omega), if_pos rfl, if_pos hj]; exact (hp id hj).2
        · refine ⟨?_, ?_⟩
          · rw [if_neg (by omega), if_neg e]; exact (hp j hj).1
          · rw [if_neg (by omega), if_neg e]; exact (hp j hj).2

theorem good_task (ts : List (Int × Int)) (q : List Int) (h : specGoodB ts q = true) (j : Nat) (hj : j < ts.length) : specTaskB (ts[j]?.getD (0, 0)).1 (ts[j]?.getD (0, 0)).2 = true := by
  unfold specGoodB at h
  simp only [Bool.and_eq_true, List.all_eq_true, List.mem_range] at h
  have := h.1.2 j hj
  unfold specRowB at this
  rw [Bool.and_eq_true] at this
  exact this.1
theorem good_len (ts : List (Int × Int)) (q : List Int) (h : specGoodB ts q = true) : ts.length ≤ 30 := ((good_iff ts q).2 h).1
theorem good_zero (ts : List (Int × Int)) (q : List Int) (h : specGoodB ts q = true) (j : Nat) (hj : j < ts.length) (hs : (ts[j]?.getD (0, 0)).1 ≠ 1) : (ts[j]?.getD (0, 0)).2 = 0 := by
  have := good_task ts q h j hj
  unfold specTaskB at this
  simp only [Bool.and_eq_true, Bool.or_eq_true, decide_eq_true_eq] at this
  rcases this.2 with h | h
  · exact absurd h hs
  · exact h
/-- A board of its own memory, and a code; where that is 0 an empty queue has no room. -/
def Ans2c (w : World) (r : List (Int × Int) × List Int × Int) (e : Ending) (w' : World) : Prop :=
  (∃ to tc go qc, e = .returned (.tuple #[.agg #[.slice to r.1.length tc, .slice go r.2.1.length qc], .int .i64 r.2.2]) ∧ FreshT w.heap.size w'.heap.size w' to tc r.1 ∧ FreshI w.heap.size w'.heap.size w' go qc r.2.1 ∧ (r.2.2 = 0 → r.2.1 = [] → qc = 0)) ∧ Below w.heap.size w w'
theorem Ans2.c {w : World} {r : List (Int × Int) × List Int × Int} {e : Ending} {w' : World} (h : Ans2 w r e w') (hn : r.2.2 = 0 → r.2.1 = [] → False) : Ans2c w r e w' := by
  obtain ⟨⟨to, tc, go, qc, e, h1, h2⟩, hb⟩ := h
  exact ⟨⟨to, tc, go, qc, e, h1, h2, fun a b => (hn a b).elim⟩, hb⟩
theorem ans2c_of {w W : World} {ts' : List (Int × Int)} {q' : List Int} {c : Int} {to go : Option Addr} {tc qc : Nat} (hB : Below w.heap.size w W) (hT : FreshT (w.heap.size + 1 + 1) W.heap.size W to tc ts') (hI : FreshI (w.heap.size + 1 + 1) W.heap.size W go qc q') (hc : c = 0 → q' = [] → qc = 0) (u0 u1 : Value) :
    Ans2c w (ts', q', c) (.returned (.tuple #[.agg #[.slice to ts'.length tc, .slice go q'.length qc], .int .i64 c])) ((W.setCell ⟨w.heap.size + 1, 0, none⟩ u0).setCell ⟨w.heap.size + 1, 1, none⟩ u1) :=
  ⟨⟨to, tc, go, qc, rfl, ((hT.setBelow (a := ⟨w.heap.size + 1, 0, none⟩) (by simp) _).setBelow (a := ⟨w.heap.size + 1, 1, none⟩) (by simp) _).wide (by omega) (by simp), ((hI.setBelow (a := ⟨w.heap.size + 1, 0, none⟩) (by simp) _).setBelow (a := ⟨w.heap.size + 1, 1, none⟩) (by simp) _).wide (by omega) (by simp), hc⟩,
    (hB.setCell (p := ⟨w.heap.size + 1, 0, none⟩) (by simp) _).setCell (p := ⟨w.heap.size + 1, 1, none⟩) (by simp) _⟩

set_option maxHeartbeats 4000000 in
theorem specLeave_any (ao : Option Addr) (cap : Nat) (ts : List (Int × Int)) (qo : Option Addr) (qcap : Nat) (q : List Int) (st : Int) (w : World) (hwf : (ao = none → cap = 0) ∧ (qo = none → qcap = 0)) (hl : ts.length ≤ 1048576) (hlq : q.length ≤ 1048576) (hz : TasksIn w.heap.size w ao ts) (hq : IntsIn w.heap.size w qo q) :
    Calls Try.prog 37 #[.agg #[.slice ao ts.length cap, .slice qo q.length qcap], .int .i64 st] w fun e w' => Ans2c w (leaveR st ts q) e w' := by
  generalize hR : leaveR st ts q = R
  have HR : Hid (leaveR st ts q = R) := hR
  clear hR
  go_enter Try.func37, Try.ntmps37
  go_wp2_with fail
  refine (specGood_any ao cap ts qo qcap q _ hl hlq (hz.later (below2 _ _ _)) (hq.later (below2 _ _ _))).mono ?_
  rintro e w1 ⟨rfl, hb1⟩
  have hB1 := (below2 w (.cells #[.slice ao ts.length cap, .slice qo q.length qcap] 26) (.cells #[.slice none 0 0, .slice none 0 0] 26)).trans (hb1.mono (by simp; omega))
  have hs1 : w.heap.size + 1 < w1.heap.size := by have := hb1.size; simp at this; omega
  have b0 : w1.cell? ⟨w.heap.size, 0, none⟩ = some (.slice ao ts.length cap) := (hb1.cell (p := ⟨w.heap.size, 0, none⟩) (by simp; omega)).trans (by simp [go_sem])
  have b1 : w1.cell? ⟨w.heap.size, 1, none⟩ = some (.slice qo q.length qcap) := (hb1.cell (p := ⟨w.heap.size, 1, none⟩) (by simp; omega)).trans (by simp [go_sem])
  have bf0 : w1.frozen? ⟨w.heap.size, 0, none⟩ = false := (hb1.frozen (p := ⟨w.heap.size, 0, none⟩) (by simp; omega)).trans (by simp [go_sem])
  have bf1 : w1.frozen? ⟨w.heap.size, 1, none⟩ = false := (hb1.frozen (p := ⟨w.heap.size, 1, none⟩) (by simp; omega)).trans (by simp [go_sem])
  have r0 : w1.cell? ⟨w.heap.size + 1, 0, none⟩ = some (.slice none 0 0) := (hb1.cell (p := ⟨w.heap.size + 1, 0, none⟩) (by simp)).trans (by simp [go_sem])
  have r1 : w1.cell? ⟨w.heap.size + 1, 1, none⟩ = some (.slice none 0 0) := (hb1.cell (p := ⟨w.heap.size + 1, 1, none⟩) (by simp)).trans (by simp [go_sem])
  have f0 : w1.frozen? ⟨w.heap.size + 1, 0, none⟩ = false := (hb1.frozen (p := ⟨w.heap.size + 1, 0, none⟩) (by simp)).trans (by simp [go_sem])
  have f1 : w1.frozen? ⟨w.heap.size + 1, 1, none⟩ = false := (hb1.frozen (p := ⟨w.heap.size + 1, 1, none⟩) (by simp)).trans (by simp [go_sem])
  clear hb1
  cases hg : specGoodB ts q
  · have HR2 : Hid (R = ([], [], 1)) := by rw [Hid, ← HR.out, leaveR, hg]; rfl
    clear hg HR
    go_wp2
    refine bodyPost_ret (v := .tuple #[.agg #[.slice none 0 0, .slice none 0 0], .int .i64 1]) (by simp [results, Try.results37, go_sem, r0, r1]) rfl ?_
    rw [HR2.out]
    exact (ans2_of hB1 (.inl rfl) (.inl rfl) _ _).c (fun h => by simp at h)
  · have HG : Hid (specGoodB ts q = true) := hg
    clear hg
    go_wp2_with fail
    refine (l1Own_any ao cap ts qo qcap q _ hwf hl hlq (hz.later hB1) (hq.later hB1)).mono ?_
    rintro e w2 ⟨⟨to, tc, go, qc, rfl, hT, hI, hT0, hI0⟩, hb2⟩
    have hB2 := hB1.trans (hb2.mono hB1.size)
    have hs2 : w.heap.size + 1 < w2.heap.size := Nat.lt_of_lt_of_le hs1 hb2.size
    have hs12 := hb2.size
    have hlt0 : w.heap.size < w1.heap.size := by omega
    have c0 : w2.cell? ⟨w.heap.size, 0, none⟩ = some (.slice ao ts.length cap) := (hb2.cell (p := ⟨w.heap.size, 0, none⟩) hlt0).trans b0
    have c1 : w2.cell? ⟨w.heap.size, 1, none⟩ = some (.slice qo q.length qcap) := (hb2.cell (p := ⟨w.heap.size, 1, none⟩) hlt0).trans b1
    have c2 : w2.frozen? ⟨w.heap.size, 0, none⟩ = false := (hb2.frozen (p := ⟨w.heap.size, 0, none⟩) hlt0).trans bf0
    have c3 : w2.frozen? ⟨w.heap.size, 1, none⟩ = false := (hb2.frozen (p := ⟨w.heap.size, 1, none⟩) hlt0).trans bf1
    have d0 : w2.cell? ⟨w.heap.size + 1, 0, none⟩ = some (.slice none 0 0) := (hb2.cell (p := ⟨w.heap.size + 1, 0, none⟩) hs1).trans r0
    have d1 : w2.cell? ⟨w.heap.size + 1, 1, none⟩ = some (.slice none 0 0) := (hb2.cell (p := ⟨w.heap.size + 1, 1, none⟩) hs1).trans r1
    have d2 : w2.frozen? ⟨w.heap.size + 1, 0, none⟩ = false := (hb2.frozen (p := ⟨w.heap.size + 1, 0, none⟩) hs1).trans f0
    have d3 : w2.frozen? ⟨w.heap.size + 1, 1, none⟩ = false := (hb2.frozen (p := ⟨w.heap.size + 1, 1, none⟩) hs1).trans f1
    have HF : Hid (FreshT w1.heap.size w2.heap.size w2 to tc ts ∧ FreshI w1.heap.size w2.heap.size w2 go qc q ∧ (ts = [] → tc = 0) ∧ (q = [] → qc = 0)) := ⟨hT, hI, hT0, hI0⟩
    clear hT hI hT0 hI0 hb2 b0 b1 bf0 bf1 r0 r1 f0 f1
    go_wp2_with fail
    obtain ⟨W3, hW3⟩ : ∃ W3, W3 = (w2.setCell ⟨w.heap.size, 0, none⟩ (.slice to ts.length tc)).setCell ⟨w.heap.size, 1, none⟩ (.slice go q.length qc) := ⟨_, rfl⟩
    rw [← hW3]
    have hs3 : W3.heap.size = w2.heap.size := by rw [hW3]; simp
    have hB3 : Below w.heap.size w W3 := by rw [hW3]; exact (hB2.setCell (p := ⟨w.heap.size, 0, none⟩) (by simp) _).setCell (p := ⟨w.heap.size, 1, none⟩) (by simp) _
    have e0 : W3.cell? ⟨w.heap.size, 0, none⟩ = some (.slice to ts.length tc) := by rw [hW3]; simp [go_sem, c0]
    have e1 : W3.cell? ⟨w.heap.size, 1, none⟩ = some (.slice go q.length qc) := by rw [hW3]; simp [go_sem, c1]
    have e2 : W3.frozen? ⟨w.heap.size, 1, none⟩ = false := by rw [hW3]; simp [go_sem, c3]
    have g0 : W3.cell? ⟨w.heap.size + 1, 0, none⟩ = some (.slice none 0 0) := by rw [hW3]; simp [go_sem, d0]
    have g1 : W3.cell? ⟨w.heap.size + 1, 1, none⟩ = some (.slice none 0 0) := by rw [hW3]; simp [go_sem, d1]
    have g2 : W3.frozen? ⟨w.heap.size + 1, 0, none⟩ = false := by rw [hW3]; simp [go_sem, d2]
    have g3 : W3.frozen? ⟨w.heap.size + 1, 1, none⟩ = false := by rw [hW3]; simp [go_sem, d3]
    have HF3 : Hid (FreshT w1.heap.size W3.heap.size W3 to tc ts ∧ FreshI w1.heap.size W3.heap.size W3 go qc q ∧ (ts = [] → tc = 0) ∧ (q = [] → qc = 0)) := by
      rw [hs3, hW3]
      exact ⟨(HF.out.1.setBelow (a := ⟨w.heap.size, 0, none⟩) hlt0 _).setBelow (a := ⟨w.heap.size, 1, none⟩) hlt0 _, (HF.out.2.1.setBelow (a := ⟨w.heap.size, 0, none⟩) hlt0 _).setBelow (a := ⟨w.heap.size, 1, none⟩) hlt0 _, HF.out.2.2⟩
    clear hW3 HF c0 c1 c2 c3 d0 d1 d2 d3
    refine (l1Runs_any to tc ts go q.length qc W3 hl HF3.out.1.tasks).mono ?_
    rintro e w4 ⟨rfl, hb4⟩
    have hs4 := hb4.size
    have hltB : w.heap.size < W3.heap.size := by omega
    have hltR : w.heap.size + 1 < W3.heap.size := by omega
    have hB4 := hB3.trans (hb4.mono hB3.size)
    have h0 : w4.cell? ⟨w.heap.size, 0, none⟩ = some (.slice to ts.length tc) := (hb4.cell (p := ⟨w.heap.size, 0, none⟩) hltB).trans e0
    have h1 : w4.cell? ⟨w.heap.size, 1, none⟩ = some (.slice go q.length qc) := (hb4.cell (p := ⟨w.heap.size, 1, none⟩) hltB).trans e1
    have h2 : w4.frozen? ⟨w.heap.size, 1, none⟩ = false := (hb4.frozen (p := ⟨w.heap.size, 1, none⟩) hltB).trans e2
    have k0 : w4.cell? ⟨w.heap.size + 1, 0, none⟩ = some (.slice none 0 0) := (hb4.cell (p := ⟨w.heap.size + 1, 0, none⟩) hltR).trans g0
    have k1 : w4.cell? ⟨w.heap.size + 1, 1, none⟩ = some (.slice none 0 0) := (hb4.cell (p := ⟨w.heap.size + 1, 1, none⟩) hltR).trans g1
    have k2 : w4.frozen? ⟨w.heap.size + 1, 0, none⟩ = false := (hb4.frozen (p := ⟨w.heap.size + 1, 0, none⟩) hltR).trans g2
    have k3 : w4.frozen? ⟨w.heap.size + 1, 1, none⟩ = false := (hb4.frozen (p := ⟨w.heap.size + 1, 1, none⟩) hltR).trans g3
    have HF4 : Hid (FreshT w1.heap.size w4.heap.size w4 to tc ts ∧ FreshI w1.heap.size w4.heap.size w4 go qc q ∧ (ts = [] → tc = 0) ∧ (q = [] → qc = 0)) := ⟨(HF3.out.1.later hb4).wide (Nat.le_refl _) hs4, (HF3.out.2.1.later hb4).wide (Nat.le_refl _) hs4, HF3.out.2.2⟩
    clear hb4 HF3 e0 e1 e2 g0 g1 g2 g3
    cases hf : firstRun ts with
    | none =>
      have HR2 : Hid (R = (ts, q, 2)) := by rw [Hid, ← HR.out, leaveR, HG.out, hf]; rfl
      rw [show runI ts = -1 from by rw [runI, hf]]
      clear hf HR
      go_wp2
      refine bodyPost_ret (v := .tuple #[.agg #[.slice to ts.length tc, .slice go q.length qc], .int .i64 2]) (by simp [results, Try.results37, go_sem, k0, k1]) rfl ?_
      rw [HR2.out]
      exact (ans2_of hB4 (HF4.out.1.wide (by omega) (Nat.le_refl _)) (HF4.out.2.1.wide (by omega) (Nat.le_refl _)) _ _).c (fun h => by simp at h)
    | some id =>
      obtain ⟨hid, hst2⟩ := firstRun_lt hf
      have hpz : (ts[id]?.getD (0, 0)).2 = 0 := good_zero ts q HG.out id hid (by omega)
      rw [show runI ts = (id : Int) from by rw [runI, hf]]
      obtain ⟨g, rfl, hg1, hg2, hg3, hcs, hfs, hput⟩ := HF4.out.1.atS (by omega)
      obtain ⟨u0, hu0⟩ := hcs (id * 2) (by omega)
      have hu1 := hfs (id * 2)
      have hT5 := hput id st hid
      rw [hpz] at hT5
      have ho5 : OnlyAt (eff (some ⟨g, 0, none⟩) ts.length) w4 (w4.setCell ⟨g, id * 2, none⟩ (.int .i64 st)) := by rw [eff_pos (by omega)]; exact OnlyAt.set g (id * 2) _ _
      have HF5 : Hid (FreshT w1.heap.size w4.heap.size (w4.setCell ⟨g, id * 2, none⟩ (.int .i64 st)) (some ⟨g, 0, none⟩) tc (ts.set id (st, 0)) ∧ FreshI w1.heap.size w4.heap.size (w4.setCell ⟨g, id * 2, none⟩ (.int .i64 st)) go qc q ∧ (q = [] → qc = 0)) := ⟨hT5, HF4.out.2.1.only HF4.out.1 ho5, HF4.out.2.2.2⟩
      have hgB : g ≠ w.heap.size := by omega
      have hgR : g ≠ w.heap.size + 1 := by omega
      have hi0 : (0 : Int) ≤ (id : Int) := by omega
      clear hcs hfs hput hT5 hpz hst2 ho5
      by_cases hst : st = 1
      · have HR2 : Hid (R = (ts.set id (1, 0), q ++ [(id : Int)], 0)) := by rw [Hid, ← HR.out, leaveR, HG.out, hf]; simp [hst]
        subst hst
        clear hf HR
        have HX : Hid (w1.heap.size ≤ ((w4.setCell ⟨g, id * 2, none⟩ (.int .i64 1)).alloc (.cells #[.int .i64 (id : Int)] 3)).heap.size ∧ ((w4.setCell ⟨g, id * 2, none⟩ (.int .i64 1)).alloc (.cells #[.int .i64 (id : Int)] 3)).cell? ⟨w4.heap.size, 0, none⟩ = some (.int .i64 (id : Int))) := by
          refine ⟨?_, ?_⟩
          · simp; omega
          · rw [World.cell?_alloc_at (hn := by simp)]; rfl
        go_wp2_with (at_builtin; refine wpList_push3 ((w4.setCell ⟨g, id * 2, none⟩ (.int .i64 1)).alloc (.cells #[.int .i64 (id : Int)] 3)) rfl (.tmp 27) (.tmp 29) rfl w1.heap.size w4.heap.size go qc q rfl (HF5.out.2.1.later (below1 _ _)) HX.out.1 HF5.out.2.2 (push_none HF5.out.2.1 HF5.out.2.2) hlq w4.heap.size (id : Int) 1 rfl HX.out.2 ?_; intro g' qc' w5 hI5 hz5 ho5 ht5 hp5 hk5; have hz6 : w4.heap.size + 1 ≤ w5.heap.size := (by simpa using hz5); have hlow : ∀ k, k < w1.heap.size → w5.heap[k]? = (w4.setCell ⟨g, id * 2, none⟩ (.int .i64 1)).heap[k]? := (fun k hk => (push_low (HF5.out.2.1.later (below1 _ _)) hk5 k hk (by simp <;> omega)).trans (Below.heap_alloc _ _ k (by simp <;> omega))); have l0 : w5.cell? ⟨w.heap.size, 0, none⟩ = some (.slice (some ⟨g, 0, none⟩) ts.length tc) := (World.cell?_of_block (a := ⟨w.heap.size, 0, none⟩) (hlow _ hlt0)).trans (by rw [World.cell?_setCell_other _ _ _ _ (by simp <;> omega)]; exact h0); have l1 : w5.cell? ⟨w.heap.size, 1, none⟩ = some (.slice go q.length qc) := (World.cell?_of_block (a := ⟨w.heap.size, 1, none⟩) (hlow _ hlt0)).trans (by rw [World.cell?_setCell_other _ _ _ _ (by simp <;> omega)]; exact h1); have l2 : w5.frozen? ⟨w.heap.size, 1, none⟩ = false := (World.frozen?_of_block (a := ⟨w.heap.size, 1, none⟩) (hlow _ hlt0)).trans (by rw [World.frozen?_setCell]; exact h2); have n0 : w5.cell? ⟨w.heap.size + 1, 0, none⟩ = some (.slice none 0 0) := (World.cell?_of_block (a := ⟨w.heap.size + 1, 0, none⟩) (hlow _ hs1)).trans (by rw [World.cell?_setCell_other _ _ _ _ (by simp <;> omega)]; exact k0); have n1 : w5.cell? ⟨w.heap.size + 1, 1, none⟩ = some (.slice none 0 0) := (World.cell?_of_block (a := ⟨w.heap.size + 1, 1, none⟩) (hlow _ hs1)).trans (by rw [World.cell?_setCell_other _ _ _ _ (by simp <;> omega)]; exact k1); have n2 : w5.frozen? ⟨w.heap.size + 1, 0, none⟩ = false := (World.frozen?_of_block (a := ⟨w.heap.size + 1, 0, none⟩) (hlow _ hs1)).trans (by rw [World.frozen?_setCell]; exact k2); have n3 : w5.frozen? ⟨w.heap.size + 1, 1, none⟩ = false := (World.frozen?_of_block (a := ⟨w.heap.size + 1, 1, none⟩) (hlow _ hs1)).trans (by rw [World.frozen?_setCell]; exact k3); have HF6 : Hid (FreshT w1.heap.size w5.heap.size w5 (some ⟨g, 0, none⟩) tc (ts.set id (1, 0)) ∧ FreshI w1.heap.size w5.heap.size w5 (some ⟨g', 0, none⟩) qc' (q ++ [(id : Int)]) ∧ Below w.heap.size w w5) := (by
          refine ⟨(push_T (HF5.out.1.later (below1 _ _)) (HF5.out.2.1.later (below1 _ _)) hk5).wide (Nat.le_refl _) (by omega), hI5, ?_⟩
          have hb4 := hB4.setCell (p := ⟨g, id * 2, none⟩) (by simp <;> omega) (.int .i64 1)
          exact hb4.trans ⟨ho5, ht5, hp5, by simp <;> omega, fun k hk => hlow k (by omega)⟩); clear hI5 hk5 hlow ho5 ht5 hp5)
        refine bodyPost_ret (v := .tuple #[.agg #[.slice (some ⟨g, 0, none⟩) ts.length tc, .slice (some ⟨g', 0, none⟩) (q.length + 1) qc'], .int .i64 0]) (by simp [results, Try.results37, go_sem, n0, n1]) rfl ?_
        rw [HR2.out]
        have h := ans2_of (c := 0) (HF6.out.2.2.setCell (p := ⟨w.heap.size, 1, none⟩) (by simp) (.slice (some ⟨g', 0, none⟩) (q.length + 1) qc')) ((HF6.out.1.setBelow (a := ⟨w.heap.size, 1, none⟩) hlt0 _).wide (by omega) (by simp)) ((HF6.out.2.1.setBelow (a := ⟨w.heap.size, 1, none⟩) hlt0 _).wide (by omega) (by simp)) (.slice (some ⟨g, 0, none⟩) ts.length tc) (.slice (some ⟨g', 0, none⟩) (q.length + 1) qc')
        exact Ans2.c (by simpa using h) (fun _ h => by simp at h)
      · have HR2 : Hid (R = (ts.set id (st, 0), q, 0)) := by rw [Hid, ← HR.out, leaveR, HG.out, hf]; simp [hst]
        have hst' : (st == 1) = false := by simpa using hst
        clear hf HR hst
        go_wp2
        refine bodyPost_ret (v := .tuple #[.agg #[.slice (some ⟨g, 0, none⟩) ts.length tc, .slice go q.length qc], .int .i64 0]) (by simp [results, Try.results37, go_sem, k0, k1]) rfl ?_
        rw [HR2.out]
        have h := ans2c_of (c := 0) (hB4.setCell (p := ⟨g, id * 2, none⟩) (by simp; omega) (.int .i64 st)) (HF5.out.1.wide (by omega) (by simp)) (HF5.out.2.1.wide (by omega) (by simp)) (fun _ => HF5.out.2.2) (.slice (some ⟨g, 0, none⟩) ts.length tc) (.slice go q.length qc)
        simpa using h
end Go.Proofs.Ytgbnbnjfaffaiaa.Old
