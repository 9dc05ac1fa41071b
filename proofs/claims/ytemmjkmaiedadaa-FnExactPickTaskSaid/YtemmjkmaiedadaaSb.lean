/- Spawn: the program's and the specification's. No conditions but those written. -/
import Derived.Test.YtemmjkmaiedadaaSa
namespace Go.Proofs.Ytemmjkmaiedadaa
open Go.RowKit

theorem wpList_push47 {ops : Array Oper} {rest : List Oper} {o : Oper} {a : Act} {Q : Exit → Act → World → Prop} (W : World) (hg : o.guard = none) (s x : Operand) (hop : o.op = Op.call { callee := Callee.builtin Builtin.append, args := #[s, x], argTypes := #[28, 28] })
    (lo hi : Nat) (to : Option Addr) (tc : Nat) (ts : List (Int × Int)) (hs : a.eval s = .slice to ts.length tc) (hF : FreshT lo hi W to tc ts) (hlo : lo ≤ W.heap.size) (h0 : ts = [] → tc = 0) (hn0 : to = none → ts.length = 0 ∧ tc = 0) (hl : ts.length ≤ 1048576)
    (b : Nat) (u v : Int) (c : Nat) (hx : a.eval x = .slice (some ⟨b, 0, none⟩) 1 c) (hc0 : W.cell? ⟨b, 0, none⟩ = some (.int .i64 u)) (hc1 : W.cell? ⟨b, 1, none⟩ = some (.int .i64 v))
    (hK : ∀ g' tc' w', FreshT lo w'.heap.size w' (some ⟨g', 0, none⟩) tc' (ts ++ [(u, v)]) → W.heap.size ≤ w'.heap.size → w'.os = W.os → w'.tape = W.tape → w'.output = W.output → (∀ k, k < W.heap.size → (∀ g, eff to ts.length = some ⟨g, 0, none⟩ → k ≠ g) → w'.heap[k]? = W.heap[k]?) → wpList Try.prog ops Q rest (a.put o.dst (.slice (some ⟨g', 0, none⟩) (ts.length + 1) tc')) w') :
    wpList Try.prog ops Q (o :: rest) a W := by
  obtain ⟨i0, hin, hz0, hz1, hz2⟩ := info_parts Try.info47
  have hcz : ∀ j w, (tcells [(u, v)])[j]? = some w → W.cell? ((⟨b, 0, none⟩ : Addr).add j) = some w := by
    intro j w h
    match j, h with
    | 0, h => simp [tcells] at h; subst h; simpa [Addr.add] using hc0
    | 1, h => simp [tcells] at h; subst h; simpa [Addr.add] using hc1
  rcases Nat.eq_zero_or_pos ts.length with hq | hq
  · obtain rfl : ts = [] := List.length_eq_zero_iff.1 hq
    obtain rfl := h0 rfl
    refine wpList_append_grows W hg s x 28 hop 47 i0 (.agg #[.int .i64 0, .int .i64 0]) 2 16 Try.underlying28 hin hz0 hz1 hz2 rfl (by decide) to 0 0 [] hs hn0 rfl (by simp) ⟨b, 0, none⟩ 1 c (tcells [(u, v)]) hx rfl hcz (tcells_one _) (by omega) (by unfold maxLen; omega) (by omega) ?_
    intro v' w' hown hgrow
    rw [Nat.zero_add, List.nil_append] at hown
    obtain ⟨g', cap', rfl⟩ := owns_form hown (by omega)
    exact hK g' cap' w' (.inr ⟨g', _, rfl, (owns_lt hown).2, ownsRow_base hown (Nat.le_trans hlo (owns_lt hown).1), tcells_at [(u, v)]⟩) hgrow.size hgrow.os hgrow.tape hgrow.output (fun k hk _ => hgrow.block k hk (by simp))
  · rw [eff_pos hq] at hK
    obtain ⟨g, xs, rfl, hgh, ho, hp⟩ : ∃ g xs, to = some ⟨g, 0, none⟩ ∧ g < hi ∧ W.ownsRow lo 47 2 (.slice (some ⟨g, 0, none⟩) ts.length tc) ts.length xs ∧ ∀ j, j < ts.length → xs[j * 2]? = some (.int .i64 (ts[j]?.getD (0, 0)).1) ∧ xs[j * 2 + 1]? = some (.int .i64 (ts[j]?.getD (0, 0)).2) := by
      rcases hF with rfl | h
      · simp at hq
      · exact h
    refine wpList_append_own W hg s x 28 hop lo 47 i0 (.agg #[.int .i64 0, .int .i64 0]) 2 16 Try.underlying28 hin hz0 hz1 hz2 rfl (by decide) _ ts.length _ hs ho ⟨b, 0, none⟩ 1 c (tcells [(u, v)]) hx rfl hcz (tcells_one _) (by unfold maxLen; omega) (by omega) hlo ?_
    intro v' w' hown hgrow _
    obtain ⟨g', cap', rfl⟩ := owns_form hown (by omega)
    have hxl := ho.1
    refine hK g' cap' w' (.inr ⟨g', xs ++ tcells [(u, v)], rfl, (owns_lt hown).2, by simpa using hown, fun j hj => ?_⟩) hgrow.size hgrow.os hgrow.tape hgrow.output (fun k hk hne => hgrow.block k hk (fun e => ?_))
    · simp at hj
      by_cases e : j < ts.length
      · have e1 : (xs ++ tcells [(u, v)])[j * 2]? = xs[j * 2]? := List.getElem?_append_left (by omega)
        have e2 : (xs ++ tcells [(u, v)])[j * 2 + 1]? = xs[j * 2 + 1]? := List.getElem?_append_left (by omega)
        have e3 : (ts ++ [(u, v)])[j]? = ts[j]? := List.getElem?_append_left e
        rw [e1, e2, e3]
        exact hp j e
      · obtain rfl : j = ts.length := by omega
        have e1 : (xs ++ tcells [(u, v)])[ts.length * 2]? = (tcells [(u, v)])[0]? := by rw [List.getElem?_append_right (by omega), hxl]; simp
        have e2 : (xs ++ tcells [(u, v)])[ts.length * 2 + 1]? = (tcells [(u, v)])[1]? := by rw [List.getElem?_append_right (by omega), hxl]; simp
        rw [e1, e2]
        simp [tcells]
    · simp [Value.ownBlock] at e
      exact hne g rfl e
theorem push_lowT {lo hi : Nat} {W w' : World} {to : Option Addr} {tc : Nat} {ts : List (Int × Int)} (hF : FreshT lo hi W to tc ts) (hk : ∀ k, k < W.heap.size → (∀ g, eff to ts.length = some ⟨g, 0, none⟩ → k ≠ g) → w'.heap[k]? = W.heap[k]?) (k : Nat) (h1 : k < lo) (h2 : k < W.heap.size) : w'.heap[k]? = W.heap[k]? := by
  refine hk k h2 fun g e => ?_
  rcases hF with rfl | ⟨g2, xs, e2, _, ho, _⟩
  · simp [eff] at e
  · unfold eff at e
    split at e
    · cases e
    · rw [e2] at e; simp at e; subst e
      have := (owns_lt ho).1
      omega
theorem push_I {lo hi hi' : Nat} {W w' : World} {to qo : Option Addr} {tc qc : Nat} {ts : List (Int × Int)} {q : List Int} (hI : FreshI lo hi W qo qc q) (hT : FreshT lo hi' W to tc ts) (hk : ∀ k, k < W.heap.size → (∀ g, eff to ts.length = some ⟨g, 0, none⟩ → k ≠ g) → w'.heap[k]? = W.heap[k]?) : FreshI lo hi w' qo qc q := by
  rcases hI with h | ⟨g, e, hg, ho⟩
  · exact .inl h
  · refine .inr ⟨g, e, hg, owns_block ho (hk g (owns_lt ho).2 fun g' e' => ?_)⟩
    rcases hT with rfl | ⟨g2, xs, e2, _, ho2, _⟩
    · simp [eff] at e'
    · unfold eff at e'
      split at e'
      · cases e'
      · rw [e2] at e'; simp at e'; subst e'
        exact fun x => owns_ne ho2 ho x.symm
theorem push_noneT {lo hi : Nat} {W : World} {to : Option Addr} {tc : Nat} {ts : List (Int × Int)} (hF : FreshT lo hi W to tc ts) (h0 : ts = [] → tc = 0) (h : to = none) : ts.length = 0 ∧ tc = 0 := by
  rcases hF with rfl | ⟨g, xs, e, _⟩
  · exact ⟨rfl, h0 rfl⟩
  · rw [e] at h; cases h

/-- What SpawnTask answers. -/
def spawnR (ts : List (Int × Int)) (q : List Int) : List (Int × Int) × List Int × Int × Int :=
  if specGoodB ts q = true then (if ts.length = 30 then (ts, q, 0, 5) else (ts ++ [(1, 0)], q ++ [(ts.length : Int)], (ts.length : Int), 0)) else ([], [], 0, 1)
theorem spawnR_len (ts : List (Int × Int)) (q : List Int) (h1 : ts.length ≤ 1048576) (h2 : q.length ≤ 1048576) : (spawnR ts q).1.length ≤ 1048576 ∧ (spawnR ts q).2.1.length ≤ 1048576 := by
  unfold spawnR
  split
  · rename_i hg
    have hq := good_queue ts q hg
    have ht := good_len ts q hg
    split
    · exact ⟨h1, h2⟩
    · exact ⟨by simp; omega, by simp; omega⟩
  · simp
/-- A board of its own memory, an id and a code. -/
def Ans3 (w : World) (r : List (Int × Int) × List Int × Int × Int) (e : Ending) (w' : World) : Prop :=
  (∃ to tc go qc, e = .returned (.tuple #[.agg #[.slice to r.1.length tc, .slice go r.2.1.length qc], .int .i64 r.2.2.1, .int .i64 r.2.2.2]) ∧ FreshT w.heap.size w'.heap.size w' to tc r.1 ∧ FreshI w.heap.size w'.heap.size w' go qc r.2.1) ∧ Below w.heap.size w w'
theorem ans3_of {w W : World} {ts' : List (Int × Int)} {q' : List Int} {i c : Int} {to go : Option Addr} {tc qc : Nat} (hB : Below w.heap.size w W) (hT : FreshT (w.heap.size + 1 + 1) W.heap.size W to tc ts') (hI : FreshI (w.heap.size + 1 + 1) W.heap.size W go qc q') (u0 u1 : Value) :
    Ans3 w (ts', q', i, c) (.returned (.tuple #[.agg #[.slice to ts'.length tc, .slice go q'.length qc], .int .i64 i, .int .i64 c])) ((W.setCell ⟨w.heap.size + 1, 0, none⟩ u0).setCell ⟨w.heap.size + 1, 1, none⟩ u1) :=
  ⟨⟨to, tc, go, qc, rfl, ((hT.setBelow (a := ⟨w.heap.size + 1, 0, none⟩) (by simp) _).setBelow (a := ⟨w.heap.size + 1, 1, none⟩) (by simp) _).wide (by omega) (by simp), ((hI.setBelow (a := ⟨w.heap.size + 1, 0, none⟩) (by simp) _).setBelow (a := ⟨w.heap.size + 1, 1, none⟩) (by simp) _).wide (by omega) (by simp)⟩,
    (hB.setCell (p := ⟨w.heap.size + 1, 0, none⟩) (by simp) _).setCell (p := ⟨w.heap.size + 1, 1, none⟩) (by simp) _⟩
theorem set_last (ts : List (Int × Int)) (a b : Int × Int) : (ts ++ [a]).set ts.length b = ts ++ [b] := by simp
theorem withReady_app (ao : Option Addr) (cap : Nat) (ts : List (Int × Int)) (qo : Option Addr) (qcap : Nat) (q : List Int) (w : World) (hl : ts.length ≤ 1048575) (hlq : q.length ≤ 1048576) (hz : TasksIn w.heap.size w ao (ts ++ [(0, 0)])) (hq : IntsIn w.heap.size w qo q) :
    Calls Try.prog 49 #[.agg #[.slice ao (ts.length + 1) cap, .slice qo q.length qcap], .int .i64 (ts.length : Int)] w fun e w' => (∃ to go, e = .returned (.agg #[.slice to (ts.length + 1) (ts.length + 1), .slice go (q.length + 1) (q.length + 1)]) ∧ FreshT w.heap.size w'.heap.size w' to (ts.length + 1) (ts ++ [(1, 0)]) ∧ FreshI w.heap.size w'.heap.size w' go (q.length + 1) (q ++ [(ts.length : Int)])) ∧ Below w.heap.size w w' := by
  have h := withReady_any ao cap (ts ++ [(0, 0)]) qo qcap q ts.length w (by simp; omega) hlq (by simp) hz hq
  rw [set_last] at h
  simp only [List.length_append, List.length_singleton] at h
  exact h

set_option maxHeartbeats 4000000 in
theorem implSpawn_any (ao : Option Addr) (cap : Nat) (ts : List (Int × Int)) (qo : Option Addr) (qcap : Nat) (q : List Int) (w : World) (hl : ts.length ≤ 1048576) (hlq : q.length ≤ 1048576) (hz : TasksIn w.heap.size w ao ts) (hq : IntsIn w.heap.size w qo q) :
    Calls Try.prog 18 #[.agg #[.slice ao ts.length cap, .slice qo q.length qcap]] w fun e w' => Ans3 w (spawnR ts q) e w' := by
  generalize hR : spawnR ts q = R
  have HR : Hid (spawnR ts q = R) := hR
  clear hR
  go_enter Try.func18, Try.ntmps18
  go_wp2_with fail
  refine (implGood_any ao cap ts qo qcap q _ hl (hz.later (below2 _ _ _)) (hq.later (below2 _ _ _))).mono ?_
  rintro e w1 ⟨rfl, hb1⟩
  have hB1 := (below2 w (.cells #[.slice ao ts.length cap, .slice qo q.length qcap] 30) (.cells #[.slice none 0 0, .slice none 0 0] 30)).trans (hb1.mono (by simp; omega))
  have hs1 : w.heap.size + 1 < w1.heap.size := by have := hb1.size; simp at this; omega
  have b0 : w1.cell? ⟨w.heap.size, 0, none⟩ = some (.slice ao ts.length cap) := (hb1.cell (p := ⟨w.heap.size, 0, none⟩) (by simp; omega)).trans (by simp [go_sem])
  have b1 : w1.cell? ⟨w.heap.size, 1, none⟩ = some (.slice qo q.length qcap) := (hb1.cell (p := ⟨w.heap.size, 1, none⟩) (by simp; omega)).trans (by simp [go_sem])
  have r0 : w1.cell? ⟨w.heap.size + 1, 0, none⟩ = some (.slice none 0 0) := (hb1.cell (p := ⟨w.heap.size + 1, 0, none⟩) (by simp)).trans (by simp [go_sem])
  have r1 : w1.cell? ⟨w.heap.size + 1, 1, none⟩ = some (.slice none 0 0) := (hb1.cell (p := ⟨w.heap.size + 1, 1, none⟩) (by simp)).trans (by simp [go_sem])
  have f0 : w1.frozen? ⟨w.heap.size + 1, 0, none⟩ = false := (hb1.frozen (p := ⟨w.heap.size + 1, 0, none⟩) (by simp)).trans (by simp [go_sem])
  have f1 : w1.frozen? ⟨w.heap.size + 1, 1, none⟩ = false := (hb1.frozen (p := ⟨w.heap.size + 1, 1, none⟩) (by simp)).trans (by simp [go_sem])
  clear hb1
  cases hg : specGoodB ts q
  · have HR2 : Hid (R = ([], [], 0, 1)) := by rw [Hid, ← HR.out, spawnR, hg]; rfl
    clear hg HR
    go_wp2
    refine bodyPost_ret (v := .tuple #[.agg #[.slice none 0 0, .slice none 0 0], .int .i64 0, .int .i64 1]) (by simp [results, Try.results18, go_sem, r0, r1]) rfl ?_
    rw [HR2.out]
    exact ans3_of hB1 (.inl rfl) (.inl rfl) _ _
  · have HG : Hid (specGoodB ts q = true) := hg
    clear hg
    by_cases h30 : ts.length = 30
    · have HR2 : Hid (R = (ts, q, 0, 5)) := by rw [Hid, ← HR.out, spawnR, HG.out, if_pos rfl, if_pos h30]
      have h30' : ((ts.length : Int) == 30) = true := by simp; omega
      clear h30 HR
      go_wp2_with fail
      refine (copyBoard_any ao cap ts qo qcap q _ hl hlq (hz.later hB1) (hq.later hB1)).mono ?_
      rintro e w3 ⟨⟨to, go, rfl, hT, hI⟩, hb3⟩
      have hB3 := hB1.trans (hb3.mono hB1.size)
      have g0 : w3.cell? ⟨w.heap.size + 1, 0, none⟩ = some (.slice none 0 0) := (hb3.cell (p := ⟨w.heap.size + 1, 0, none⟩) hs1).trans r0
      have g1 : w3.cell? ⟨w.heap.size + 1, 1, none⟩ = some (.slice none 0 0) := (hb3.cell (p := ⟨w.heap.size + 1, 1, none⟩) hs1).trans r1
      have g2 : w3.frozen? ⟨w.heap.size + 1, 0, none⟩ = false := (hb3.frozen (p := ⟨w.heap.size + 1, 0, none⟩) hs1).trans f0
      have g3 : w3.frozen? ⟨w.heap.size + 1, 1, none⟩ = false := (hb3.frozen (p := ⟨w.heap.size + 1, 1, none⟩) hs1).trans f1
      have HF : Hid (FreshT w1.heap.size w3.heap.size w3 to ts.length ts ∧ FreshI w1.heap.size w3.heap.size w3 go q.length q) := ⟨hT, hI⟩
      clear hT hI hb3
      go_wp2
      refine bodyPost_ret (v := .tuple #[.agg #[.slice to ts.length ts.length, .slice go q.length q.length], .int .i64 0, .int .i64 5]) (by simp [results, Try.results18, go_sem, g0, g1]) rfl ?_
      rw [HR2.out]
      exact ans3_of hB3 (HF.out.1.wide (by omega) (Nat.le_refl _)) (HF.out.2.wide (by omega) (Nat.le_refl _)) _ _
    · have HR2 : Hid (R = (ts ++ [(1, 0)], q ++ [(ts.length : Int)], (ts.length : Int), 0)) := by rw [Hid, ← HR.out, spawnR, HG.out, if_pos rfl, if_neg h30]
      have h30' : ((ts.length : Int) == 30) = false := by simp; omega
      have hl30 := good_len ts q HG.out
      have hlt0 : w.heap.size < w1.heap.size := by omega
      clear h30 HR
      go_wp2_with fail
      refine (queueOfT_any ao cap ts _ hl (hz.later hB1)).mono ?_
      rintro e w2 ⟨⟨to2, rfl, hT2⟩, hb2⟩
      have hB2 := hB1.trans (hb2.mono hB1.size)
      have hs2 := hb2.size
      have HT2 := show Hid (TasksIn w2.heap.size w2 to2 ts) from hT2.tasks
      clear hT2
      go_wp2_with fail
      refine (withT_any to2 ts.length ts 0 0 w2 hl HT2.out).mono ?_
      rintro e w3 ⟨⟨to3, rfl, hT3⟩, hb3⟩
      have hB3 := hB2.trans (hb3.mono hB2.size)
      have hs3 := hb3.size
      have hb13 : Below w1.heap.size w1 w3 := hb2.trans (hb3.mono hs2)
      have c0 : w3.cell? ⟨w.heap.size, 0, none⟩ = some (.slice ao ts.length cap) := (hb13.cell (p := ⟨w.heap.size, 0, none⟩) hlt0).trans b0
      have c1 : w3.cell? ⟨w.heap.size, 1, none⟩ = some (.slice qo q.length qcap) := (hb13.cell (p := ⟨w.heap.size, 1, none⟩) hlt0).trans b1
      have d0 : w3.cell? ⟨w.heap.size + 1, 0, none⟩ = some (.slice none 0 0) := (hb13.cell (p := ⟨w.heap.size + 1, 0, none⟩) hs1).trans r0
      have d1 : w3.cell? ⟨w.heap.size + 1, 1, none⟩ = some (.slice none 0 0) := (hb13.cell (p := ⟨w.heap.size + 1, 1, none⟩) hs1).trans r1
      have d2 : w3.frozen? ⟨w.heap.size + 1, 0, none⟩ = false := (hb13.frozen (p := ⟨w.heap.size + 1, 0, none⟩) hs1).trans f0
      have d3 : w3.frozen? ⟨w.heap.size + 1, 1, none⟩ = false := (hb13.frozen (p := ⟨w.heap.size + 1, 1, none⟩) hs1).trans f1
      have hlt3 : w.heap.size < w3.heap.size := by omega
      have hlt4 : w.heap.size + 1 < w3.heap.size := by omega
      have HT3 := show Hid (TasksIn w3.heap.size w3 to3 (ts ++ [(0, 0)])) from hT3.tasks
      clear hT3 hb2 hb3 hb13 HT2 b0 b1 r0 r1 f0 f1
      go_wp2_with fail
      refine (withReady_app to3 (ts.length + 1) ts qo qcap q _ (by omega) hlq (HT3.out.later (below1 _ _)) ((hq.later hB3).later (below1 _ _))).mono ?_
      rintro e w4 ⟨⟨to, go, rfl, hT, hI⟩, hb4⟩
      have hb34 : Below w3.heap.size w3 w4 := (below1 w3 (.cells #[.slice to3 (ts.length + 1) (ts.length + 1)] 57)).trans (hb4.mono (by simp))
      have hB4 := hB3.trans (hb34.mono hB3.size)
      have g0 : w4.cell? ⟨w.heap.size + 1, 0, none⟩ = some (.slice none 0 0) := (hb34.cell (p := ⟨w.heap.size + 1, 0, none⟩) hlt4).trans d0
      have g1 : w4.cell? ⟨w.heap.size + 1, 1, none⟩ = some (.slice none 0 0) := (hb34.cell (p := ⟨w.heap.size + 1, 1, none⟩) hlt4).trans d1
      have g2 : w4.frozen? ⟨w.heap.size + 1, 0, none⟩ = false := (hb34.frozen (p := ⟨w.heap.size + 1, 0, none⟩) hlt4).trans d2
      have g3 : w4.frozen? ⟨w.heap.size + 1, 1, none⟩ = false := (hb34.frozen (p := ⟨w.heap.size + 1, 1, none⟩) hlt4).trans d3
      simp only [World.size_alloc] at hT hI
      have HF : Hid (FreshT (w3.heap.size + 1) w4.heap.size w4 to (ts.length + 1) (ts ++ [(1, 0)]) ∧ FreshI (w3.heap.size + 1) w4.heap.size w4 go (q.length + 1) (q ++ [(ts.length : Int)])) := ⟨hT, hI⟩
      clear hT hI hb4 hb34
      go_wp2
      refine bodyPost_ret (v := .tuple #[.agg #[.slice to (ts.length + 1) (ts.length + 1), .slice go (q.length + 1) (q.length + 1)], .int .i64 (ts.length : Int), .int .i64 0]) (by simp [results, Try.results18, go_sem, g0, g1]) rfl ?_
      rw [HR2.out]
      have h := ans3_of (i := (ts.length : Int)) (c := 0) hB4 (HF.out.1.wide (by omega) (Nat.le_refl _)) (HF.out.2.wide (by omega) (Nat.le_refl _)) (.slice to (ts.length + 1) (ts.length + 1)) (.slice go (q.length + 1) (q.length + 1))
      simpa using h
end Go.Proofs.Ytemmjkmaiedadaa
