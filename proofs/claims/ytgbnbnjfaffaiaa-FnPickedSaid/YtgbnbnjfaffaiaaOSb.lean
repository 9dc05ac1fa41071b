
/- Spawn: the program's and the specification's. No conditions but those written. -/
import Derived.Test.YtgbnbnjfaffaiaaOSa
namespace Go.Proofs.Ytgbnbnjfaffaiaa.Old
open Go.RowKit

theorem wpList_push47 {ops : Array Oper} {rest : List Oper} {o : Oper} {a : Act} {Q : Exit → Act → World → Prop} (W : World) (hg : o.guard = none) (s x : Operand) (hop : o.op = Op.call { callee := Callee.builtin Builtin.append, args := #[s, x], argTypes := #[23, 23] })
    (lo hi : Nat) (to : Option Addr) (tc : Nat) (ts : List (Int × Int)) (hs : a.eval s = .slice to ts.length tc) (hF : FreshT lo hi W to tc ts) (hlo : lo ≤ W.heap.size) (h0 : ts = [] → tc = 0) (hn0 : to = none → ts.length = 0 ∧ tc = 0) (hl : ts.length ≤ 1048576)
    (b : Nat) (u v : Int) (c : Nat) (hx : a.eval x = .slice (some ⟨b, 0, none⟩) 1 c) (hc0 : W.cell? ⟨b, 0, none⟩ = some (.int .i64 u)) (hc1 : W.cell? ⟨b, 1, none⟩ = some (.int .i64 v))
    (hK : ∀ g' tc' w', FreshT lo w'.heap.size w' (some ⟨g', 0, none⟩) tc' (ts ++ [(u, v)]) → W.heap.size ≤ w'.heap.size → w'.os = W.os → w'.tape = W.tape → w'.output = W.output → (∀ k, k < W.heap.size → (∀ g, eff to ts.length = some ⟨g, 0, none⟩ → k ≠ g) → w'.heap[k]? = W.heap[k]?) → wpList Try.prog ops Q rest (a.put o.dst (.slice (some ⟨g', 0, none⟩) (ts.length + 1) tc')) w') :
    wpList Try.prog ops Q (o :: rest) a W := by
  obtain ⟨i0, hin, hz0, hz1, hz2⟩ := info_parts Try.info34
  have hcz : ∀ j w, (tcells [(u, v)])[j]? = some w → W.cell? ((⟨b, 0, none⟩ : Addr).add j) = some w := by
    intro j w h
    match j, h with
    | 0, h => simp [tcells] at h; subst h; simpa [Addr.add] using hc0
    | 1, h => simp [tcells] at h; subst h; simpa [Addr.add] using hc1
  rcases Nat.eq_zero_or_pos ts.length with hq | hq
  · obtain rfl : ts = [] := List.length_eq_zero_iff.1 hq
    obtain rfl := h0 rfl
    refine wpList_append_grows W hg s x 23 hop 34 i0 (.agg #[.int .i64 0, .int .i64 0]) 2 16 Try.underlying23 hin hz0 hz1 hz2 rfl (by decide) to 0 0 [] hs hn0 rfl (by simp) ⟨b, 0, none⟩ 1 c (tcells [(u, v)]) hx rfl hcz (tcells_one _) (by omega) (by unfold maxLen; omega) (by omega) ?_
    intro v' w' hown hgrow
    rw [Nat.zero_add, List.nil_append] at hown
    obtain ⟨g', cap', rfl⟩ := owns_form hown (by omega)
    exact hK g' cap' w' (.inr ⟨g', _, rfl, (owns_lt hown).2, ownsRow_base hown (Nat.le_trans hlo (owns_lt hown).1), tcells_at [(u, v)]⟩) hgrow.size hgrow.os hgrow.tape hgrow.output (fun k hk _ => hgrow.block k hk (by simp))
  · rw [eff_pos hq] at hK
    obtain ⟨g, xs, rfl, hgh, ho, hp⟩ : ∃ g xs, to = some ⟨g, 0, none⟩ ∧ g < hi ∧ W.ownsRow lo 34 2 (.slice (some ⟨g, 0, none⟩) ts.length tc) ts.length xs ∧ ∀ j, j < ts.length → xs[j * 2]? = some (.int .i64 (ts[j]?.getD (0, 0)).1) ∧ xs[j * 2 + 1]? = some (.int .i64 (ts[j]?.getD (0, 0)).2) := by
      rcases hF with rfl | h
      · simp at hq
      · exact h
    refine wpList_append_own W hg s x 23 hop lo 34 i0 (.agg #[.int .i64 0, .int .i64 0]) 2 16 Try.underlying23 hin hz0 hz1 hz2 rfl (by decide) _ ts.length _ hs ho ⟨b, 0, none⟩ 1 c (tcells [(u, v)]) hx rfl hcz (tcells_one _) (by unfold maxLen; omega) (by omega) hlo ?_
    intro v' w' hown hgrow _
    obtain ⟨g', cap', rfl⟩ := owns_form hown (by omega)
    have hxl := ho.1
    refine hK g' cap' w' (.inr ⟨g', xs ++ tcells [(u, v)], rfl, (owns_lt hown).2, by simpa using hown, fun j hj => ?_⟩) hgrow.size hgrow.os hgrow.tape hgrow.output (fun k hk hne => hgrow.block k hk (fun e => ?_))
    · simp at hj
      by_cases e : j < ts.length
      · have e1 : (xs ++ tcells [(u, v)])[j * 2]? = xs[j * 2]? := List.getElem?_append_left (by omega)
        have e2 : (xs ++ tcells [(u, v)])[j * 2 + 1]? = xs[j * 2 + 1]? := List.getElem?_append_left (by omega)
        have e3 : (ts ++ [(u, v)])[j]? = ts[j]? := List.getElem?_append_left e
        rw [e1, e2, e3]
        exact hp j e
      · obtain rfl : j = ts.length := by omega
        have e1 : (xs ++ tcells [(u, v)])[ts.length * 2]? = (tcells [(u, v)])[0]? := by rw [List.getElem?_append_right (by omega), hxl]; simp
        have e2 : (xs ++ tcells [(u, v)])[ts.length * 2 + 1]? = (tcells [(u, v)])[1]? := by rw [List.getElem?_append_right (by omega), hxl]; simp
        rw [e1, e2]
        simp [tcells]
    · simp [Value.ownBlock] at e
      exact hne g rfl e
theorem push_lowT {lo hi : Nat} {W w' : World} {to : Option Addr} {tc : Nat} {ts : List (Int × Int)} (hF : FreshT lo hi W to tc ts) (hk : ∀ k, k < W.heap.size → (∀ g, eff to ts.length = some ⟨g, 0, none⟩ → k ≠ g) → w'.heap[k]? = W.heap[k]?) (k : Nat) (h1 : k < lo) (h2 : k < W.heap.size) : w'.heap[k]? = W.heap[k]? := by
  refine hk k h2 fun g e => ?_
  rcases hF with rfl | ⟨g2, xs, e2, _, ho, _⟩
  · simp [eff] at e
  · unfold eff at e
    split at e
    · cases e
    · rw [e2] at e; simp at e; subst e
      have := (owns_lt ho).1
      omega
theorem push_I {lo hi hi' : Nat} {W w' : World} {to qo : Option Addr} {tc qc : Nat} {ts : List (Int × Int)} {q : List Int} (hI : FreshI lo hi W qo qc q) (hT : FreshT lo hi' W to tc ts) (hk : ∀ k, k < W.heap.size → (∀ g, eff to ts.length = some ⟨g, 0, none⟩ → k ≠ g) → w'.heap[k]? = W.heap[k]?) : FreshI lo hi w' qo qc q := by
  rcases hI with h | ⟨g, e, hg, ho⟩
  · exact .inl h
  · refine .inr ⟨g, e, hg, owns_block ho (hk g (owns_lt ho).2 fun g' e' => ?_)⟩
    rcases hT with rfl | ⟨g2, xs, e2, _, ho2, _⟩
    · simp [eff] at e'
    · unfold eff at e'
      split at e'
      · cases e'
      · rw [e2] at e'; simp at e'; subst e'
        exact fun x => owns_ne ho2 ho x.symm
theorem push_noneT {lo hi : Nat} {W : World} {to : Option Addr} {tc : Nat} {ts : List (Int × Int)} (hF : FreshT lo hi W to tc ts) (h0 : ts = [] → tc = 0) (h : to = none) : ts.length = 0 ∧ tc = 0 := by
  rcases hF with rfl | ⟨g, xs, e, _⟩
  · exact ⟨rfl, h0 rfl⟩
  · rw [e] at h; cases h

/-- What SpawnTask answers. -/
def spawnR (ts : List (Int × Int)) (q : List Int) : List (Int × Int) × List Int × Int × Int :=
  if specGoodB ts q = true then (if ts.length = 30 then (ts, q, 0, 5) else (ts ++ [(1, 0)], q ++ [(ts.length : Int)], (ts.length : Int), 0)) else ([], [], 0, 1)
theorem spawnR_len (ts : List (Int × Int)) (q : List Int) (h1 : ts.length ≤ 1048576) (h2 : q.length ≤ 1048576) : (spawnR ts q).1.length ≤ 1048576 ∧ (spawnR ts q).2.1.length ≤ 1048576 := by
  unfold spawnR
  split
  · rename_i hg
    have hq := good_queue ts q hg
    have ht := good_len ts q hg
    split
    · exact ⟨h1, h2⟩
    · exact ⟨by simp; omega, by simp; omega⟩
  · simp
/-- A board of its own memory, an id and a code. -/
def Ans3 (w : World) (r : List (Int × Int) × List Int × Int × Int) (e : Ending) (w' : World) : Prop :=
  (∃ to tc go qc, e = .returned (.tuple #[.agg #[.slice to r.1.length tc, .slice go r.2.1.length qc], .int .i64 r.2.2.1, .int .i64 r.2.2.2]) ∧ FreshT w.heap.size w'.heap.size w' to tc r.1 ∧ FreshI w.heap.size w'.heap.size w' go qc r.2.1) ∧ Below w.heap.size w w'
theorem ans3_of {w W : World} {ts' : List (Int × Int)} {q' : List Int} {i c : Int} {to go : Option Addr} {tc qc : Nat} (hB : Below w.heap.size w W) (hT : FreshT (w.heap.size + 1 + 1) W.heap.size W to tc ts') (hI : FreshI (w.heap.size + 1 + 1) W.heap.size W go qc q') (u0 u1 : Value) :
    Ans3 w (ts', q', i, c) (.returned (.tuple #[.agg #[.slice to ts'.length tc, .slice go q'.length qc], .int .i64 i, .int .i64 c])) ((W.setCell ⟨w.heap.size + 1, 0, none⟩ u0).setCell ⟨w.heap.size + 1, 1, none⟩ u1) :=
  ⟨⟨to, tc, go, qc, rfl, ((hT.setBelow (a := ⟨w.heap.size + 1, 0, none⟩) (by simp) _).setBelow (a := ⟨w.heap.size + 1, 1, none⟩) (by simp) _).wide (by omega) (by simp), ((hI.setBelow (a := ⟨w.heap.size + 1, 0, none⟩) (by simp) _).setBelow (a := ⟨w.heap.size + 1, 1, none⟩) (by simp) _).wide (by omega) (by simp)⟩,
    (hB.setCell (p := ⟨w.heap.size + 1, 0, none⟩) (by simp) _).setCell (p := ⟨w.heap.size + 1, 1, none⟩) (by simp) _⟩
theorem set_last (ts : List (Int × Int)) (a b : Int × Int) : (ts ++ [a]).set ts.length b = ts ++ [b] := by simp
theorem withReady_app (ao : Option Addr) (cap : Nat) (ts : List (Int × Int)) (qo : Option Addr) (qcap : Nat) (q : List Int) (w : World) (hl : ts.length ≤ 1048575) (hlq : q.length ≤ 1048576) (hz : TasksIn w.heap.size w ao (ts ++ [(0, 0)])) (hq : IntsIn w.heap.size w qo q) :
    Calls Try.prog 46 #[.agg #[.slice ao (ts.length + 1) cap, .slice qo q.length qcap], .int .i64 (ts.length : Int)] w fun e w' => (∃ to go, e = .returned (.agg #[.slice to (ts.length + 1) (ts.length + 1), .slice go (q.length + 1) (q.length + 1)]) ∧ FreshT w.heap.size w'.heap.size w' to (ts.length + 1) (ts ++ [(1, 0)]) ∧ FreshI w.heap.size w'.heap.size w' go (q.length + 1) (q ++ [(ts.length : Int)])) ∧ Below w.heap.size w w' := by
  have h := withReady_any ao cap (ts ++ [(0, 0)]) qo qcap q ts.length w (by simp; omega) hlq (by simp) hz hq
  rw [set_last] at h
  simp only [List.length_append, List.length_singleton] at h
  exact h

end Go.Proofs.Ytgbnbnjfaffaiaa.Old
