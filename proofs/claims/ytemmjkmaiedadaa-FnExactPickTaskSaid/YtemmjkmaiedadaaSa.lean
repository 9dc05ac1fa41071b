/- Queues of tasks: the program's copies with one more. No conditions but those written. -/
import Derived.Test.YtemmjkmaiedadaaMh
namespace Go.Proofs.Ytemmjkmaiedadaa
open Go.RowKit

theorem run_copy_part {P : Program} (w : World) (dT sT ty elem : TypeId) (g dLen dCap : Nat) (a : Addr) (sLen sCap : Nat) (cur : Array Value) (t : TypeId) (cs : List Value) (sz n : Nat)
    (hu : P.underlying dT = some (.slice elem)) (hs : (P.info? elem).map (·.size) = some sz) (hg : w.heap[g]? = some (.cells cur t (0, 0))) (hnm : Nat.min sLen dLen = n) (hn : cs.length = n * sz)
    (hsrc : ∀ j v, cs[j]? = some v → w.cell? (a.add j) = some v) (hfit : cs.length ≤ cur.size) (h1 : ∀ v ∈ cs, v.oneCell' = true) :
    (Builtin.copy_ #[dT, sT] ty #[.slice (some ⟨g, 0, none⟩) dLen dCap, .slice (some a) sLen sCap]).run P w = .ok (goInt n) (w.setRow g (cs ++ cur.toList.drop cs.length).toArray) := by
  have hl := run_loadCells_list (P := P) w a cs hsrc
  have hst := run_storeCells_at P g 0 t cs 0 cur w hg (by omega) h1
  cases hq : P.info? elem with
  | none => simp [hq] at hs
  | some i =>
    have hi : i.size = sz := by simpa [hq] using hs
    simp only [Nat.zero_add, List.take_zero, List.nil_append] at hst
    simp [Builtin.copy_, run_underlying hu, Builtin.lenOf, Builtin.firstCells, sizeOf, typeInfo, hq, hi, hnm, ← hn, hl, hst]
theorem run_copy_zero {P : Program} (w : World) (dT sT ty elem : TypeId) (d a : Option Addr) (dLen dCap sCap sz : Nat) (hu : P.underlying dT = some (.slice elem)) (hs : (P.info? elem).map (·.size) = some sz) :
    (Builtin.copy_ #[dT, sT] ty #[.slice d dLen dCap, .slice a 0 sCap]).run P w = .ok (goInt 0) w := by
  cases hq : P.info? elem with
  | none => simp [hq] at hs
  | some i =>
    have hl : ∀ (x : Addr), (loadCells x 0).run P w = .ok #[] w := fun x => by simpa using run_loadCells_list (P := P) w x [] (by simp)
    cases d <;> cases a <;> simp [Builtin.copy_, run_underlying hu, Builtin.lenOf, Builtin.firstCells, sizeOf, typeInfo, hq, hl, storeCells]

theorem withT_copy {w w1 : World} {g n cap m : Nat} {ao : Option Addr} {cur : List Value} {ts : List (Int × Int)} (hcur : w1.heap[g]? = some (.cells cur.toArray 47 (0, 0))) (hcl : cur.length = (ts.length + 1) * 2) (hB : Below m w w1) (hz : TasksIn m w ao ts) :
    ∃ (W3 : World) (xs : List Value), (Builtin.copy_ #[28, 28] 3 #[.slice (some ⟨g, 0, none⟩) (ts.length + 1) n, .slice ao ts.length cap]).run Try.prog w1 = .ok (goInt ts.length) W3 ∧ W3.heap[g]? = some (.cells xs.toArray 47 (0, 0)) ∧ xs.length = (ts.length + 1) * 2 ∧ xs.take (ts.length * 2) = tcells ts ∧ OnlyAt (some ⟨g, 0, none⟩) w1 W3 := by
  rcases hz with rfl | ⟨b, off, rfl, hb, hc⟩
  · exact ⟨w1, cur, run_copy_zero w1 28 28 3 47 _ _ _ _ _ 2 Try.underlying28 Try.size47, hcur, hcl, by simp [tcells], OnlyAt.refl _ _⟩
  · refine ⟨_, _, run_copy_part w1 28 28 3 47 g (ts.length + 1) n ⟨b, off, none⟩ ts.length cap cur.toArray 47 (tcells ts) 2 ts.length Try.underlying28 Try.size47 hcur (by simp) (tcells_len ts) (tcells_src hB hb hc) (by simp [tcells_len, hcl]; omega) (tcells_one ts), setRow_heap w1 g _ _ 47 _ hcur, by simp [tcells_len, hcl]; omega, ?_, ?_⟩
    · rw [← tcells_len ts]; simp
    · exact ⟨rfl, rfl, rfl, by simp [World.setRow], fun k hk => setRow_other w1 g k _ (hk g rfl)⟩

theorem tcells_append (a b : List (Int × Int)) : tcells (a ++ b) = tcells a ++ tcells b := by
  induction a with
  | nil => rfl
  | cons t r ih => simp [tcells, ih]
theorem withT_end {w1 : World} {g lo : Nat} {xs : List Value} {ts : List (Int × Int)} {s p : Int} (hcur : w1.heap[g]? = some (.cells ((xs.set (ts.length * 2) (.int .i64 s)).set (ts.length * 2 + 1) (.int .i64 p)).toArray 47 (0, 0))) (hb : lo ≤ g) (hl : ts.length ≤ 2097152) (hx : xs.length = (ts.length + 1) * 2) (hp : xs.take (ts.length * 2) = tcells ts) :
    FreshT lo (g + 1) w1 (some ⟨g, 0, none⟩) (ts.length + 1) (ts ++ [(s, p)]) := by
  have e : (xs.set (ts.length * 2) (.int .i64 s)).set (ts.length * 2 + 1) (.int .i64 p) = tcells (ts ++ [(s, p)]) := by
    rw [tcells_append, ← hp]
    have e2 : tcells [(s, p)] = [.int .i64 s, .int .i64 p] := rfl
    rw [e2]
    apply List.ext_getElem?
    intro j
    simp only [List.getElem?_set, List.length_set]
    by_cases h1 : ts.length * 2 + 1 = j
    · subst h1
      rw [if_pos rfl, if_pos (by omega), List.getElem?_append_right (by simp; omega)]
      simp [hx]
    · rw [if_neg h1]
      by_cases h2 : ts.length * 2 = j
      · subst h2
        rw [if_pos rfl, if_pos (by omega), List.getElem?_append_right (by simp; omega)]
        simp [hx]
      · rw [if_neg h2]
        by_cases h3 : j < ts.length * 2
        · rw [List.getElem?_append_left (by simp; omega), List.getElem?_take, if_pos h3]
        · rw [List.getElem?_eq_none (by omega), List.getElem?_eq_none (by simp; omega)]
  rw [e] at hcur
  refine .inr ⟨g, tcells (ts ++ [(s, p)]), rfl, by omega, ⟨tcells_len _, .inr ⟨g, ts.length + 1, _, by simp, hb, hcur, by simp, by unfold maxLen; omega, by simp [tcells_len], by simp [List.take_of_length_le, tcells_len]⟩⟩, tcells_at _⟩

set_option maxHeartbeats 1000000 in
theorem queueOfT_any (ao : Option Addr) (cap : Nat) (ts : List (Int × Int)) (w : World) (hl : ts.length ≤ 1048576) (hz : TasksIn w.heap.size w ao ts) :
    Calls Try.prog 47 #[.slice ao ts.length cap] w fun e w' => (∃ to, e = .returned (.agg #[.slice to ts.length ts.length]) ∧ FreshT w.heap.size w'.heap.size w' to ts.length ts) ∧ Below w.heap.size w w' := by
  go_enter Try.func47, Try.ntmps47
  go_wp2_with fail
  refine (copyListT_any ao cap ts _ hl (hz.later (below1 _ _))).mono ?_
  rintro e w1 ⟨⟨to, rfl, hO⟩, hb1⟩
  have hB1 := (below1 w (.cells #[.slice none 0 0] 57)).trans (hb1.mono (by simp))
  have c1 : w1.cell? ⟨w.heap.size, 0, none⟩ = some (.slice none 0 0) := (hb1.cell (p := ⟨w.heap.size, 0, none⟩) (by simp)).trans (by simp [go_sem])
  have f1 : w1.frozen? ⟨w.heap.size, 0, none⟩ = false := (hb1.frozen (p := ⟨w.heap.size, 0, none⟩) (by simp)).trans (by simp [go_sem])
  have HO : Hid (FreshT (w.heap.size + 1) w1.heap.size w1 to ts.length ts) := by rw [World.size_alloc] at hO; exact hO
  clear hO hb1
  go_wp2
  refine bodyPost_ret (v := .agg #[.slice to ts.length ts.length]) (by simp [results, Try.results47, go_sem, c1]) rfl ⟨⟨to, rfl, ?_⟩, ?_⟩
  · exact (HO.out.setBelow (a := ⟨w.heap.size, 0, none⟩) (by simp) _).wide (by omega) (by simp)
  · exact hB1.setCell (p := ⟨w.heap.size, 0, none⟩) (Nat.le_refl _) _

set_option maxHeartbeats 2000000 in
theorem withT_any (ao : Option Addr) (cap : Nat) (ts : List (Int × Int)) (s p : Int) (w : World) (hl : ts.length ≤ 1048576) (hz : TasksIn w.heap.size w ao ts) :
    Calls Try.prog 48 #[.agg #[.slice ao ts.length cap], .agg #[.int .i64 s, .int .i64 p]] w fun e w' => (∃ to, e = .returned (.agg #[.slice to (ts.length + 1) (ts.length + 1)]) ∧ FreshT w.heap.size w'.heap.size w' to (ts.length + 1) (ts ++ [(s, p)])) ∧ Below w.heap.size w w' := by
  obtain ⟨W2, hW2⟩ : ∃ W2, W2 = ((w.alloc (.cells #[.slice ao ts.length cap] 57)).alloc (.cells #[.int .i64 s, .int .i64 p] 47)).alloc (.cells #[.slice none 0 0] 57) := ⟨_, rfl⟩
  have hB2 : Below w.heap.size w W2 := by rw [hW2]; exact below3 _ _ _ _
  have hs2 : W2.heap.size = w.heap.size + 1 + 1 + 1 := by rw [hW2]; simp
  have b0 : W2.cell? ⟨w.heap.size, 0, none⟩ = some (.slice ao ts.length cap) := by rw [hW2]; simp [go_sem]
  have t0 : W2.cell? ⟨w.heap.size + 1, 0, none⟩ = some (.int .i64 s) := by rw [hW2]; simp [go_sem]
  have t1 : W2.cell? ⟨w.heap.size + 1, 1, none⟩ = some (.int .i64 p) := by rw [hW2]; simp [go_sem]
  have r0 : W2.cell? ⟨w.heap.size + 1 + 1, 0, none⟩ = some (.slice none 0 0) := by rw [hW2]; simp [go_sem]
  have f0 : W2.frozen? ⟨w.heap.size + 1 + 1, 0, none⟩ = false := by rw [hW2]; simp [go_sem]
  have HW : Hid (W2 = ((w.alloc (.cells #[.slice ao ts.length cap] 57)).alloc (.cells #[.int .i64 s, .int .i64 p] 47)).alloc (.cells #[.slice none 0 0] 57)) := hW2
  clear hW2
  obtain ⟨i0, hi, hz0, hz1, hz2⟩ := info_parts Try.info47
  go_enter Try.func48, Try.ntmps48
  go_wp2_with (at_make; refine wpList_make_full _ rfl _ _ 28 rfl (w.heap.size + 1 + 1 + 1) 47 i0 (.agg #[.int .i64 0, .int .i64 0]) 2 Try.underlying28 hi hz0 hz1 .i64 .i64 _ _ (ts.length + 1) rfl rfl (by simp) (by simp) (by rw [hz2]; omega) (by unfold maxLen; omega) (by simp) ?_; intro w1 hown hgrow; rw [← HW.out] at hown hgrow; rw [hs2] at hown; obtain ⟨cur, hcur, hcl, _⟩ := owns_open hown; have hB1 : Below W2.heap.size W2 w1 := (Below.refl _ _).grown hgrow (Nat.le_refl _) (fun k e => by cases e); have hB : Below w.heap.size w w1 := hB2.trans (hB1.mono hB2.size); obtain ⟨W3, xs, hrun, hg3, hx3, hp3, ho3⟩ := withT_copy (n := ts.length + 1) (cap := cap) hcur hcl hB hz; have q0 : w1.cell? ⟨w.heap.size, 0, none⟩ = some (.slice ao ts.length cap) := (hB1.cell (p := ⟨w.heap.size, 0, none⟩) (by simp [hs2] <;> omega)).trans b0; have q1 : W3.cell? ⟨w.heap.size, 0, none⟩ = some (.slice ao ts.length cap) := (ho3.cell _ _ (by omega)).trans q0; have y0 : W3.cell? ⟨w.heap.size + 1, 0, none⟩ = some (.int .i64 s) := (ho3.cell _ _ (by omega)).trans ((hB1.cell (p := ⟨w.heap.size + 1, 0, none⟩) (by simp [hs2] <;> omega)).trans t0); have y1 : W3.cell? ⟨w.heap.size + 1, 1, none⟩ = some (.int .i64 p) := (ho3.cell _ _ (by omega)).trans ((hB1.cell (p := ⟨w.heap.size + 1, 1, none⟩) (by simp [hs2] <;> omega)).trans t1); have q2 : W3.cell? ⟨w.heap.size + 1 + 1, 0, none⟩ = some (.slice none 0 0) := (ho3.cell _ _ (by omega)).trans ((hB1.cell (p := ⟨w.heap.size + 1 + 1, 0, none⟩) (by simp [hs2])).trans r0); have q3 : W3.frozen? ⟨w.heap.size + 1 + 1, 0, none⟩ = false := (ho3.frozen _ _ (by omega)).trans ((hB1.frozen (p := ⟨w.heap.size + 1 + 1, 0, none⟩) (by simp [hs2])).trans f0); have q4 : W3.cell? ⟨w.heap.size + 1 + 1 + 1, ts.length * 2, none⟩ = some (xs[ts.length * 2]'(by omega)) := (by simp [World.cell?, hg3] <;> omega); have q5 : W3.frozen? ⟨w.heap.size + 1 + 1 + 1, ts.length * 2, none⟩ = false := (by simp [World.frozen?, hg3]); have q6 : W3.cell? ⟨w.heap.size + 1 + 1 + 1, ts.length * 2 + 1, none⟩ = some (xs[ts.length * 2 + 1]'(by omega)) := (by simp [World.cell?, hg3] <;> omega); have q7 : W3.frozen? ⟨w.heap.size + 1 + 1 + 1, ts.length * 2 + 1, none⟩ = false := (by simp [World.frozen?, hg3]); have HX := show Hid (W3.heap[w.heap.size + 1 + 1 + 1]? = some (.cells xs.toArray 47 (0, 0)) ∧ xs.length = (ts.length + 1) * 2 ∧ xs.take (ts.length * 2) = tcells ts) from ⟨hg3, hx3, hp3⟩; clear hown hgrow hcur hg3 hp3)
  have hh : ((W3.setCell ⟨w.heap.size + 1 + 1 + 1, ts.length * 2, none⟩ (.int .i64 s)).setCell ⟨w.heap.size + 1 + 1 + 1, ts.length * 2 + 1, none⟩ (.int .i64 p)).heap[w.heap.size + 1 + 1 + 1]? = some (.cells ((xs.set (ts.length * 2) (.int .i64 s)).set (ts.length * 2 + 1) (.int .i64 p)).toArray 47 (0, 0)) := by
    have h1 := heap_setCell_same W3 (w.heap.size + 1 + 1 + 1) (ts.length * 2) xs.toArray 47 (.int .i64 s) HX.out.1
    have h2 := heap_setCell_same _ (w.heap.size + 1 + 1 + 1) (ts.length * 2 + 1) _ 47 (.int .i64 p) h1
    simpa using h2
  have hlt : w.heap.size + 1 + 1 + 1 < W3.heap.size := (Array.getElem?_eq_some_iff.1 HX.out.1).1
  refine bodyPost_ret (v := .agg #[.slice (some ⟨w.heap.size + 1 + 1 + 1, 0, none⟩) (ts.length + 1) (ts.length + 1)]) (by simp [results, Try.results48, go_sem, q2]) rfl ⟨⟨_, rfl, ?_⟩, ?_⟩
  · exact ((withT_end hh (Nat.le_refl _) (by omega) HX.out.2.1 HX.out.2.2).setBelow (a := ⟨w.heap.size + 1 + 1, 0, none⟩) (by simp) _).wide (by omega) (by simp; omega)
  · have hB3 : Below w.heap.size w W3 := hB.trans ⟨ho3.os, ho3.tape, ho3.output, by rw [ho3.size]; exact Nat.le_refl _, fun k hk => ho3.block k fun g e => by cases e; omega⟩
    exact ((hB3.setCell (p := ⟨w.heap.size + 1 + 1 + 1, ts.length * 2, none⟩) (by simp; omega) _).setCell (p := ⟨w.heap.size + 1 + 1 + 1, ts.length * 2 + 1, none⟩) (by simp; omega) _).setCell (p := ⟨w.heap.size + 1 + 1, 0, none⟩) (by simp; omega) _
end Go.Proofs.Ytemmjkmaiedadaa
