
/- A queue of waiters: made, with one more. No conditions but those written. -/
import Derived.Test.YtdfmmidokfcjfaaOGa
namespace Go.Proofs.Ytdfmmidokfcjfaa.Old
open Go.RowKit

set_option maxHeartbeats 1000000 in
theorem queueOfW_any (ao : Option Addr) (cap : Nat) (ts : List T3) (w : World) (hl : ts.length ≤ 1048576) (hz : TimersIn w.heap.size w ao ts) :
    Calls Try.prog 38 #[.slice ao ts.length cap] w fun e w' => (∃ to, e = .returned (.agg #[.slice to ts.length ts.length]) ∧ FreshC w.heap.size w'.heap.size w' to ts.length ts) ∧ Below w.heap.size w w' := by
  go_enter Try.func38, Try.ntmps38
  go_wp2_with fail
  refine (copyListW_any ao cap ts _ hl (hz.later (below1 _ _))).mono ?_
  rintro e w1 ⟨⟨go, rfl, hO⟩, hb1⟩
  have hB1 := (below1 w (.cells #[.slice none 0 0] 71)).trans (hb1.mono (by simp))
  have c1 : w1.cell? ⟨w.heap.size, 0, none⟩ = some (.slice none 0 0) := (hb1.cell (p := ⟨w.heap.size, 0, none⟩) (by simp)).trans (by simp [go_sem])
  have f1 : w1.frozen? ⟨w.heap.size, 0, none⟩ = false := (hb1.frozen (p := ⟨w.heap.size, 0, none⟩) (by simp)).trans (by simp [go_sem])
  have HO : Hid (FreshC (w.heap.size + 1) w1.heap.size w1 go ts.length ts) := by rw [World.size_alloc] at hO; exact hO
  clear hO hb1
  go_wp2
  refine bodyPost_ret (v := .agg #[.slice go ts.length ts.length]) (by simp [results, Try.results38, go_sem, c1]) rfl ⟨⟨go, rfl, ?_⟩, ?_⟩
  · exact (HO.out.setBelow (by simp) _).wide (by omega) (by simp)
  · exact hB1.setCell (p := ⟨w.heap.size, 0, none⟩) (Nat.le_refl _) _
theorem run_field71 (a : Option Addr) (n c : Nat) (w : World) : (Instr.field 71 (.agg #[.slice a n c]) 0).run Try.prog w = .ok (.slice a n c) w := by
  simp [Instr.field, go_sem, run_underlying Try.underlying71, asAgg]
set_option maxHeartbeats 2000000 in
theorem with_any (ao : Option Addr) (cap : Nat) (ts : List T3) (t1 t2 t3' : Int) (w : World) (hl : ts.length ≤ 1048576) (hz : TimersIn w.heap.size w ao ts) :
    Calls Try.prog 40 #[.agg #[.slice ao ts.length cap], .agg #[.int .i64 t1, .int .i64 t2, .int .i64 t3']] w fun e w' => (∃ go, e = .returned (.agg #[.slice go (ts.length + 1) (ts.length + 1)]) ∧ FreshC w.heap.size w'.heap.size w' go (ts.length + 1) (ts ++ [(t1, t2, t3')])) ∧ Below w.heap.size w w' := by
  obtain ⟨W2, hW2⟩ : ∃ W2, W2 = ((w.alloc (.cells #[.slice ao ts.length cap] 71)).alloc (.cells #[.int .i64 t1, .int .i64 t2, .int .i64 t3'] 28)).alloc (.cells #[.slice none 0 0] 71) := ⟨_, rfl⟩
  have hB2 : Below w.heap.size w W2 := by rw [hW2]; exact below3 _ _ _ _
  have hs2 : W2.heap.size = w.heap.size + 1 + 1 + 1 := by rw [hW2]; simp
  have b0 : W2.cell? ⟨w.heap.size, 0, none⟩ = some (.slice ao ts.length cap) := by rw [hW2]; simp [go_sem]
  have c0 : W2.cell? ⟨w.heap.size + 1, 0, none⟩ = some (.int .i64 t1) := by rw [hW2]; simp [go_sem]
  have c1 : W2.cell? ⟨w.heap.size + 1, 1, none⟩ = some (.int .i64 t2) := by rw [hW2]; simp [go_sem]
  have c2 : W2.cell? ⟨w.heap.size + 1, 2, none⟩ = some (.int .i64 t3') := by rw [hW2]; simp [go_sem]
  have r0 : W2.cell? ⟨w.heap.size + 1 + 1, 0, none⟩ = some (.slice none 0 0) := by rw [hW2]; simp [go_sem]
  have f0 : W2.frozen? ⟨w.heap.size + 1 + 1, 0, none⟩ = false := by rw [hW2]; simp [go_sem]
  have HW : Hid (W2 = ((w.alloc (.cells #[.slice ao ts.length cap] 71)).alloc (.cells #[.int .i64 t1, .int .i64 t2, .int .i64 t3'] 28)).alloc (.cells #[.slice none 0 0] 71)) := hW2
  clear hW2
  obtain ⟨i0, hi, hz0, hz1, hz2⟩ := info_parts Try.info28
  have hn1 : ts.length < ts.length + 1 := by omega
  go_enter Try.func40, Try.ntmps40
  go_wp2_with (at_make; refine wpList_make_full _ rfl _ _ 24 rfl (w.heap.size + 1 + 1 + 1) 28 i0 (.agg #[.int .i64 0, .int .i64 0, .int .i64 0]) 3 Try.underlying24 hi hz0 hz1 .i64 .i64 _ _ (ts.length + 1) rfl rfl (by simp) (by simp) (by rw [hz2]; omega) (by unfold maxLen; omega) (by simp) ?_; intro w1 hown hgrow; rw [← HW.out] at hown hgrow; rw [hs2] at hown; obtain ⟨cur, hcur, hcl, _⟩ := owns_open hown; have hB1 : Below W2.heap.size W2 w1 := (Below.refl _ _).grown hgrow (Nat.le_refl _) (fun k e => by cases e); have hB : Below w.heap.size w w1 := hB2.trans (hB1.mono hB2.size); obtain ⟨W3, xs, hrun, hg3, hx3, hp3, ho3⟩ := with_copy (n := ts.length + 1) (cap := cap) hcur (by omega) hB hz; have q0 : w1.cell? ⟨w.heap.size, 0, none⟩ = some (.slice ao ts.length cap) := (hB1.cell (p := ⟨w.heap.size, 0, none⟩) (by simp [hs2] <;> omega)).trans b0; have q1 : W3.cell? ⟨w.heap.size, 0, none⟩ = some (.slice ao ts.length cap) := (ho3.cell _ _ (by omega)).trans q0; have q6 : W3.cell? ⟨w.heap.size + 1, 0, none⟩ = some (.int .i64 t1) := (ho3.cell _ _ (by omega)).trans ((hB1.cell (p := ⟨w.heap.size + 1, 0, none⟩) (by simp [hs2] <;> omega)).trans c0); have q7 : W3.cell? ⟨w.heap.size + 1, 1, none⟩ = some (.int .i64 t2) := (ho3.cell _ _ (by omega)).trans ((hB1.cell (p := ⟨w.heap.size + 1, 1, none⟩) (by simp [hs2] <;> omega)).trans c1); have q8 : W3.cell? ⟨w.heap.size + 1, 2, none⟩ = some (.int .i64 t3') := (ho3.cell _ _ (by omega)).trans ((hB1.cell (p := ⟨w.heap.size + 1, 2, none⟩) (by simp [hs2] <;> omega)).trans c2); have q2 : W3.cell? ⟨w.heap.size + 1 + 1, 0, none⟩ = some (.slice none 0 0) := (ho3.cell _ _ (by omega)).trans ((hB1.cell (p := ⟨w.heap.size + 1 + 1, 0, none⟩) (by simp [hs2])).trans r0); have q3 : W3.frozen? ⟨w.heap.size + 1 + 1, 0, none⟩ = false := (ho3.frozen _ _ (by omega)).trans ((hB1.frozen (p := ⟨w.heap.size + 1 + 1, 0, none⟩) (by simp [hs2])).trans f0); have hxa : ts.length * 3 < xs.length := (by omega); have hxb : ts.length * 3 + 1 < xs.length := (by omega); have hxc : ts.length * 3 + 2 < xs.length := (by omega); have q4 : W3.cell? ⟨w.heap.size + 1 + 1 + 1, ts.length * 3, none⟩ = some xs[ts.length * 3] := (by simp [World.cell?, hg3, hxa]); have q9 : W3.cell? ⟨w.heap.size + 1 + 1 + 1, ts.length * 3 + 1, none⟩ = some xs[ts.length * 3 + 1] := (by simp [World.cell?, hg3, hxb]); have q10 : W3.cell? ⟨w.heap.size + 1 + 1 + 1, ts.length * 3 + 2, none⟩ = some xs[ts.length * 3 + 2] := (by simp [World.cell?, hg3, hxc]); have q5 : W3.frozen? ⟨w.heap.size + 1 + 1 + 1, ts.length * 3, none⟩ = false := (by simp [World.frozen?, hg3]); have q11 : W3.frozen? ⟨w.heap.size + 1 + 1 + 1, ts.length * 3 + 1, none⟩ = false := (by simp [World.frozen?, hg3]); have q12 : W3.frozen? ⟨w.heap.size + 1 + 1 + 1, ts.length * 3 + 2, none⟩ = false := (by simp [World.frozen?, hg3]); have HX := show Hid (W3.heap[w.heap.size + 1 + 1 + 1]? = some (.cells xs.toArray 28 (0, 0)) ∧ xs.length = ts.length * 3 + 3 ∧ xs.take (ts.length * 3) = tcells ts) from ⟨hg3, hx3, hp3⟩; clear hown hgrow hcur hg3 hp3 hx3)
  have hh : (((W3.setCell ⟨w.heap.size + 1 + 1 + 1, ts.length * 3, none⟩ (.int .i64 t1)).setCell ⟨w.heap.size + 1 + 1 + 1, ts.length * 3 + 1, none⟩ (.int .i64 t2)).setCell ⟨w.heap.size + 1 + 1 + 1, ts.length * 3 + 2, none⟩ (.int .i64 t3')).heap[w.heap.size + 1 + 1 + 1]? = some (.cells (((xs.set (ts.length * 3) (.int .i64 t1)).set (ts.length * 3 + 1) (.int .i64 t2)).set (ts.length * 3 + 2) (.int .i64 t3')).toArray 28 (0, 0)) := by
    have h1 := heap_setCell_same W3 (w.heap.size + 1 + 1 + 1) (ts.length * 3) xs.toArray 28 (.int .i64 t1) HX.out.1
    have h2 := heap_setCell_same _ (w.heap.size + 1 + 1 + 1) (ts.length * 3 + 1) _ 28 (.int .i64 t2) h1
    have h3 := heap_setCell_same _ (w.heap.size + 1 + 1 + 1) (ts.length * 3 + 2) _ 28 (.int .i64 t3') h2
    simpa using h3
  have hlt : w.heap.size + 1 + 1 + 1 < W3.heap.size := (Array.getElem?_eq_some_iff.1 HX.out.1).1
  refine bodyPost_ret (v := .agg #[.slice (some ⟨w.heap.size + 1 + 1 + 1, 0, none⟩) (ts.length + 1) (ts.length + 1)]) (by simp [results, Try.results40, go_sem, q2]) rfl ⟨⟨_, rfl, ?_⟩, ?_⟩
  · exact ((with_end (t := (t1, t2, t3')) hh (Nat.le_refl _) (by omega) HX.out.2.1 HX.out.2.2 rfl).setBelow (a := ⟨w.heap.size + 1 + 1, 0, none⟩) (by simp) _).wide (by omega) (by simp; omega)
  · have hB3 : Below w.heap.size w W3 := hB.trans ⟨ho3.os, ho3.tape, ho3.output, by rw [ho3.size]; exact Nat.le_refl _, fun k hk => ho3.block k fun g e => by cases e; omega⟩
    exact (((hB3.setCell (p := ⟨w.heap.size + 1 + 1 + 1, ts.length * 3, none⟩) (by simp; omega) _).setCell (p := ⟨w.heap.size + 1 + 1 + 1, ts.length * 3 + 1, none⟩) (by simp; omega) _).setCell (p := ⟨w.heap.size + 1 + 1 + 1, ts.length * 3 + 2, none⟩) (by simp; omega) _).setCell (p := ⟨w.heap.size + 1 + 1, 0, none⟩) (by simp; omega) _
end Go.Proofs.Ytdfmmidokfcjfaa.Old
