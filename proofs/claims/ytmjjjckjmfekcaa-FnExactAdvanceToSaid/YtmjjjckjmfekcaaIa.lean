/- A queue of timers with one more; who may arm. No conditions but those written. -/
import Derived.Test.YtmjjjckjmfekcaaDh
namespace Go.Proofs.Ytmjjjckjmfekcaa
open Go.RowKit

theorem run_copy_part {P : Program} (w : World) (dT sT ty elem : TypeId) (g dLen dCap : Nat) (a : Addr) (sLen sCap : Nat) (cur : Array Value) (t : TypeId) (cs : List Value) (sz n : Nat)
    (hu : P.underlying dT = some (.slice elem)) (hs : (P.info? elem).map (·.size) = some sz) (hg : w.heap[g]? = some (.cells cur t (0, 0))) (hnm : Nat.min sLen dLen = n) (hn : cs.length = n * sz)
    (hsrc : ∀ j v, cs[j]? = some v → w.cell? (a.add j) = some v) (hfit : cs.length ≤ cur.size) (h1 : ∀ v ∈ cs, v.oneCell' = true) :
    (Builtin.copy_ #[dT, sT] ty #[.slice (some ⟨g, 0, none⟩) dLen dCap, .slice (some a) sLen sCap]).run P w = .ok (goInt n) (w.setRow g (cs ++ cur.toList.drop cs.length).toArray) := by
  have hl := run_loadCells_list (P := P) w a cs hsrc
  have hst := run_storeCells_at P g 0 t cs 0 cur w hg (by omega) h1
  cases hq : P.info? elem with
  | none => simp [hq] at hs
  | some i =>
    have hi : i.size = sz := by simpa [hq] using hs
    simp only [Nat.zero_add, List.take_zero, List.nil_append] at hst
    simp [Builtin.copy_, run_underlying hu, Builtin.lenOf, Builtin.firstCells, sizeOf, typeInfo, hq, hi, hnm, ← hn, hl, hst]
theorem run_copy_zero {P : Program} (w : World) (dT sT ty elem : TypeId) (sz : Nat) (d a : Option Addr) (dLen dCap sLen sCap : Nat) (hu : P.underlying dT = some (.slice elem)) (hs : (P.info? elem).map (·.size) = some sz) (hn : Nat.min sLen dLen = 0) :
    (Builtin.copy_ #[dT, sT] ty #[.slice d dLen dCap, .slice a sLen sCap]).run P w = .ok (goInt 0) w := by
  cases hq : P.info? elem with
  | none => simp [hq] at hs
  | some i =>
    have hl : ∀ (x : Addr), (loadCells x 0).run P w = .ok #[] w := fun x => by simpa using run_loadCells_list (P := P) w x [] (by simp)
    cases d <;> cases a <;> simp [Builtin.copy_, run_underlying hu, Builtin.lenOf, Builtin.firstCells, sizeOf, typeInfo, hq, hn, storeCells, hl]
theorem with_end {w1 : World} {g lo : Nat} {cur xs : List Value} {ts : List T3} {t : T3} (hcur : w1.heap[g]? = some (.cells cur.toArray 51 (0, 0))) (hb : lo ≤ g) (hl : ts.length ≤ 2097152) (hx : xs.length = ts.length * 3 + 3) (hp : xs.take (ts.length * 3) = tcells ts) (hc : cur = ((xs.set (ts.length * 3) (.int .i64 t.1)).set (ts.length * 3 + 1) (.int .i64 t.2.1)).set (ts.length * 3 + 2) (.int .i64 t.2.2)) :
    FreshC lo (g + 1) w1 (some ⟨g, 0, none⟩) (ts.length + 1) (ts ++ [t]) := by
  have e : cur = tcells (ts ++ [t]) := by
    rw [hc, tcells_app, ← hp]
    apply List.ext_getElem?
    intro j
    simp only [List.getElem?_set, List.length_set]
    have hlt : (xs.take (ts.length * 3)).length = ts.length * 3 := by simp; omega
    by_cases h2 : j < ts.length * 3
    · rw [if_neg (by omega), if_neg (by omega), if_neg (by omega), List.getElem?_append_left (by omega), List.getElem?_take, if_pos h2]
    · rw [List.getElem?_append_right (by omega), hlt]
      rcases (show j = ts.length * 3 ∨ j = ts.length * 3 + 1 ∨ j = ts.length * 3 + 2 ∨ ts.length * 3 + 2 < j from by omega) with e | e | e | e
      · subst e; rw [if_neg (by omega), if_neg (by omega), if_pos rfl, if_pos (by omega)]; simp [tcells]
      · subst e; rw [if_neg (by omega), if_pos rfl, if_pos (by omega)]; simp [tcells]
      · subst e; rw [if_pos rfl, if_pos (by omega)]; simp [tcells]
      · rw [if_neg (by omega), if_neg (by omega), if_neg (by omega), List.getElem?_eq_none (by omega), List.getElem?_eq_none (by simp [tcells]; omega)]
  subst e
  refine .inr ⟨g, tcells (ts ++ [t]), rfl, by omega, ⟨tcells_len _, .inr ⟨g, ts.length + 1, (tcells (ts ++ [t])).toArray, by simp, hb, hcur, by simp, by unfold maxLen; omega, by simp [tcells_len], by simp [List.take_of_length_le, tcells_len]⟩⟩, tcells_at _⟩
theorem with_copy {w w1 : World} {g n cap m : Nat} {ao : Option Addr} {cur : List Value} {ts : List T3} (hcur : w1.heap[g]? = some (.cells cur.toArray 51 (0, 0))) (hcl : cur.length = ts.length * 3 + 3) (hB : Below m w w1) (hz : TimersIn m w ao ts) :
    ∃ (W3 : World) (xs : List Value), (Builtin.copy_ #[27, 27] 3 #[.slice (some ⟨g, 0, none⟩) (ts.length + 1) n, .slice ao ts.length cap]).run Try.prog w1 = .ok (goInt ts.length) W3 ∧ W3.heap[g]? = some (.cells xs.toArray 51 (0, 0)) ∧ xs.length = ts.length * 3 + 3 ∧ xs.take (ts.length * 3) = tcells ts ∧ OnlyAt (some ⟨g, 0, none⟩) w1 W3 := by
  rcases hz with rfl | ⟨b, off, rfl, hb, hc⟩
  · exact ⟨w1, cur, run_copy_zero (P := Try.prog) w1 27 27 3 51 3 _ _ _ _ _ _ Try.underlying27 Try.size51 (by simp), hcur, hcl, by simp [tcells], OnlyAt.refl _ _⟩
  · refine ⟨_, _, run_copy_part (P := Try.prog) w1 27 27 3 51 g (ts.length + 1) n ⟨b, off, none⟩ ts.length cap cur.toArray 51 (tcells ts) 3 ts.length Try.underlying27 Try.size51 hcur (by simp) (tcells_len ts) (tcells_src hB hb hc) (by simp [tcells_len, hcl]) (tcells_one ts), setRow_heap w1 g _ _ 51 _ hcur, by simp [tcells_len, hcl] <;> omega, by rw [List.take_append_of_le_length (by rw [tcells_len]; exact Nat.le_refl _), List.take_of_length_le (by rw [tcells_len]; exact Nat.le_refl _)], ?_⟩
    exact ⟨rfl, rfl, rfl, by simp [World.setRow], fun k hk => setRow_other w1 g k _ (hk g rfl)⟩
theorem OnlyAt.cell {g : Nat} {w w' : World} (h : OnlyAt (some ⟨g, 0, none⟩) w w') (b o : Nat) (hne : b ≠ g) : w'.cell? ⟨b, o, none⟩ = w.cell? ⟨b, o, none⟩ := World.cell?_of_block (a := ⟨b, o, none⟩) (h.block b fun g' e => by cases e; exact hne)
theorem OnlyAt.frozen {g : Nat} {w w' : World} (h : OnlyAt (some ⟨g, 0, none⟩) w w') (b o : Nat) (hne : b ≠ g) : w'.frozen? ⟨b, o, none⟩ = w.frozen? ⟨b, o, none⟩ := World.frozen?_of_block (a := ⟨b, o, none⟩) (h.block b fun g' e => by cases e; exact hne)

set_option maxHeartbeats 2000000 in
theorem with_any (ao : Option Addr) (cap : Nat) (ts : List T3) (t1 t2 t3' : Int) (w : World) (hl : ts.length ≤ 1048576) (hz : TimersIn w.heap.size w ao ts) :
    Calls Try.prog 54 #[.agg #[.slice ao ts.length cap], .agg #[.int .i64 t1, .int .i64 t2, .int .i64 t3']] w fun e w' => (∃ go, e = .returned (.agg #[.slice go (ts.length + 1) (ts.length + 1)]) ∧ FreshC w.heap.size w'.heap.size w' go (ts.length + 1) (ts ++ [(t1, t2, t3')])) ∧ Below w.heap.size w w' := by
  obtain ⟨W2, hW2⟩ : ∃ W2, W2 = ((w.alloc (.cells #[.slice ao ts.length cap] 67)).alloc (.cells #[.int .i64 t1, .int .i64 t2, .int .i64 t3'] 51)).alloc (.cells #[.slice none 0 0] 67) := ⟨_, rfl⟩
  have hB2 : Below w.heap.size w W2 := by rw [hW2]; exact below3 _ _ _ _
  have hs2 : W2.heap.size = w.heap.size + 1 + 1 + 1 := by rw [hW2]; simp
  have b0 : W2.cell? ⟨w.heap.size, 0, none⟩ = some (.slice ao ts.length cap) := by rw [hW2]; simp [go_sem]
  have c0 : W2.cell? ⟨w.heap.size + 1, 0, none⟩ = some (.int .i64 t1) := by rw [hW2]; simp [go_sem]
  have c1 : W2.cell? ⟨w.heap.size + 1, 1, none⟩ = some (.int .i64 t2) := by rw [hW2]; simp [go_sem]
  have c2 : W2.cell? ⟨w.heap.size + 1, 2, none⟩ = some (.int .i64 t3') := by rw [hW2]; simp [go_sem]
  have r0 : W2.cell? ⟨w.heap.size + 1 + 1, 0, none⟩ = some (.slice none 0 0) := by rw [hW2]; simp [go_sem]
  have f0 : W2.frozen? ⟨w.heap.size + 1 + 1, 0, none⟩ = false := by rw [hW2]; simp [go_sem]
  have HW : Hid (W2 = ((w.alloc (.cells #[.slice ao ts.length cap] 67)).alloc (.cells #[.int .i64 t1, .int .i64 t2, .int .i64 t3'] 51)).alloc (.cells #[.slice none 0 0] 67)) := hW2
  clear hW2
  obtain ⟨i0, hi, hz0, hz1, hz2⟩ := info_parts Try.info51
  have hn1 : ts.length < ts.length + 1 := by omega
  go_enter Try.func54, Try.ntmps54
  go_wp2_with (at_make; refine wpList_make_full _ rfl _ _ 27 rfl (w.heap.size + 1 + 1 + 1) 51 i0 (.agg #[.int .i64 0, .int .i64 0, .int .i64 0]) 3 Try.underlying27 hi hz0 hz1 .i64 .i64 _ _ (ts.length + 1) rfl rfl (by simp) (by simp) (by rw [hz2]; omega) (by unfold maxLen; omega) (by simp) ?_; intro w1 hown hgrow; rw [← HW.out] at hown hgrow; rw [hs2] at hown; obtain ⟨cur, hcur, hcl, _⟩ := owns_open hown; have hB1 : Below W2.heap.size W2 w1 := (Below.refl _ _).grown hgrow (Nat.le_refl _) (fun k e => by cases e); have hB : Below w.heap.size w w1 := hB2.trans (hB1.mono hB2.size); obtain ⟨W3, xs, hrun, hg3, hx3, hp3, ho3⟩ := with_copy (n := ts.length + 1) (cap := cap) hcur (by omega) hB hz; have q0 : w1.cell? ⟨w.heap.size, 0, none⟩ = some (.slice ao ts.length cap) := (hB1.cell (p := ⟨w.heap.size, 0, none⟩) (by simp [hs2] <;> omega)).trans b0; have q1 : W3.cell? ⟨w.heap.size, 0, none⟩ = some (.slice ao ts.length cap) := (ho3.cell _ _ (by omega)).trans q0; have q6 : W3.cell? ⟨w.heap.size + 1, 0, none⟩ = some (.int .i64 t1) := (ho3.cell _ _ (by omega)).trans ((hB1.cell (p := ⟨w.heap.size + 1, 0, none⟩) (by simp [hs2] <;> omega)).trans c0); have q7 : W3.cell? ⟨w.heap.size + 1, 1, none⟩ = some (.int .i64 t2) := (ho3.cell _ _ (by omega)).trans ((hB1.cell (p := ⟨w.heap.size + 1, 1, none⟩) (by simp [hs2] <;> omega)).trans c1); have q8 : W3.cell? ⟨w.heap.size + 1, 2, none⟩ = some (.int .i64 t3') := (ho3.cell _ _ (by omega)).trans ((hB1.cell (p := ⟨w.heap.size + 1, 2, none⟩) (by simp [hs2] <;> omega)).trans c2); have q2 : W3.cell? ⟨w.heap.size + 1 + 1, 0, none⟩ = some (.slice none 0 0) := (ho3.cell _ _ (by omega)).trans ((hB1.cell (p := ⟨w.heap.size + 1 + 1, 0, none⟩) (by simp [hs2])).trans r0); have q3 : W3.frozen? ⟨w.heap.size + 1 + 1, 0, none⟩ = false := (ho3.frozen _ _ (by omega)).trans ((hB1.frozen (p := ⟨w.heap.size + 1 + 1, 0, none⟩) (by simp [hs2])).trans f0); have hxa : ts.length * 3 < xs.length := (by omega); have hxb : ts.length * 3 + 1 < xs.length := (by omega); have hxc : ts.length * 3 + 2 < xs.length := (by omega); have q4 : W3.cell? ⟨w.heap.size + 1 + 1 + 1, ts.length * 3, none⟩ = some xs[ts.length * 3] := (by simp [World.cell?, hg3, hxa]); have q9 : W3.cell? ⟨w.heap.size + 1 + 1 + 1, ts.length * 3 + 1, none⟩ = some xs[ts.length * 3 + 1] := (by simp [World.cell?, hg3, hxb]); have q10 : W3.cell? ⟨w.heap.size + 1 + 1 + 1, ts.length * 3 + 2, none⟩ = some xs[ts.length * 3 + 2] := (by simp [World.cell?, hg3, hxc]); have q5 : W3.frozen? ⟨w.heap.size + 1 + 1 + 1, ts.length * 3, none⟩ = false := (by simp [World.frozen?, hg3]); have q11 : W3.frozen? ⟨w.heap.size + 1 + 1 + 1, ts.length * 3 + 1, none⟩ = false := (by simp [World.frozen?, hg3]); have q12 : W3.frozen? ⟨w.heap.size + 1 + 1 + 1, ts.length * 3 + 2, none⟩ = false := (by simp [World.frozen?, hg3]); have HX := show Hid (W3.heap[w.heap.size + 1 + 1 + 1]? = some (.cells xs.toArray 51 (0, 0)) ∧ xs.length = ts.length * 3 + 3 ∧ xs.take (ts.length * 3) = tcells ts) from ⟨hg3, hx3, hp3⟩; clear hown hgrow hcur hg3 hp3 hx3)
  have hh : (((W3.setCell ⟨w.heap.size + 1 + 1 + 1, ts.length * 3, none⟩ (.int .i64 t1)).setCell ⟨w.heap.size + 1 + 1 + 1, ts.length * 3 + 1, none⟩ (.int .i64 t2)).setCell ⟨w.heap.size + 1 + 1 + 1, ts.length * 3 + 2, none⟩ (.int .i64 t3')).heap[w.heap.size + 1 + 1 + 1]? = some (.cells (((xs.set (ts.length * 3) (.int .i64 t1)).set (ts.length * 3 + 1) (.int .i64 t2)).set (ts.length * 3 + 2) (.int .i64 t3')).toArray 51 (0, 0)) := by
    have h1 := heap_setCell_same W3 (w.heap.size + 1 + 1 + 1) (ts.length * 3) xs.toArray 51 (.int .i64 t1) HX.out.1
    have h2 := heap_setCell_same _ (w.heap.size + 1 + 1 + 1) (ts.length * 3 + 1) _ 51 (.int .i64 t2) h1
    have h3 := heap_setCell_same _ (w.heap.size + 1 + 1 + 1) (ts.length * 3 + 2) _ 51 (.int .i64 t3') h2
    simpa using h3
  have hlt : w.heap.size + 1 + 1 + 1 < W3.heap.size := (Array.getElem?_eq_some_iff.1 HX.out.1).1
  refine bodyPost_ret (v := .agg #[.slice (some ⟨w.heap.size + 1 + 1 + 1, 0, none⟩) (ts.length + 1) (ts.length + 1)]) (by simp [results, Try.results54, go_sem, q2]) rfl ⟨⟨_, rfl, ?_⟩, ?_⟩
  · exact ((with_end (t := (t1, t2, t3')) hh (Nat.le_refl _) (by omega) HX.out.2.1 HX.out.2.2 rfl).setBelow (a := ⟨w.heap.size + 1 + 1, 0, none⟩) (by simp) _).wide (by omega) (by simp; omega)
  · have hB3 : Below w.heap.size w W3 := hB.trans ⟨ho3.os, ho3.tape, ho3.output, by rw [ho3.size]; exact Nat.le_refl _, fun k hk => ho3.block k fun g e => by cases e; omega⟩
    exact (((hB3.setCell (p := ⟨w.heap.size + 1 + 1 + 1, ts.length * 3, none⟩) (by simp; omega) _).setCell (p := ⟨w.heap.size + 1 + 1 + 1, ts.length * 3 + 1, none⟩) (by simp; omega) _).setCell (p := ⟨w.heap.size + 1 + 1 + 1, ts.length * 3 + 2, none⟩) (by simp; omega) _).setCell (p := ⟨w.heap.size + 1 + 1, 0, none⟩) (by simp; omega) _

/-- Who may arm. -/
def mayB (now sq : Int) (ts : List T3) : Bool := goodB now sq ts && decide (sq < 1000000)
set_option maxHeartbeats 1000000 in
theorem mayArm_any (now sq : Int) (ao : Option Addr) (cap : Nat) (ts : List T3) (w : World) (hl : ts.length ≤ 1048576) (hcap : ts.length ≤ cap) (hz : TimersIn w.heap.size w ao ts) :
    Calls Try.prog 40 #[.agg #[.int .i64 now, .int .i64 sq, .slice ao ts.length cap]] w fun e w' => e = .returned (.bool (mayB now sq ts)) ∧ Below w.heap.size w w' := by
  cases hg : goodB now sq ts
  · have HG : Hid (goodB now sq ts = false) := hg
    have HV : Hid (mayB now sq ts = false) := by simp [Hid, mayB, hg]
    clear hg
    go_enter Try.func40, Try.ntmps40
    go_wp2_with fail
    refine (implGood_any now sq ao cap ts _ hl hcap (hz.later (below1 _ _))).mono ?_
    rintro e w1 ⟨rfl, hb1⟩
    rw [HG.out]
    have hB1 := (below1 w (.cells #[.int .i64 now, .int .i64 sq, .slice ao ts.length cap] 29)).trans (hb1.mono (by simp))
    clear hb1
    go_wp2
    go_ret
    exact ⟨ret_bool HV.out.symm, hB1⟩
  · have HG : Hid (goodB now sq ts = true) := hg
    have HV : Hid (mayB now sq ts = decide (sq < 1000000)) := by simp [Hid, mayB, hg]
    clear hg
    go_enter Try.func40, Try.ntmps40
    go_wp2_with fail
    refine (implGood_any now sq ao cap ts _ hl hcap (hz.later (below1 _ _))).mono ?_
    rintro e w1 ⟨rfl, hb1⟩
    rw [HG.out]
    have hB1 := (below1 w (.cells #[.int .i64 now, .int .i64 sq, .slice ao ts.length cap] 29)).trans (hb1.mono (by simp))
    obtain ⟨x1, x10, x11, x12⟩ := (Box3.new w (.int .i64 now) (.int .i64 sq) (.slice ao ts.length cap) 29).later hb1
    clear hb1
    go_wp2
    go_ret
    exact ⟨ret_bool HV.out.symm, hB1⟩
end Go.Proofs.Ytmjjjckjmfekcaa
