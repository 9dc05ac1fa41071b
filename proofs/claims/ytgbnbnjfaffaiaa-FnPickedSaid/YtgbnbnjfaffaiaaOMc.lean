
/- The program's changes of a board: one task, the queue's end. No conditions but those written. -/
import Derived.Test.YtgbnbnjfaffaiaaOMb
namespace Go.Proofs.Ytgbnbnjfaffaiaa.Old
open Go.RowKit

theorem FreshT.at {lo hi : Nat} {W : World} {to : Option Addr} {tc : Nat} {ts : List (Int × Int)} (h : FreshT lo hi W to tc ts) (hn : 0 < ts.length) :
    ∃ g, to = some ⟨g, 0, none⟩ ∧ lo ≤ g ∧ g < hi ∧ g < W.heap.size ∧ (∀ j, j < ts.length * 2 → ∃ u, W.cell? ⟨g, j, none⟩ = some u) ∧ (∀ j, W.frozen? ⟨g, j, none⟩ = false) ∧
      ∀ (id : Nat) (s p : Int), id < ts.length → FreshT lo hi ((W.setCell ⟨g, id * 2, none⟩ (.int .i64 s)).setCell ⟨g, id * 2 + 1, none⟩ (.int .i64 p)) to tc (ts.set id (s, p)) := by
  rcases h with rfl | ⟨g, xs, rfl, hg, ho, hp⟩
  · simp at hn
  · refine ⟨g, rfl, (owns_lt ho).1, hg, (owns_lt ho).2, fun j hj => ?_, fun j => ho.frozenAt j, fun id s p hid => ?_⟩
    · have hl := ho.1
      exact ⟨xs[j], (ho.cellAt j hj).trans (by simp)⟩
    · refine .inr ⟨g, (xs.set (id * 2) (.int .i64 s)).set (id * 2 + 1) (.int .i64 p), rfl, hg, ?_, fun j hj => ?_⟩
      · rw [List.length_set]; exact ((ho.stored (id * 2) _).1.stored (id * 2 + 1) _).1
      · rw [List.length_set] at hj
        have hl := ho.1
        simp only [List.getElem?_set, List.length_set]
        by_cases e : id = j
        · subst e
          refine ⟨?_, ?_⟩
          · rw [if_neg (by omega), if_pos rfl, if_pos (by omega), if_pos rfl, if_pos hj]; rfl
          · rw [if_pos rfl, if_pos (by omega), if_pos rfl, if_pos hj]; rfl
        · refine ⟨?_, ?_⟩
          · rw [if_neg (by omega), if_neg (by omega), if_neg e]; exact (hp j hj).1
          · rw [if_neg (by omega), if_neg (by omega), if_neg e]; exact (hp j hj).2

set_option maxHeartbeats 2000000 in
theorem withTask_any (ao : Option Addr) (cap : Nat) (ts : List (Int × Int)) (qo : Option Addr) (qcap : Nat) (q : List Int) (id : Nat) (st : Int) (w : World) (hl : ts.length ≤ 1048576) (hlq : q.length ≤ 1048576) (hid : id < ts.length) (hz : TasksIn w.heap.size w ao ts) (hq : IntsIn w.heap.size w qo q) :
    Calls Try.prog 18 #[.agg #[.slice ao ts.length cap, .slice qo q.length qcap], .int .i64 id, .int .i64 st] w fun e w' => (∃ to go, e = .returned (.agg #[.slice to ts.length ts.length, .slice go q.length q.length]) ∧ FreshT w.heap.size w'.heap.size w' to ts.length (ts.set id (st, 0)) ∧ FreshI w.heap.size w'.heap.size w' go q.length q) ∧ Below w.heap.size w w' := by
  go_enter Try.func18, Try.ntmps18
  go_wp2_with fail
  refine (copyBoard_any ao cap ts qo qcap q _ hl hlq (hz.later (below2 _ _ _)) (hq.later (below2 _ _ _))).mono ?_
  rintro e w1 ⟨⟨to, go, rfl, hT, hI⟩, hb1⟩
  have hB1 := (below2 w (.cells #[.slice ao ts.length cap, .slice qo q.length qcap] 26) (.cells #[.slice none 0 0, .slice none 0 0] 26)).trans (hb1.mono (by simp; omega))
  have hs1 := hb1.size
  simp only [World.size_alloc] at hs1 hT hI
  have r0 : w1.cell? ⟨w.heap.size + 1, 0, none⟩ = some (.slice none 0 0) := (hb1.cell (p := ⟨w.heap.size + 1, 0, none⟩) (by simp)).trans (by simp [go_sem])
  have r1 : w1.cell? ⟨w.heap.size + 1, 1, none⟩ = some (.slice none 0 0) := (hb1.cell (p := ⟨w.heap.size + 1, 1, none⟩) (by simp)).trans (by simp [go_sem])
  have f0 : w1.frozen? ⟨w.heap.size + 1, 0, none⟩ = false := (hb1.frozen (p := ⟨w.heap.size + 1, 0, none⟩) (by simp)).trans (by simp [go_sem])
  have f1 : w1.frozen? ⟨w.heap.size + 1, 1, none⟩ = false := (hb1.frozen (p := ⟨w.heap.size + 1, 1, none⟩) (by simp)).trans (by simp [go_sem])
  have hlt1 : w.heap.size + 1 < w1.heap.size := by omega
  obtain ⟨g, rfl, hg1, hg2, hg3, hcs, hfs, hput⟩ := hT.at (by omega)
  obtain ⟨u0, hu0⟩ := hcs (id * 2) (by omega)
  obtain ⟨u1, hu1⟩ := hcs (id * 2 + 1) (by omega)
  have hf0 := hfs (id * 2)
  have hf1 := hfs (id * 2 + 1)
  clear hcs hfs hb1
  have hgne : g ≠ w.heap.size + 1 := by omega
  have hgne2 : g ≠ w1.heap.size := by omega
  have HP : Hid (∀ (id : Nat) (s p : Int), id < ts.length → FreshT (w.heap.size + 1 + 1) w1.heap.size ((w1.setCell ⟨g, id * 2, none⟩ (.int .i64 s)).setCell ⟨g, id * 2 + 1, none⟩ (.int .i64 p)) (some ⟨g, 0, none⟩) ts.length (ts.set id (s, p))) := hput
  have HI : Hid (FreshI (w.heap.size + 1 + 1) w1.heap.size w1 go q.length q) := hI
  have HT : Hid (FreshT (w.heap.size + 1 + 1) w1.heap.size w1 (some ⟨g, 0, none⟩) ts.length ts) := hT
  clear hput hI hT
  go_wp2
  have hn0 : 0 < ts.length := by omega
  have ho : OnlyAt (eff (some ⟨g, 0, none⟩) ts.length) w1 ((w1.setCell ⟨g, id * 2, none⟩ (.int .i64 st)).setCell ⟨g, id * 2 + 1, none⟩ (.int .i64 0)) := by
    rw [eff_pos hn0]; exact (OnlyAt.set g (id * 2) _ _).trans (OnlyAt.set g (id * 2 + 1) _ _)
  refine bodyPost_ret (v := .agg #[.slice (some ⟨g, 0, none⟩) ts.length ts.length, .slice go q.length q.length]) (by simp [results, Try.results18, go_sem, r0, r1, hlt1]) rfl ⟨⟨some ⟨g, 0, none⟩, go, rfl, ?_, ?_⟩, ?_⟩
  · exact (((((HP.out id st 0 hid).setBelow (a := ⟨w.heap.size + 1, 0, none⟩) (by simp) _).setBelow (a := ⟨w.heap.size + 1, 1, none⟩) (by simp) _)).later (below1 _ _)).wide (by omega) (by simp)
  · exact ((((HI.out.only HT.out ho).setBelow (a := ⟨w.heap.size + 1, 0, none⟩) (by simp) _).setBelow (a := ⟨w.heap.size + 1, 1, none⟩) (by simp) _).later (below1 _ _)).wide (by omega) (by simp)
  · exact ((((hB1.setCell (p := ⟨g, id * 2, none⟩) (by simp; omega) _).setCell (p := ⟨g, id * 2 + 1, none⟩) (by simp; omega) _).setCell (p := ⟨w.heap.size + 1, 0, none⟩) (by simp) _).setCell (p := ⟨w.heap.size + 1, 1, none⟩) (by simp) _).alloc (by simp; omega) _
theorem with_row {w1 : World} {g n cap : Nat} {ad : Addr} {cur : List Value} {zs : List Int} (hcur : w1.heap[g]? = some (.cells cur.toArray 3 (0, 0))) (hcl : cur.length = zs.length + 1) (hsrc : ∀ j v, (zs.map (Value.int .i64))[j]? = some v → w1.cell? (ad.add j) = some v) :
    (Builtin.copy_ #[24, 24] 3 #[.slice (some ⟨g, 0, none⟩) (zs.length + 1) n, .slice (some ad) zs.length cap]).run Try.prog w1 = .ok (goInt zs.length) (w1.setRow g (zs.map (Value.int .i64) ++ cur.drop zs.length).toArray) := by
  have h := run_copy_row (P := Try.prog) w1 24 24 3 3 g 0 (zs.length + 1) n ad zs.length cap cur.toArray 3 (zs.map (Value.int .i64)) Try.underlying24 Try.size3 hcur (by simp) hsrc (by simp [hcl]) (by intro v hv; obtain ⟨z, _, rfl⟩ := List.mem_map.1 hv; rfl)
  rw [h]
  simp
theorem with_end {w1 : World} {g lo : Nat} {cur xs : List Value} {zs : List Int} {z : Int} (hcur : w1.heap[g]? = some (.cells cur.toArray 3 (0, 0))) (hb : lo ≤ g) (hl : zs.length ≤ 2097152) (hx : xs.length = zs.length + 1) (hp : xs.take zs.length = zs.map (Value.int .i64)) (hc : cur = xs.set zs.length (.int .i64 z)) :
    FreshI lo (g + 1) w1 (some ⟨g, 0, none⟩) (zs.length + 1) (zs ++ [z]) := by
  have e : cur = (zs ++ [z]).map (Value.int .i64) := by
    rw [hc, List.map_append, ← hp]
    apply List.ext_getElem?
    intro j
    rw [List.getElem?_set]
    by_cases h1 : zs.length = j
    · subst h1; rw [if_pos rfl, if_pos (by omega)]; simp [hx]
    · rw [if_neg h1]
      by_cases h2 : j < zs.length
      · rw [List.getElem?_append_left (by simp; omega), List.getElem?_take, if_pos h2]
      · rw [List.getElem?_eq_none (by omega), List.getElem?_eq_none (by simp; omega)]
  subst e
  refine .inr ⟨g, rfl, by omega, ⟨by simp, .inr ⟨g, zs.length + 1, _, by simp, hb, hcur, by simp, by unfold maxLen; omega, by simp, by simp [List.take_of_length_le]⟩⟩⟩

theorem with_copy {w w1 : World} {g n cap m : Nat} {ao : Option Addr} {cur : List Value} {zs : List Int} (hcur : w1.heap[g]? = some (.cells cur.toArray 3 (0, 0))) (hcl : cur.length = zs.length + 1) (hB : Below m w w1) (hz : IntsIn m w ao zs) :
    ∃ (W3 : World) (xs : List Value), (Builtin.copy_ #[24, 24] 3 #[.slice (some ⟨g, 0, none⟩) (zs.length + 1) n, .slice ao zs.length cap]).run Try.prog w1 = .ok (goInt zs.length) W3 ∧ W3.heap[g]? = some (.cells xs.toArray 3 (0, 0)) ∧ xs.length = zs.length + 1 ∧ xs.take zs.length = zs.map (Value.int .i64) ∧ OnlyAt (some ⟨g, 0, none⟩) w1 W3 := by
  rcases hz with rfl | ⟨b, off, rfl, hb, hc⟩
  · exact ⟨w1, cur, run_copy_none (P := Try.prog) w1 24 24 3 3 _ _ _ _ _ _ Try.underlying24 Try.size3 (by simp), hcur, hcl, by simp, OnlyAt.refl _ _⟩
  · refine ⟨_, _, with_row hcur hcl (ints_src hB hb hc), setRow_heap w1 g _ _ 3 _ hcur, by simp [hcl], by simp, ?_⟩
    exact ⟨rfl, rfl, rfl, by simp [World.setRow], fun k hk => setRow_other w1 g k _ (hk g rfl)⟩
theorem OnlyAt.cell {g : Nat} {w w' : World} (h : OnlyAt (some ⟨g, 0, none⟩) w w') (b o : Nat) (hne : b ≠ g) : w'.cell? ⟨b, o, none⟩ = w.cell? ⟨b, o, none⟩ := World.cell?_of_block (a := ⟨b, o, none⟩) (h.block b fun g' e => by cases e; exact hne)
theorem OnlyAt.frozen {g : Nat} {w w' : World} (h : OnlyAt (some ⟨g, 0, none⟩) w w') (b o : Nat) (hne : b ≠ g) : w'.frozen? ⟨b, o, none⟩ = w.frozen? ⟨b, o, none⟩ := World.frozen?_of_block (a := ⟨b, o, none⟩) (h.block b fun g' e => by cases e; exact hne)

set_option maxHeartbeats 2000000 in
theorem withI_any (ao : Option Addr) (cap : Nat) (zs : List Int) (z : Int) (w : World) (hl : zs.length ≤ 1048576) (hz : IntsIn w.heap.size w ao zs) :
    Calls Try.prog 48 #[.agg #[.slice ao zs.length cap], .int .i64 z] w fun e w' => (∃ go, e = .returned (.agg #[.slice go (zs.length + 1) (zs.length + 1)]) ∧ FreshI w.heap.size w'.heap.size w' go (zs.length + 1) (zs ++ [z])) ∧ Below w.heap.size w w' := by
  obtain ⟨W2, hW2⟩ : ∃ W2, W2 = (w.alloc (.cells #[.slice ao zs.length cap] 50)).alloc (.cells #[.slice none 0 0] 50) := ⟨_, rfl⟩
  have hB2 : Below w.heap.size w W2 := by rw [hW2]; exact below2 _ _ _
  have hs2 : W2.heap.size = w.heap.size + 1 + 1 := by rw [hW2]; simp
  have b0 : W2.cell? ⟨w.heap.size, 0, none⟩ = some (.slice ao zs.length cap) := by rw [hW2]; simp [go_sem]
  have r0 : W2.cell? ⟨w.heap.size + 1, 0, none⟩ = some (.slice none 0 0) := by rw [hW2]; simp [go_sem]
  have f0 : W2.frozen? ⟨w.heap.size + 1, 0, none⟩ = false := by rw [hW2]; simp [go_sem]
  have HW : Hid (W2 = (w.alloc (.cells #[.slice ao zs.length cap] 50)).alloc (.cells #[.slice none 0 0] 50)) := hW2
  clear hW2
  obtain ⟨i0, hi, hz0, hz1, hz2⟩ := info_parts Try.info3
  go_enter Try.func48, Try.ntmps48
  go_wp2_with (at_make; refine wpList_make_full _ rfl _ _ 24 rfl (w.heap.size + 1 + 1) 3 i0 (.int .i64 0) 1 Try.underlying24 hi hz0 hz1 .i64 .i64 _ _ (zs.length + 1) rfl rfl (by simp) (by simp) (by rw [hz2]; omega) (by unfold maxLen; omega) (by simp) ?_; intro w1 hown hgrow; rw [← HW.out] at hown hgrow; rw [hs2] at hown; obtain ⟨cur, hcur, hcl, _⟩ := owns_open hown; have hB1 : Below W2.heap.size W2 w1 := (Below.refl _ _).grown hgrow (Nat.le_refl _) (fun k e => by cases e); have hB : Below w.heap.size w w1 := hB2.trans (hB1.mono hB2.size); obtain ⟨W3, xs, hrun, hg3, hx3, hp3, ho3⟩ := with_copy (n := zs.length + 1) (cap := cap) hcur (by omega) hB hz; have q0 : w1.cell? ⟨w.heap.size, 0, none⟩ = some (.slice ao zs.length cap) := (hB1.cell (p := ⟨w.heap.size, 0, none⟩) (by simp [hs2]; omega)).trans b0; have q1 : W3.cell? ⟨w.heap.size, 0, none⟩ = some (.slice ao zs.length cap) := (ho3.cell _ _ (by omega)).trans q0; have q2 : W3.cell? ⟨w.heap.size + 1, 0, none⟩ = some (.slice none 0 0) := (ho3.cell _ _ (by omega)).trans ((hB1.cell (p := ⟨w.heap.size + 1, 0, none⟩) (by simp [hs2])).trans r0); have q3 : W3.frozen? ⟨w.heap.size + 1, 0, none⟩ = false := (ho3.frozen _ _ (by omega)).trans ((hB1.frozen (p := ⟨w.heap.size + 1, 0, none⟩) (by simp [hs2])).trans f0); have q4 : W3.cell? ⟨w.heap.size + 1 + 1, zs.length, none⟩ = some xs[zs.length] := (by simp [World.cell?, hg3]); have q5 : W3.frozen? ⟨w.heap.size + 1 + 1, zs.length, none⟩ = false := (by simp [World.frozen?, hg3]); have HX := show Hid (W3.heap[w.heap.size + 1 + 1]? = some (.cells xs.toArray 3 (0, 0)) ∧ xs.length = zs.length + 1 ∧ xs.take zs.length = zs.map (Value.int .i64)) from ⟨hg3, hx3, hp3⟩; clear hown hgrow hcur hg3 hp3)
  have hh : (W3.setCell ⟨w.heap.size + 1 + 1, zs.length, none⟩ (.int .i64 z)).heap[w.heap.size + 1 + 1]? = some (.cells (xs.set zs.length (.int .i64 z)).toArray 3 (0, 0)) := by
    have := heap_setCell_same W3 (w.heap.size + 1 + 1) zs.length xs.toArray 3 (.int .i64 z) HX.out.1
    simpa using this
  have hlt : w.heap.size + 1 + 1 < W3.heap.size := (Array.getElem?_eq_some_iff.1 HX.out.1).1
  refine bodyPost_ret (v := .agg #[.slice (some ⟨w.heap.size + 1 + 1, 0, none⟩) (zs.length + 1) (zs.length + 1)]) (by simp [results, Try.results48, go_sem, q2]) rfl ⟨⟨_, rfl, ?_⟩, ?_⟩
  · exact ((with_end hh (Nat.le_refl _) (by omega) HX.out.2.1 HX.out.2.2 rfl).setBelow (a := ⟨w.heap.size + 1, 0, none⟩) (by simp) _).wide (by omega) (by simp; omega)
  · have hB3 : Below w.heap.size w W3 := hB.trans ⟨ho3.os, ho3.tape, ho3.output, by rw [ho3.size]; exact Nat.le_refl _, fun k hk => ho3.block k fun g e => by cases e; omega⟩
    exact (hB3.setCell (p := ⟨w.heap.size + 1 + 1, zs.length, none⟩) (by simp; omega) _).setCell (p := ⟨w.heap.size + 1, 0, none⟩) (by simp) _

/-- The first task that runs. -/
def firstRun (ts : List (Int × Int)) : Option Nat := ts.findIdx? (fun t => t.1 == 2)
theorem firstRun_some (ts : List (Int × Int)) (k : Nat) (hk : k < ts.length) (h : (ts[k]?.getD (0, 0)).1 = 2) (hno : ∀ j, j < k → (ts[j]?.getD (0, 0)).1 ≠ 2) : firstRun ts = some k := by
  unfold firstRun
  rw [List.findIdx?_eq_some_iff_getElem]
  refine ⟨hk, by simpa [hk] using h, fun j hj => ?_⟩
  have := hno j hj
  have hj' : j < ts.length := by omega
  simpa [hj'] using this
theorem firstRun_none (ts : List (Int × Int)) (hno : ∀ j, j < ts.length → (ts[j]?.getD (0, 0)).1 ≠ 2) : firstRun ts = none := by
  unfold firstRun
  rw [List.findIdx?_eq_none_iff]
  intro t ht
  obtain ⟨j, hj, rfl⟩ := List.mem_iff_getElem.1 ht
  have := hno j hj
  simpa [hj] using this
theorem firstRun_lt {ts : List (Int × Int)} {k : Nat} (h : firstRun ts = some k) : k < ts.length ∧ (ts[k]?.getD (0, 0)).1 = 2 := by
  unfold firstRun at h
  rw [List.findIdx?_eq_some_iff_getElem] at h
  obtain ⟨h1, h2, _⟩ := h
  exact ⟨h1, by simpa [h1] using h2⟩
def runV (ts : List (Int × Int)) : Value := match firstRun ts with | some id => .tuple #[.int .i64 (id : Int), .bool true] | none => .tuple #[.int .i64 0, .bool false]
def runI (ts : List (Int × Int)) : Int := match firstRun ts with | some id => (id : Int) | none => -1

set_option maxHeartbeats 2000000 in
theorem runningTask_any (ao : Option Addr) (cap : Nat) (ts : List (Int × Int)) (qo : Option Addr) (n qcap : Nat) (w : World) (hl : ts.length ≤ 1048576) (hz : TasksIn w.heap.size w ao ts) :
    Calls Try.prog 15 #[.agg #[.slice ao ts.length cap, .slice qo n qcap]] w fun e w' => e = .returned (runV ts) ∧ Below w.heap.size w w' := by
  go_enter Try.func15, Try.ntmps15
  go_wp2
  go_loopw [9] (fun i wr => ∃ k : Nat, k ≤ ts.length ∧ i = .int .i64 k ∧ Hid (∀ j, j < k → (ts[j]?.getD (0, 0)).1 ≠ 2) ∧ Below w.heap.size w wr) (fun i _ => ts.length - (intOf i).toNat)
  case atStart => exact ⟨0, Nat.zero_le _, rfl, fun j hj => by omega, below1 _ _⟩
  case round =>
    obtain ⟨k, hk, rfl, hno, hnx⟩ := hrel
    by_cases hlt : k < ts.length
    · obtain ⟨b, off, rfl, hb, hc⟩ := hz.pos hlt
      have hck1 := (hnx.cell (p := ⟨b, off + k * 2, none⟩) hb).trans (hc k hlt).1
      have hck2 := (hnx.cell (p := ⟨b, off + k * 2 + 1, none⟩) hb).trans (hc k hlt).2
      clear hc hz
      obtain ⟨s, hs⟩ : ∃ s, s = (ts[k]?.getD (0, 0)).1 := ⟨_, rfl⟩
      rw [← hs] at hck1
      have HS : Hid (s = (ts[k]?.getD (0, 0)).1) := hs
      clear hs
      generalize (ts[k]?.getD (0, 0)).2 = p at *
      by_cases h2 : s = 2
      · have h2' : (s == 2) = true := by simpa using h2
        have HV : Hid (runV ts = .tuple #[.int .i64 (k : Int), .bool true]) := by
          rw [Hid, runV, firstRun_some ts k hlt (by rw [← HS.out]; exact h2) hno.out]
        clear h2
        go_wp2
        go_ret2
        rw [HV.out]
        exact ⟨rfl, hnx.alloc hnx.size _⟩
      · have h2' : (s == 2) = false := by simpa using h2
        go_wp2
        go_roundw
        case rel => exact ⟨k + 1, by omega, by go_num, fun j hj => by
          rcases Nat.lt_succ_iff_lt_or_eq.1 hj with h | rfl
          · exact hno.out j h
          · rw [← HS.out]; exact h2, hnx.alloc hnx.size _⟩
        case measure => simp [intOf]; omega
    · obtain rfl : k = ts.length := by omega
      have HV : Hid (runV ts = .tuple #[.int .i64 0, .bool false]) := by rw [Hid, runV, firstRun_none ts hno.out]
      go_wp2
      go_ret2
      rw [HV.out]
      exact ⟨rfl, hnx⟩

set_option maxHeartbeats 2000000 in
theorem l1Runs_any (ao : Option Addr) (cap : Nat) (ts : List (Int × Int)) (qo : Option Addr) (n qcap : Nat) (w : World) (hl : ts.length ≤ 1048576) (hz : TasksIn w.heap.size w ao ts) :
    Calls Try.prog 25 #[.agg #[.slice ao ts.length cap, .slice qo n qcap]] w fun e w' => e = .returned (.int .i64 (runI ts)) ∧ Below w.heap.size w w' := by
  go_enter Try.func25, Try.ntmps25
  go_wp2
  go_loopw [8] (fun i wr => ∃ k : Nat, k ≤ ts.length ∧ i = .int .i64 k ∧ Hid (∀ j, j < k → (ts[j]?.getD (0, 0)).1 ≠ 2) ∧ Below w.heap.size w wr) (fun i _ => ts.length - (intOf i).toNat)
  case atStart => exact ⟨0, Nat.zero_le _, rfl, fun j hj => by omega, below1 _ _⟩
  case round =>
    obtain ⟨k, hk, rfl, hno, hnx⟩ := hrel
    by_cases hlt : k < ts.length
    · obtain ⟨b, off, rfl, hb, hc⟩ := hz.pos hlt
      have hck1 := (hnx.cell (p := ⟨b, off + k * 2, none⟩) hb).trans (hc k hlt).1
      have hck2 := (hnx.cell (p := ⟨b, off + k * 2 + 1, none⟩) hb).trans (hc k hlt).2
      clear hc hz
      obtain ⟨s, hs⟩ : ∃ s, s = (ts[k]?.getD (0, 0)).1 := ⟨_, rfl⟩
      rw [← hs] at hck1
      have HS : Hid (s = (ts[k]?.getD (0, 0)).1) := hs
      clear hs
      generalize (ts[k]?.getD (0, 0)).2 = p at *
      by_cases h2 : s = 2
      · have h2' : (s == 2) = true := by simpa using h2
        have HV : Hid (runI ts = (k : Int)) := by
          rw [Hid, runI, firstRun_some ts k hlt (by rw [← HS.out]; exact h2) hno.out]
        clear h2
        go_wp2
        go_ret
        rw [HV.out]
        exact ⟨rfl, hnx.alloc hnx.size _⟩
      · have h2' : (s == 2) = false := by simpa using h2
        go_wp2
        go_roundw
        case rel => exact ⟨k + 1, by omega, by go_num, fun j hj => by
          rcases Nat.lt_succ_iff_lt_or_eq.1 hj with h | rfl
          · exact hno.out j h
          · rw [← HS.out]; exact h2, hnx.alloc hnx.size _⟩
        case measure => simp [intOf]; omega
    · obtain rfl : k = ts.length := by omega
      have HV : Hid (runI ts = -1) := by rw [Hid, runI, firstRun_none ts hno.out]
      go_wp2
      go_ret
      rw [HV.out]
      exact ⟨rfl, hnx⟩
end Go.Proofs.Ytgbnbnjfaffaiaa.Old
