
/- The ring's list. No conditions but those written. -/
import Derived.Test.YtdfmmidokfcjfaaOHb
namespace Go.Proofs.Ytdfmmidokfcjfaa.Old
open Go.RowKit

theorem ring_src {W : World} {p : Nat} {g : List Int} {a b : Int} (h : RingB W p g a b) (f m : Nat) : ∀ j v, (((g.drop f).take m).map (Value.int .i64))[j]? = some v → W.cell? ((⟨p, f, none⟩ : Addr).add j) = some v := by
  intro j v hv
  have h10 := h.1
  have hj : j < ((g.drop f).take m).length := by
    have := (List.getElem?_eq_some_iff.1 hv).1; simpa using this
  have hj' : j < m ∧ f + j < g.length := by simp at hj; omega
  have ea : (⟨p, f, none⟩ : Addr).add j = ⟨p, f + j, none⟩ := by by_cases hh : j = 0 <;> simp [Addr.add, hh]
  have e : ((g.drop f).take m)[j]? = g[f + j]? := by rw [List.getElem?_take, if_pos hj'.1, List.getElem?_drop]
  rw [ea, h.cell (i := f + j) (by omega)]
  rw [List.getElem?_map, e] at hv
  cases hq : g[f + j]? with
  | none => simp [hq] at hv
  | some z => simp [hq] at hv ⊢; exact hv

set_option maxRecDepth 10000 in
set_option maxHeartbeats 4000000 in
theorem list0_any (p : Nat) (g : List Int) (m : Nat) (w : World) (hR : RingB w p g 0 m) (hm : m ≤ 10) :
    Calls Try.prog 18 #[.pointer (some ⟨p, 0, none⟩)] w fun e w' => (∃ go, e = .returned (.slice go m m) ∧ FreshI w.heap.size w'.heap.size w' go m ((g.drop 0).take m)) ∧ Below w.heap.size w w' := by
  have c10 := hR.first
  have c11 := hR.many
  have hplt := hR.lt
  have hg10 := hR.1
  by_cases h0 : m = 0
  · subst h0
    have h0' : (((0 : Nat) : Int) == 0) = true := rfl
    clear hR
    go_enter Try.func18, Try.ntmps18
    go_wp2
    go_ret
    exact ⟨⟨none, rfl, .inl ⟨by simp, by simp⟩⟩, Below.refl _ _⟩
  have h0' : ((m : Int) == 0) = false := by rw [beq_eq_false_iff_ne]; omega
  obtain ⟨i0, hi, hz0, hz1, hz2⟩ := info_parts Try.info3
  obtain ⟨L, hL⟩ : ∃ L, L = (g.drop 0).take m := ⟨_, rfl⟩
  have hLl : L.length = m := by rw [hL]; simp; omega
  have hzero : ∀ (d : Option Addr) (W : World), (Builtin.copy_ #[23, 23] 3 #[.slice d 0 0, .slice (some ⟨p, 0, none⟩) 10 10]).run Try.prog W = .ok (goInt 0) W := fun d W => run_copy_zero (P := Try.prog) W 23 23 3 3 1 _ _ _ _ _ _ Try.underlying23 Try.size3 (by simp)
  have HR : Hid (RingB w p g 0 m) := hR
  have hmi : (m : Int) ≤ 10 := by omega
  have hm0 : (0 : Int) ≤ (m : Int) := by omega
  rw [← hL]
  have HL : Hid (L = (g.drop 0).take m) := hL
  clear hR h0 hL
  go_enter Try.func18, Try.ntmps18
  go_wp2_with (at_make; refine wpList_make_full _ rfl _ _ 23 rfl w.heap.size 3 i0 (.int .i64 0) 1 Try.underlying23 hi hz0 hz1 .i64 .i64 _ _ m rfl rfl rfl rfl (by rw [hz2]; omega) (by unfold maxLen; omega) (Nat.le_refl _) ?_; intro w1 hown hgrow; obtain ⟨cur, hcur, hcl, _⟩ := owns_open hown; have hB1 : Below w.heap.size w w1 := (Below.refl _ _).grown hgrow (Nat.le_refl _) (fun k e => by cases e); have R1 := HR.out.later hB1; have d10 := R1.first; have hrun := run_copy_row (P := Try.prog) w1.drew 23 23 3 3 w.heap.size 0 m m ⟨p, 0, none⟩ 10 10 cur.toArray 3 (L.map (Value.int .i64)) Try.underlying23 Try.size3 hcur (by rw [List.length_map, hLl]; exact (Nat.min_eq_right hm).symm) (by rw [HL.out]; exact ring_src R1.drew 0 m) (by simp [hLl, hcl]) (ints_one L); have HC : Hid (w1.heap[w.heap.size]? = some (.cells cur.toArray 3 (0, 0)) ∧ cur.length = m) := ⟨hcur, by omega⟩; clear hown hgrow hcur hcl)
  obtain ⟨W3, hW3⟩ : ∃ W3, W3 = w1.drew.setRow w.heap.size (L.map (Value.int .i64)).toArray := ⟨_, rfl⟩
  have hrun' : (Builtin.copy_ #[23, 23] 3 #[.slice (some ⟨w.heap.size, 0, none⟩) m m, .slice (some ⟨p, 0, none⟩) 10 10]).run Try.prog w1.drew = .ok (goInt m) W3 := by
    rw [hrun, hW3]
    have e : cur.drop m = [] := List.drop_eq_nil_of_le (by rw [HC.out.2]; exact Nat.le_refl _)
    simp [hLl, e]
  have hO3 : W3.ownsRow w.heap.size 3 1 (.slice (some ⟨w.heap.size, 0, none⟩) L.length m) L.length (L.map (Value.int .i64)) := by
    have h := own_of_row (zs := L) (w := w1.drew) (g := w.heap.size) (base := w.heap.size) (cur := cur) HC.out.1 (Nat.le_refl _) (by omega)
    rw [hW3]; rw [hLl] at h ⊢; exact h
  have hB3 : Below w.heap.size w W3 := by rw [hW3]; exact below_setRow hB1.drew (Nat.le_refl _) _
  have e10 : W3.cell? ⟨p, 10, none⟩ = some (.int .i64 0) := by
    rw [hW3]
    exact (World.cell?_of_block (a := ⟨p, 10, none⟩) (setRow_other _ _ p _ (by omega))).trans d10
  have HO : Hid (W3.ownsRow w.heap.size 3 1 (.slice (some ⟨w.heap.size, 0, none⟩) L.length m) L.length (L.map (Value.int .i64))) := hO3
  clear hW3 hrun hO3
  go_region_held3 (fun Y => Y.cell? ⟨p, 10, none⟩ = some (.int .i64 0))
    (first | exact e10 | exact d10)
    (fail)
  all_goals
    go_wp2
    go_region_held3 (fun Y => Y.cell? ⟨p, 10, none⟩ = some (.int .i64 0))
      (exact e10)
      (fail)
    all_goals
      go_wp2
      go_ret
      have ho := HO.out
      have hlt := (owns_lt ho).2
      exact ⟨⟨_, rfl, .inr ⟨_, rfl, hlt, by rw [hLl] at ho ⊢; exact ho⟩⟩, hB3.drew⟩

set_option maxRecDepth 10000 in
set_option maxHeartbeats 4000000 in
theorem list1_any (p : Nat) (g : List Int) (m : Nat) (w : World) (hR : RingB w p g 1 m) (hm : m ≤ 9) :
    Calls Try.prog 18 #[.pointer (some ⟨p, 0, none⟩)] w fun e w' => (∃ go, e = .returned (.slice go m m) ∧ FreshI w.heap.size w'.heap.size w' go m ((g.drop 1).take m)) ∧ Below w.heap.size w w' := by
  have c10 := hR.first
  have c11 := hR.many
  have hplt := hR.lt
  have hg10 := hR.1
  by_cases h0 : m = 0
  · subst h0
    have h0' : (((0 : Nat) : Int) == 0) = true := rfl
    clear hR
    go_enter Try.func18, Try.ntmps18
    go_wp2
    go_ret
    exact ⟨⟨none, rfl, .inl ⟨by simp, by simp⟩⟩, Below.refl _ _⟩
  have h0' : ((m : Int) == 0) = false := by rw [beq_eq_false_iff_ne]; omega
  obtain ⟨i0, hi, hz0, hz1, hz2⟩ := info_parts Try.info3
  obtain ⟨L, hL⟩ : ∃ L, L = (g.drop 1).take m := ⟨_, rfl⟩
  have hLl : L.length = m := by rw [hL]; simp; omega
  have hzero : ∀ (d : Option Addr) (W : World), (Builtin.copy_ #[23, 23] 3 #[.slice d 0 0, .slice (some ⟨p, 0, none⟩) 10 10]).run Try.prog W = .ok (goInt 0) W := fun d W => run_copy_zero (P := Try.prog) W 23 23 3 3 1 _ _ _ _ _ _ Try.underlying23 Try.size3 (by simp)
  have HR : Hid (RingB w p g 1 m) := hR
  have hmi : (m : Int) ≤ 9 := by omega
  have hm0 : (0 : Int) ≤ (m : Int) := by omega
  rw [← hL]
  have HL : Hid (L = (g.drop 1).take m) := hL
  clear hR h0 hL
  go_enter Try.func18, Try.ntmps18
  go_wp2_with (at_make; refine wpList_make_full _ rfl _ _ 23 rfl w.heap.size 3 i0 (.int .i64 0) 1 Try.underlying23 hi hz0 hz1 .i64 .i64 _ _ m rfl rfl rfl rfl (by rw [hz2]; omega) (by unfold maxLen; omega) (Nat.le_refl _) ?_; intro w1 hown hgrow; obtain ⟨cur, hcur, hcl, _⟩ := owns_open hown; have hB1 : Below w.heap.size w w1 := (Below.refl _ _).grown hgrow (Nat.le_refl _) (fun k e => by cases e); have R1 := HR.out.later hB1; have d10 := R1.first; have hrun := run_copy_row (P := Try.prog) w1.drew 23 23 3 3 w.heap.size 0 m m ⟨p, 1, none⟩ 9 9 cur.toArray 3 (L.map (Value.int .i64)) Try.underlying23 Try.size3 hcur (by rw [List.length_map, hLl]; exact (Nat.min_eq_right hm).symm) (by rw [HL.out]; exact ring_src R1.drew 1 m) (by simp [hLl, hcl]) (ints_one L); have HC : Hid (w1.heap[w.heap.size]? = some (.cells cur.toArray 3 (0, 0)) ∧ cur.length = m) := ⟨hcur, by omega⟩; clear hown hgrow hcur hcl)
  obtain ⟨W3, hW3⟩ : ∃ W3, W3 = w1.drew.setRow w.heap.size (L.map (Value.int .i64)).toArray := ⟨_, rfl⟩
  have hrun' : (Builtin.copy_ #[23, 23] 3 #[.slice (some ⟨w.heap.size, 0, none⟩) m m, .slice (some ⟨p, 1, none⟩) 9 9]).run Try.prog w1.drew = .ok (goInt m) W3 := by
    rw [hrun, hW3]
    have e : cur.drop m = [] := List.drop_eq_nil_of_le (by rw [HC.out.2]; exact Nat.le_refl _)
    simp [hLl, e]
  have hO3 : W3.ownsRow w.heap.size 3 1 (.slice (some ⟨w.heap.size, 0, none⟩) L.length m) L.length (L.map (Value.int .i64)) := by
    have h := own_of_row (zs := L) (w := w1.drew) (g := w.heap.size) (base := w.heap.size) (cur := cur) HC.out.1 (Nat.le_refl _) (by omega)
    rw [hW3]; rw [hLl] at h ⊢; exact h
  have hB3 : Below w.heap.size w W3 := by rw [hW3]; exact below_setRow hB1.drew (Nat.le_refl _) _
  have e10 : W3.cell? ⟨p, 10, none⟩ = some (.int .i64 1) := by
    rw [hW3]
    exact (World.cell?_of_block (a := ⟨p, 10, none⟩) (setRow_other _ _ p _ (by omega))).trans d10
  have HO : Hid (W3.ownsRow w.heap.size 3 1 (.slice (some ⟨w.heap.size, 0, none⟩) L.length m) L.length (L.map (Value.int .i64))) := hO3
  clear hW3 hrun hO3
  go_region_held3 (fun Y => Y.cell? ⟨p, 10, none⟩ = some (.int .i64 1))
    (first | exact e10 | exact d10)
    (fail)
  all_goals
    go_wp2
    go_region_held3 (fun Y => Y.cell? ⟨p, 10, none⟩ = some (.int .i64 1))
      (exact e10)
      (fail)
    all_goals
      go_wp2
      go_ret
      have ho := HO.out
      have hlt := (owns_lt ho).2
      exact ⟨⟨_, rfl, .inr ⟨_, rfl, hlt, by rw [hLl] at ho ⊢; exact ho⟩⟩, hB3.drew⟩

set_option maxRecDepth 10000 in
set_option maxHeartbeats 4000000 in
theorem listX_any (p : Nat) (g : List Int) (w : World) (hR : RingB w p g 1 10) :
    Calls Try.prog 18 #[.pointer (some ⟨p, 0, none⟩)] w fun e w' => (∃ go, e = .returned (.slice go 10 10) ∧ FreshI w.heap.size w'.heap.size w' go 10 (g.drop 1 ++ g.take 1)) ∧ Below w.heap.size w w' := by
  have c10 := hR.first
  have c11 := hR.many
  have hplt := hR.lt
  have hg10 := hR.1
  obtain ⟨i0, hi, hz0, hz1, hz2⟩ := info_parts Try.info3
  have hLl : (g.drop 1).length = 9 := by simp; omega
  have hMl : (g.take 1).length = 1 := by simp; omega
  have HR : Hid (RingB w p g 1 10) := hR
  clear hR
  go_enter Try.func18, Try.ntmps18
  go_wp2_with (at_make; refine wpList_make_full _ rfl _ _ 23 rfl w.heap.size 3 i0 (.int .i64 0) 1 Try.underlying23 hi hz0 hz1 .i64 .i64 _ _ 10 rfl rfl rfl rfl (by rw [hz2]; omega) (by unfold maxLen; omega) (Nat.le_refl _) ?_; intro w1 hown hgrow; obtain ⟨cur, hcur, hcl, _⟩ := owns_open hown; have hB1 : Below w.heap.size w w1 := (Below.refl _ _).grown hgrow (Nat.le_refl _) (fun k e => by cases e); have R1 := HR.out.later hB1; have d10 := R1.first; have HC : Hid (w1.heap[w.heap.size]? = some (.cells cur.toArray 3 (0, 0)) ∧ cur.length = 10) := ⟨hcur, by omega⟩; clear hown hgrow hcur hcl)
  have hs9 : ∀ j v, ((g.drop 1).map (Value.int .i64))[j]? = some v → w1.drew.cell? ((⟨p, 1, none⟩ : Addr).add j) = some v := by
    have h := ring_src R1.drew 1 9
    rw [List.take_of_length_le (by omega)] at h; exact h
  have hrun := run_copy_row (P := Try.prog) w1.drew 23 23 3 3 w.heap.size 0 10 10 ⟨p, 1, none⟩ 9 9 cur.toArray 3 ((g.drop 1).map (Value.int .i64)) Try.underlying23 Try.size3 HC.out.1 (by rw [List.length_map, hLl]; rfl) hs9 (by rw [List.length_map, hLl]; simp [HC.out.2]) (ints_one _)
  obtain ⟨W3, hW3⟩ : ∃ W3, W3 = w1.drew.setRow w.heap.size ((g.drop 1).map (Value.int .i64) ++ cur.drop 9).toArray := ⟨_, rfl⟩
  have hrun' : (Builtin.copy_ #[23, 23] 3 #[.slice (some ⟨w.heap.size, 0, none⟩) 10 10, .slice (some ⟨p, 1, none⟩) 9 9]).run Try.prog w1.drew = .ok (goInt 9) W3 := by
    rw [hrun, hW3, List.length_map, hLl]; simp
  have hh3 : W3.heap[w.heap.size]? = some (.cells ((g.drop 1).map (Value.int .i64) ++ cur.drop 9).toArray 3 (0, 0)) := by rw [hW3]; exact setRow_heap w1.drew w.heap.size _ _ 3 _ HC.out.1
  have R3 : RingB W3 p g 1 10 := ⟨hg10, by rw [hW3, setRow_other _ _ p _ (by omega)]; exact R1.2⟩
  have hB3 : Below w.heap.size w W3 := by rw [hW3]; exact below_setRow hB1.drew (Nat.le_refl _) _
  have hs1 : ∀ j v, ((g.take 1).map (Value.int .i64))[j]? = some v → W3.drew.cell? ((⟨p, 0, none⟩ : Addr).add j) = some v := by
    have h := ring_src R3.drew 0 1
    rw [List.drop_zero] at h; exact h
  have hrun2 := run_copy_row (P := Try.prog) W3.drew 23 23 3 3 w.heap.size 9 1 1 ⟨p, 0, none⟩ 10 10 _ 3 ((g.take 1).map (Value.int .i64)) Try.underlying23 Try.size3 hh3 (by rw [List.length_map, hMl]; rfl) hs1 (by rw [List.length_map, hMl]; simp [HC.out.2, hg10]) (ints_one _)
  obtain ⟨W5, hW5⟩ : ∃ W5, W5 = W3.drew.setRow w.heap.size ((g.drop 1 ++ g.take 1).map (Value.int .i64)).toArray := ⟨_, rfl⟩
  have hrun2' : (Builtin.copy_ #[23, 23] 3 #[.slice (some ⟨w.heap.size, 9, none⟩) 1 1, .slice (some ⟨p, 0, none⟩) 10 10]).run Try.prog W3.drew = .ok (goInt 1) W5 := by
    rw [hrun2, hW5, List.length_map, hMl]
    have e1 : List.take 9 ((g.drop 1).map (Value.int .i64) ++ cur.drop 9) = (g.drop 1).map (Value.int .i64) := by rw [List.take_append_of_le_length (by simp; omega), List.take_of_length_le (by simp; omega)]
    have e2 : List.drop (9 + 1) ((g.drop 1).map (Value.int .i64) ++ cur.drop 9) = [] := List.drop_eq_nil_of_le (by simp [HC.out.2, hg10])
    simp only [e1, e2, List.append_nil, List.map_append]
    rfl
  have hO5 : W5.ownsRow w.heap.size 3 1 (.slice (some ⟨w.heap.size, 0, none⟩) 10 10) 10 ((g.drop 1 ++ g.take 1).map (Value.int .i64)) := by
    have h := own_of_row (zs := g.drop 1 ++ g.take 1) (w := W3.drew) (g := w.heap.size) (base := w.heap.size) hh3 (Nat.le_refl _) (by simp; omega)
    have e : (g.drop 1 ++ g.take 1).length = 10 := by rw [List.length_append, hLl, hMl]
    rw [e] at h
    rw [hW5]; exact h
  have hB5 : Below w.heap.size w W5 := by rw [hW5]; exact below_setRow hB3.drew (Nat.le_refl _) _
  have HO : Hid (W5.ownsRow w.heap.size 3 1 (.slice (some ⟨w.heap.size, 0, none⟩) 10 10) 10 ((g.drop 1 ++ g.take 1).map (Value.int .i64))) := hO5
  have e10 := R3.first
  have g10 : W5.cell? ⟨p, 10, none⟩ = some (.int .i64 1) := by
    rw [hW5]
    exact (World.cell?_of_block (a := ⟨p, 10, none⟩) (setRow_other _ _ p _ (by omega))).trans e10
  clear hW3 hrun hO5 hrun2 hW5 hh3 R3 hs1 hs9 R1
  go_region_held3 (fun Y => Y.cell? ⟨p, 10, none⟩ = some (.int .i64 1))
    (first | exact e10 | exact d10)
    (fail)
  all_goals
    go_wp2
    go_region_held3 (fun Y => Y.cell? ⟨p, 10, none⟩ = some (.int .i64 1))
      (first | exact g10 | exact e10)
      (fail)
    all_goals
      go_wp2
      go_ret
      have ho := HO.out
      have hlt := (owns_lt ho).2
      exact ⟨⟨_, rfl, .inr ⟨_, rfl, hlt, by
        have e : (g.drop 1 ++ g.take 1).length = 10 := by rw [List.length_append, hLl, hMl]
        rw [e]; exact ho⟩⟩, hB5⟩
end Go.Proofs.Ytdfmmidokfcjfaa.Old
