
/- The specification's own copy of a board. No conditions but those written. -/
import Derived.Test.YtgbnbnjfaffaiaaOMd
import Derived.Test.YtgbnbnjfaffaiaaOWc
import Derived.Deep.RegionLaw
import Derived.Deep.RegionLawGrows
import Derived.Deep.RegionHeldLaw
namespace Go.Proofs.Ytgbnbnjfaffaiaa.Old
open Go.RowKit

theorem owns_form {w : World} {base : Nat} {e : TypeId} {size : Nat} {v : Value} {n : Nat} {xs : List Value} (h : w.ownsRow base e size v n xs) (hn : 0 < n) : ∃ g cap, v = .slice (some ⟨g, 0, none⟩) n cap := by
  rcases h.2 with ⟨_, h'⟩ | ⟨g, cap, cur, h', _⟩
  · omega
  · exact ⟨g, cap, h'⟩

theorem step_own47 {ops : Array Oper} {o : Oper} {a : Act} {X : World} {K : Act → World → Prop} {Q : Exit → Act → World → Prop} {E : Prop}
    (hg : o.guard = none) (s x : Operand) (hop : o.op = Op.call { callee := Callee.builtin Builtin.append, args := #[s, x], argTypes := #[23, 23] })
    (g : Nat) (hs : a.eval s = .slice (some ⟨g, 0, none⟩) 0 0) (ao : Option Addr) (cap : Nat) (hno : ao = none → cap = 0) (ts : List (Int × Int)) (hx : a.eval x = .slice ao ts.length cap) (hl : ts.length ≤ 1048576) (n : Nat) (hz : TasksIn n X ao ts)
    (hK : ∀ to tc w', FreshT X.heap.size w'.heap.size w' to tc ts → (ts = [] → tc = 0) → X.grownBy w' none → K (a.put o.dst (.slice to ts.length tc)) w') :
    if Region.wanted o (yielded ops a.tmps) = true then Oper.wp Try.prog o a X K Q else E := by
  obtain ⟨i0, hi, hz0, hz1, hz2⟩ := info_parts Try.info34
  cases ao with
  | none =>
    obtain rfl : ts = [] := by rcases hz with h | ⟨b, off, e, _⟩; exact h; cases e
    obtain rfl := hno rfl
    have hrun : (Builtin.append_ #[23, 23] o.type #[.slice (some ⟨g, 0, none⟩) 0 0, .slice none 0 0]).run Try.prog X = .ok (.slice (some ⟨g, 0, none⟩) 0 0) X := by
      simp [Builtin.append_, run_underlying Try.underlying23, sizeOf, typeInfo, hi, Builtin.lenOf, Builtin.firstCells, storeCells]
    rw [if_pos (by simp [Region.wanted, hg])]
    unfold Oper.wp
    simp [execOp, hop, resolve, invoke, builtin, hs, hx, hrun, Result.andThen]
    exact hK (some ⟨g, 0, none⟩) 0 X (.inl rfl) (fun _ => rfl) ⟨rfl, rfl, rfl, Nat.le_refl _, fun _ _ _ => rfl⟩
  | some ad =>
    rcases Nat.eq_zero_or_pos ts.length with h0 | h0
    · obtain rfl : ts = [] := List.length_eq_zero_iff.1 h0
      refine step_append_room hg s x 23 hop 34 i0 2 Try.underlying23 hi hz1 g 0 0 0 hs ad 0 cap [] hx rfl (by simp) (by simp) (by omega) (by simp) ?_
      exact hK (some ⟨g, 0, none⟩) 0 X (.inl rfl) (fun _ => rfl) ⟨rfl, rfl, rfl, Nat.le_refl _, fun _ _ _ => rfl⟩
    · obtain ⟨b, off, e, hb, hc⟩ := hz.pos h0
      cases e
      refine step_append_grows hg s x 23 hop 34 i0 (.agg #[.int .i64 0, .int .i64 0]) 2 16 Try.underlying23 hi hz0 hz1 hz2 rfl (by decide) (some ⟨g, 0, none⟩) 0 0 [] hs (by simp) rfl (by simp) ⟨b, off, none⟩ ts.length cap (tcells ts) hx (tcells_len ts) (tcells_src (Below.refl _ _) hb hc) (tcells_one ts) (by omega) (by unfold maxLen; omega) (by omega) ?_
      intro v' w' hown hgrow
      rw [Nat.zero_add, List.nil_append] at hown
      obtain ⟨g', cap', rfl⟩ := owns_form hown h0
      exact hK _ _ _ (.inr ⟨g', tcells ts, rfl, (owns_lt hown).2, hown, tcells_at ts⟩) (fun e => by subst e; simp at h0) hgrow

theorem step_own3 {ops : Array Oper} {o : Oper} {a : Act} {X : World} {K : Act → World → Prop} {Q : Exit → Act → World → Prop} {E : Prop}
    (hg : o.guard = none) (s x : Operand) (hop : o.op = Op.call { callee := Callee.builtin Builtin.append, args := #[s, x], argTypes := #[24, 24] })
    (g : Nat) (hs : a.eval s = .slice (some ⟨g, 0, none⟩) 0 0) (ao : Option Addr) (cap : Nat) (hno : ao = none → cap = 0) (q : List Int) (hx : a.eval x = .slice ao q.length cap) (hl : q.length ≤ 1048576) (n : Nat) (hz : IntsIn n X ao q)
    (hK : ∀ qo qc w', FreshI X.heap.size w'.heap.size w' qo qc q → (q = [] → qc = 0) → X.grownBy w' none → K (a.put o.dst (.slice qo q.length qc)) w') :
    if Region.wanted o (yielded ops a.tmps) = true then Oper.wp Try.prog o a X K Q else E := by
  obtain ⟨i0, hi, hz0, hz1, hz2⟩ := info_parts Try.info3
  cases ao with
  | none =>
    obtain rfl : q = [] := by rcases hz with h | ⟨b, off, e, _⟩; exact h; cases e
    obtain rfl := hno rfl
    have hrun : (Builtin.append_ #[24, 24] o.type #[.slice (some ⟨g, 0, none⟩) 0 0, .slice none 0 0]).run Try.prog X = .ok (.slice (some ⟨g, 0, none⟩) 0 0) X := by
      simp [Builtin.append_, run_underlying Try.underlying24, sizeOf, typeInfo, hi, Builtin.lenOf, Builtin.firstCells, storeCells]
    rw [if_pos (by simp [Region.wanted, hg])]
    unfold Oper.wp
    simp [execOp, hop, resolve, invoke, builtin, hs, hx, hrun, Result.andThen]
    exact hK (some ⟨g, 0, none⟩) 0 X (.inl rfl) (fun _ => rfl) ⟨rfl, rfl, rfl, Nat.le_refl _, fun _ _ _ => rfl⟩
  | some ad =>
    rcases Nat.eq_zero_or_pos q.length with h0 | h0
    · obtain rfl : q = [] := List.length_eq_zero_iff.1 h0
      refine step_append_room hg s x 24 hop 3 i0 1 Try.underlying24 hi hz1 g 0 0 0 hs ad 0 cap [] hx rfl (by simp) (by simp) (by omega) (by simp) ?_
      exact hK (some ⟨g, 0, none⟩) 0 X (.inl rfl) (fun _ => rfl) ⟨rfl, rfl, rfl, Nat.le_refl _, fun _ _ _ => rfl⟩
    · obtain ⟨b, off, e, hb, hc⟩ := hz.pos h0
      cases e
      refine step_append_grows hg s x 24 hop 3 i0 (.int .i64 0) 1 8 Try.underlying24 hi hz0 hz1 hz2 rfl (by decide) (some ⟨g, 0, none⟩) 0 0 [] hs (by simp) rfl (by simp) ⟨b, off, none⟩ q.length cap (q.map (Value.int .i64)) hx (by simp) (ints_src (Below.refl _ _) hb hc) (by intro v hv; obtain ⟨z, _, rfl⟩ := List.mem_map.1 hv; rfl) (by omega) (by unfold maxLen; omega) (by omega) ?_
      intro v' w' hown hgrow
      rw [Nat.zero_add, List.nil_append] at hown
      obtain ⟨g', cap', rfl⟩ := owns_form hown h0
      exact hK _ _ _ (.inr ⟨g', rfl, (owns_lt hown).2, hown⟩) (fun e => by subst e; simp at h0) hgrow

theorem Below.allocS {a w : World} (h : Below a.heap.size a w) (o : Obj) : Below a.heap.size a (w.alloc o) := h.alloc h.size o
theorem Below.grownS {a w w' : World} (h : Below a.heap.size a w) (hg : w.grownBy w' none) : Below a.heap.size a w' := h.grown hg h.size (fun k e => by cases e)
theorem below_of_grown {w w' : World} (hg : w.grownBy w' none) : Below w.heap.size w w' := (Below.refl _ _).grown hg (Nat.le_refl _) (fun k e => by cases e)

theorem own_keep {W : World} {b0 b1 : Nat} {u0 u1 : Value} (h0 : W.cell? ⟨b0, 0, none⟩ = some u0) (h1 : W.cell? ⟨b0, 1, none⟩ = some u1) (hs : b1 < W.heap.size) : W.drew.cell? ⟨b0, 0, none⟩ = some u0 ∧ W.drew.cell? ⟨b0, 1, none⟩ = some u1 ∧ b1 < W.drew.heap.size := ⟨h0, h1, hs⟩
theorem own_alloc {W : World} {b0 b1 : Nat} {u0 u1 : Value} (h : W.cell? ⟨b0, 0, none⟩ = some u0 ∧ W.cell? ⟨b0, 1, none⟩ = some u1 ∧ b1 < W.heap.size) (o : Obj) : (W.alloc o).cell? ⟨b0, 0, none⟩ = some u0 ∧ (W.alloc o).cell? ⟨b0, 1, none⟩ = some u1 ∧ b1 < (W.alloc o).heap.size :=
  ⟨((below1 W o).cell (World.block_lt_of_cell? _ _ h.1)).trans h.1, ((below1 W o).cell (World.block_lt_of_cell? _ _ h.2.1)).trans h.2.1, by simp; omega⟩
theorem own_grown {W W' : World} {b0 b1 : Nat} {u0 u1 : Value} (h : W.cell? ⟨b0, 0, none⟩ = some u0 ∧ W.cell? ⟨b0, 1, none⟩ = some u1 ∧ b1 < W.heap.size) (hg : W.grownBy W' none) : W'.cell? ⟨b0, 0, none⟩ = some u0 ∧ W'.cell? ⟨b0, 1, none⟩ = some u1 ∧ b1 < W'.heap.size :=
  ⟨((below_of_grown hg).cell (World.block_lt_of_cell? _ _ h.1)).trans h.1, ((below_of_grown hg).cell (World.block_lt_of_cell? _ _ h.2.1)).trans h.2.1, Nat.lt_of_lt_of_le h.2.2 hg.size⟩
theorem own_set {W : World} {b0 b1 : Nat} {u0 u1 : Value} (h : W.cell? ⟨b0, 0, none⟩ = some u0 ∧ W.cell? ⟨b0, 1, none⟩ = some u1 ∧ b1 < W.heap.size) (x y : Addr) (v v' : Value) (hx : b0 ≠ x.block) (hy : b0 ≠ y.block) : ((W.setCell x v).setCell y v').cell? ⟨b0, 0, none⟩ = some u0 ∧ ((W.setCell x v).setCell y v').cell? ⟨b0, 1, none⟩ = some u1 ∧ b1 < ((W.setCell x v).setCell y v').heap.size := by
  have e : ((W.setCell x v).setCell y v').heap[b0]? = W.heap[b0]? := (Below.heap_setCell _ _ _ _ hy).trans (Below.heap_setCell _ _ _ _ hx)
  exact ⟨(World.cell?_of_block (a := ⟨b0, 0, none⟩) e).trans h.1, (World.cell?_of_block (a := ⟨b0, 1, none⟩) e).trans h.2.1, by simpa using h.2.2⟩

set_option maxHeartbeats 4000000 in
theorem l1Own_any (ao : Option Addr) (cap : Nat) (ts : List (Int × Int)) (qo : Option Addr) (qcap : Nat) (q : List Int) (w : World) (hwf : (ao = none → cap = 0) ∧ (qo = none → qcap = 0)) (hl : ts.length ≤ 1048576) (hlq : q.length ≤ 1048576) (hz : TasksIn w.heap.size w ao ts) (hq : IntsIn w.heap.size w qo q) :
    Calls Try.prog 24 #[.agg #[.slice ao ts.length cap, .slice qo q.length qcap]] w fun e w' => (∃ to tc go qc, e = .returned (.agg #[.slice to ts.length tc, .slice go q.length qc]) ∧ FreshT w.heap.size w'.heap.size w' to tc ts ∧ FreshI w.heap.size w'.heap.size w' go qc q ∧ (ts = [] → tc = 0) ∧ (q = [] → qc = 0)) ∧ Below w.heap.size w w' := by
  obtain ⟨W2, hW2⟩ : ∃ W2, W2 = (w.alloc (.cells #[.slice ao ts.length cap, .slice qo q.length qcap] 26)).alloc (.cells #[.slice none 0 0, .slice none 0 0] 26) := ⟨_, rfl⟩
  have hB2 : Below w.heap.size w W2 := by rw [hW2]; exact below2 _ _ _
  have hs2 : W2.heap.size = w.heap.size + 1 + 1 := by rw [hW2]; simp
  have b0 : W2.cell? ⟨w.heap.size, 0, none⟩ = some (.slice ao ts.length cap) := by rw [hW2]; simp [go_sem]
  have b1 : W2.cell? ⟨w.heap.size, 1, none⟩ = some (.slice qo q.length qcap) := by rw [hW2]; simp [go_sem]
  have r0 : W2.cell? ⟨w.heap.size + 1, 0, none⟩ = some (.slice none 0 0) := by rw [hW2]; simp [go_sem]
  have r1 : W2.cell? ⟨w.heap.size + 1, 1, none⟩ = some (.slice none 0 0) := by rw [hW2]; simp [go_sem]
  have f0 : W2.frozen? ⟨w.heap.size + 1, 0, none⟩ = false := by rw [hW2]; simp [go_sem]
  have f1 : W2.frozen? ⟨w.heap.size + 1, 1, none⟩ = false := by rw [hW2]; simp [go_sem]
  have HW : Hid (W2 = (w.alloc (.cells #[.slice ao ts.length cap, .slice qo q.length qcap] 26)).alloc (.cells #[.slice none 0 0, .slice none 0 0] 26)) := hW2
  clear hW2
  have hz2 := hz.later hB2
  have hq2 := hq.later hB2
  go_enter Try.func24, Try.ntmps24
  go_wp2
  rw [← HW.out]
  have HZ : Hid (∀ X, Below W2.heap.size W2 X → TasksIn W2.heap.size X ao ts ∧ IntsIn W2.heap.size X qo q) := fun X h => ⟨hz2.below h, hq2.below h⟩
  clear hz2 hq2
  go_region_held_law (fun X => X.cell? ⟨w.heap.size, 0, none⟩ = some (.slice ao ts.length cap) ∧ X.cell? ⟨w.heap.size, 1, none⟩ = some (.slice qo q.length qcap) ∧ w.heap.size + 1 < X.heap.size) (first
    | assumption
    | exact own_keep b0 b1 (by omega)
    | exact own_alloc (by assumption) _
    | exact own_set (by assumption) _ _ _ _ (by simp) (by simp)
    | exact own_grown (by assumption) (by assumption))
   (first
    | (refine step_own47 rfl (.tmp 3) (.tmp 5) rfl _ (by rfl) ao cap hwf.1 ts (by rfl) hl _ (HZ.out _ (by repeat (first | assumption | exact Below.refl _ _ | refine Below.allocS ?_ _ | refine Below.drew ?_))).1 ?_; intro to tc w5 hT5 hT0 hg5; have hB5 : Below W2.heap.size W2 w5 := Below.grownS (by repeat (first | assumption | exact Below.refl _ _ | refine Below.allocS ?_ _ | refine Below.drew ?_)) hg5; have m50 : w5.cell? ⟨w.heap.size + 1, 0, none⟩ = some (.slice none 0 0) := (hB5.cell (p := ⟨w.heap.size + 1, 0, none⟩) (by simp [hs2])).trans r0; have m51 : w5.cell? ⟨w.heap.size + 1, 1, none⟩ = some (.slice none 0 0) := (hB5.cell (p := ⟨w.heap.size + 1, 1, none⟩) (by simp [hs2])).trans r1; have n50 : w5.frozen? ⟨w.heap.size + 1, 0, none⟩ = false := (hB5.frozen (p := ⟨w.heap.size + 1, 0, none⟩) (by simp [hs2])).trans f0; have n51 : w5.frozen? ⟨w.heap.size + 1, 1, none⟩ = false := (hB5.frozen (p := ⟨w.heap.size + 1, 1, none⟩) (by simp [hs2])).trans f1)
    | (refine step_own3 rfl (.tmp 7) (.tmp 9) rfl _ (by rfl) qo qcap hwf.2 q (by rfl) hlq _ (HZ.out _ (by repeat (first | assumption | exact Below.refl _ _ | refine Below.allocS ?_ _ | refine Below.drew ?_))).2 ?_; intro go qc w6 hI6 hI0 hg6; have hB6 : Below W2.heap.size W2 w6 := Below.grownS (by repeat (first | assumption | exact Below.refl _ _ | refine Below.allocS ?_ _ | refine Below.drew ?_)) hg6; have m60 : w6.cell? ⟨w.heap.size + 1, 0, none⟩ = some (.slice none 0 0) := (hB6.cell (p := ⟨w.heap.size + 1, 0, none⟩) (by simp [hs2])).trans r0; have m61 : w6.cell? ⟨w.heap.size + 1, 1, none⟩ = some (.slice none 0 0) := (hB6.cell (p := ⟨w.heap.size + 1, 1, none⟩) (by simp [hs2])).trans r1; have n60 : w6.frozen? ⟨w.heap.size + 1, 0, none⟩ = false := (hB6.frozen (p := ⟨w.heap.size + 1, 0, none⟩) (by simp [hs2])).trans f0; have n61 : w6.frozen? ⟨w.heap.size + 1, 1, none⟩ = false := (hB6.frozen (p := ⟨w.heap.size + 1, 1, none⟩) (by simp [hs2])).trans f1))
  all_goals
    have hb56 : Below w5.heap.size w5 w6 := by
      first
      | exact below_of_grown hg6
      | exact (below1 _ _).trans ((below_of_grown hg6).mono (by simp))
    have hs5 := hB5.size
    have hF1 : FreshT (w.heap.size + 1 + 1) w6.heap.size w6 to tc ts := (hT5.later hb56).wide (by have := hs2; simp; omega) hb56.size
    have hF2 : FreshI (w.heap.size + 1 + 1) w6.heap.size w6 go qc q := hI6.wide (by have := hs2; simp; omega) (Nat.le_refl _)
    have hF3 : Below w.heap.size w w6 := hB2.trans (hB6.mono hB2.size)
    have HF : Hid (FreshT (w.heap.size + 1 + 1) w6.heap.size w6 to tc ts ∧ FreshI (w.heap.size + 1 + 1) w6.heap.size w6 go qc q ∧ (ts = [] → tc = 0) ∧ (q = [] → qc = 0)) := ⟨hF1, hF2, hT0, hI0⟩
    clear hF1 hF2 hT0 hI0 hT5 hI6 hg5 hg6
    go_wp2
    refine bodyPost_ret (v := .agg #[.slice to ts.length tc, .slice go q.length qc]) (by simp [results, Try.results24, go_sem, m60, m61]) rfl ⟨⟨to, tc, go, qc, rfl, ?_, ?_, HF.out.2.2⟩, ?_⟩
    · exact ((HF.out.1.setBelow (a := ⟨w.heap.size + 1, 0, none⟩) (by simp) _).setBelow (a := ⟨w.heap.size + 1, 1, none⟩) (by simp) _).wide (by omega) (by simp)
    · exact ((HF.out.2.1.setBelow (a := ⟨w.heap.size + 1, 0, none⟩) (by simp) _).setBelow (a := ⟨w.heap.size + 1, 1, none⟩) (by simp) _).wide (by omega) (by simp)
    · exact (hF3.setCell (p := ⟨w.heap.size + 1, 0, none⟩) (by simp) _).setCell (p := ⟨w.heap.size + 1, 1, none⟩) (by simp) _
end Go.Proofs.Ytgbnbnjfaffaiaa.Old
