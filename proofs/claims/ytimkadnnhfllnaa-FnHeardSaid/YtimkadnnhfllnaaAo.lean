
/- Putting behind a row: where the row lies then. No conditions but those written. -/
import Derived.Test.YtimkadnnhfllnaaBx
namespace Go.Proofs.Ytimkadnnhfllnaa
open Go.RowKit

theorem Bx.grown {W W' : World} {p g : Nat} {us : List Value} (h : Bx W p us) (hg : W.grownBy W' (some g)) (hne : p ≠ g) : Bx W' p us := h.keep hg.size (hg.block p h.1 (by simpa using hne))
section
variable {α : Type} {K : Kind α}
/-- Elements are put behind a row of its own that is not nil: it stays in its block, or lies in a new one. -/
theorem Kind.appO [Inhabited α] (hK : K.Ok) {ops : Array Oper} {rest : List Oper} {o : Oper} {a : Act} {Q : Exit → Act → World → Prop} (W : World) (hg : o.guard = none) (s x : Operand) (hop : o.op = Op.call { callee := Callee.builtin Builtin.append, args := #[s, x], argTypes := #[K.st, K.st] })
    (lo g n cap : Nat) (xs : List α) (hs : a.eval s = .slice (some ⟨g, 0, none⟩) n cap) (hown : K.Own lo W (.slice (some ⟨g, 0, none⟩) n cap) xs) (hlo : lo ≤ W.heap.size)
    (ao : Option Addr) (ys : List α) (m c : Nat) (hx : a.eval x = .slice ao m c) (hm : ys.length = m) (hno : ao = none → c = 0) (N : Nat) (hz : K.In N W ao ys) (hl : xs.length + ys.length ≤ 4194304) (zs : List α) (hzs : zs = xs ++ ys)
    (hk : ∀ g' c' w', K.Own lo w' (.slice (some ⟨g', 0, none⟩) zs.length c') zs → Below lo W w' → W.grownBy w' (some g) → (g' = g ∨ W.heap.size ≤ g') → wpList Try.prog ops Q rest (a.put o.dst (.slice (some ⟨g', 0, none⟩) zs.length c')) w') :
    wpList Try.prog ops Q (o :: rest) a W := by
  subst hzs
  obtain ⟨i0, z0, hin, hz0, hz1, hz2, hz3⟩ := hK.info
  obtain ⟨g2, c2, e2, _⟩ := Kind.Own.some hown some_ne
  simp at e2
  obtain ⟨rfl, rfl, rfl⟩ := e2
  cases ao with
  | none =>
    have hy : ys = [] := by rcases hz with h | ⟨b, off, e, _⟩; exact h; cases e
    subst hy
    have hc := hno rfl
    subst hc hm
    have hrun := run_append_owned_none (P := Try.prog) W lo K.st o.type K.ty i0 K.sz hK.und hin _ xs.length (K.flat xs) hown
    refine wpList_plain hg fun K' hK' => ?_
    unfold Oper.wp
    simp [execOp, hop, resolve, invoke, builtin, hs, hx, hrun, Result.andThen]
    have h := hk g cap W (by simpa using hown) (Below.refl _ _) ⟨rfl, rfl, rfl, Nat.le_refl _, fun _ _ _ => rfl⟩ (.inl rfl)
    simp only [List.append_nil] at h
    exact hK' _ _ h
  | some ad =>
    subst hm
    have hb : (xs.length + ys.length) * i0.bytes ≤ 140737488355328 := by
      have : (xs.length + ys.length) * i0.bytes ≤ 4194304 * 4096 := Nat.mul_le_mul hl hz3
      omega
    have hml : xs.length + ys.length ≤ maxLen := by unfold maxLen; omega
    obtain ⟨v', w', hr, h2, h3, h4⟩ := run_append_own (P := Try.prog) W lo K.st o.type K.ty i0 z0 K.sz i0.bytes hK.und hin hz0 hz1 rfl hz2 hK.pos _ xs.length (K.flat xs) hown ad ys.length c (K.flat ys) (K.flat_len ys) hz.src (K.flat_one ys) hml hb hlo
    have hwhere : ∃ g' c', v' = .slice (some ⟨g', 0, none⟩) (xs.length + ys.length) c' ∧ (g' = g ∨ W.heap.size ≤ g') := by
      by_cases hroom : xs.length + ys.length ≤ cap
      · obtain ⟨cur, hcur, hcl, _⟩ := owns_open hown
        have hr2 := run_append_room (P := Try.prog) W K.st o.type K.ty i0 hK.und hin g xs.length cap cur.toArray hcur ad ys.length c (K.flat ys) (by rw [hz1]; exact K.flat_len ys) hz.src (K.flat_one ys) hroom (by rw [hz1, K.flat_len, ← Nat.add_mul]; simp only [List.size_toArray, hcl]; exact Nat.mul_le_mul_right _ hroom)
        rw [hr] at hr2
        injection hr2 with e1 _
        exact ⟨g, cap, e1, .inl rfl⟩
      · have holds : ∀ j u, (K.flat xs)[j]? = some u → W.cell? ((⟨g, 0, none⟩ : Addr).add j) = some u := World.ownsRow.cells (g := g) hown rfl
        have hr2 := run_append_grow (P := Try.prog) W K.st o.type K.ty i0 z0 hK.und hin hz0 ⟨g, 0, none⟩ xs.length cap (K.flat xs) (by rw [hz1]; exact K.flat_len xs) holds ad ys.length c (K.flat ys) (by rw [hz1]; exact K.flat_len ys) hz.src (by omega) (by omega) (growslice_fits (by omega) hb)
        rw [hr] at hr2
        injection hr2 with e1 _
        exact ⟨_, _, e1, .inr (Nat.le_refl _)⟩
    obtain ⟨g', c', rfl, hw⟩ := hwhere
    refine wpList_plain hg fun K' hK' => ?_
    unfold Oper.wp execOp
    simp only [hop, resolve, invoke, builtin, Sem.run_bind, Sem.run_pure, Result.andThen_ok, List.map_toArray, List.map_cons, List.map_nil, hs, hx, hr]
    have ho' : K.Own lo w' (.slice (some ⟨g', 0, none⟩) (xs ++ ys).length c') (xs ++ ys) := by unfold Kind.Own; rw [K.flat_app, List.length_append]; exact h2
    have h := hk g' c' w' ho' (hown.belowG h3 hlo) h3 hw
    rw [List.length_append] at h
    exact hK' _ _ h
/-- Elements are put behind a row of its own (nil or not), at one operation. -/
theorem Kind.appW [Inhabited α] (hK : K.Ok) {o : Oper} {a : Act} {K' : Act → World → Prop} {Q : Exit → Act → World → Prop} (W : World) (s x : Operand) (hop : o.op = Op.call { callee := Callee.builtin Builtin.append, args := #[s, x], argTypes := #[K.st, K.st] })
    (lo : Nat) (v : Value) (xs : List α) (hs : a.eval s = v) (hown : K.Own lo W v xs) (hlo : lo ≤ W.heap.size)
    (ao : Option Addr) (ys : List α) (m c : Nat) (hx : a.eval x = .slice ao m c) (hm : ys.length = m) (hno : ao = none → c = 0) (n : Nat) (hz : K.In n W ao ys) (hl : xs.length + ys.length ≤ 4194304)
    (hk : ∀ v' w', K.Own lo w' v' (xs ++ ys) → Below lo W w' → W.grownBy w' v.ownBlock → (v ≠ .slice none 0 0 → v' ≠ .slice none 0 0) → K' (a.put o.dst v') w') :
    Oper.wp Try.prog o a W K' Q := by
  obtain ⟨i0, z0, hin, hz0, hz1, hz2, hz3⟩ := hK.info
  cases ao with
  | none =>
    have hy : ys = [] := by rcases hz with h | ⟨b, off, e, _⟩; exact h; cases e
    subst hy
    have hc := hno rfl
    subst hc hm
    have hrun := run_append_owned_none (P := Try.prog) W lo K.st o.type K.ty i0 K.sz hK.und hin v xs.length (K.flat xs) hown
    unfold Oper.wp
    simp [execOp, hop, resolve, invoke, builtin, hs, hx, hrun, Result.andThen]
    exact hk v W (by simpa using hown) (Below.refl _ _) ⟨rfl, rfl, rfl, Nat.le_refl _, fun _ _ _ => rfl⟩ id
  | some ad =>
    subst hm
    have hb : (xs.length + ys.length) * i0.bytes ≤ 140737488355328 := by
      have : (xs.length + ys.length) * i0.bytes ≤ 4194304 * 4096 := Nat.mul_le_mul hl hz3
      omega
    obtain ⟨v', w', hr, h2, h3, h4⟩ := run_append_own (P := Try.prog) W lo K.st o.type K.ty i0 z0 K.sz i0.bytes hK.und hin hz0 hz1 rfl hz2 hK.pos v xs.length (K.flat xs) hown ad ys.length c (K.flat ys) (K.flat_len ys) hz.src (K.flat_one ys) (by unfold maxLen; omega) hb hlo
    unfold Oper.wp execOp
    simp only [hop, resolve, invoke, builtin, Sem.run_bind, Sem.run_pure, Result.andThen_ok, List.map_toArray, List.map_cons, List.map_nil, hs, hx, hr]
    refine hk v' w' ?_ (hown.belowG h3 hlo) h3 fun hv e => hv (h4.1 e).1
    unfold Kind.Own
    rw [K.flat_app, List.length_append]; exact h2
/-- .. at a step of a region that draws its order. -/
theorem Kind.appS [Inhabited α] (hK : K.Ok) {ops : Array Oper} {o : Oper} {a : Act} {K' : Act → World → Prop} {Q : Exit → Act → World → Prop} {E : Prop} (W : World) (hg : o.guard = none) (s x : Operand) (hop : o.op = Op.call { callee := Callee.builtin Builtin.append, args := #[s, x], argTypes := #[K.st, K.st] })
    (lo : Nat) (v : Value) (xs : List α) (hs : a.eval s = v) (hown : K.Own lo W v xs) (hlo : lo ≤ W.heap.size)
    (ao : Option Addr) (ys : List α) (m c : Nat) (hx : a.eval x = .slice ao m c) (hm : ys.length = m) (hno : ao = none → c = 0) (n : Nat) (hz : K.In n W ao ys) (hl : xs.length + ys.length ≤ 4194304)
    (hk : ∀ v' w', K.Own lo w' v' (xs ++ ys) → Below lo W w' → W.grownBy w' v.ownBlock → (v ≠ .slice none 0 0 → v' ≠ .slice none 0 0) → K' (a.put o.dst v') w') :
    if Region.wanted o (yielded ops a.tmps) = true then Oper.wp Try.prog o a W K' Q else E := by
  rw [if_pos (by simp [Region.wanted, hg])]
  exact Kind.appW hK W s x hop lo v xs hs hown hlo ao ys m c hx hm hno n hz hl hk
/-- Elements are put behind a row of its own, nil or not: it stays in its block, or lies in a new one. -/
theorem Kind.appN [Inhabited α] (hK : K.Ok) {ops : Array Oper} {rest : List Oper} {o : Oper} {a : Act} {Q : Exit → Act → World → Prop} (W : World) (hg : o.guard = none) (s x : Operand) (hop : o.op = Op.call { callee := Callee.builtin Builtin.append, args := #[s, x], argTypes := #[K.st, K.st] })
    (lo : Nat) (v : Value) (xs : List α) (hs : a.eval s = v) (hown : K.Own lo W v xs) (hlo : lo ≤ W.heap.size)
    (ao : Option Addr) (ys : List α) (m c : Nat) (hx : a.eval x = .slice ao m c) (hm : ys.length = m) (hno : ao = none → c = 0) (n : Nat) (hz : K.In n W ao ys) (hl : xs.length + ys.length ≤ 4194304)
    (hk : ∀ v' w', K.Own lo w' v' (xs ++ ys) → Below lo W w' → W.grownBy w' v.ownBlock → (∀ g, v'.ownBlock = some g → v.ownBlock = some g ∨ W.heap.size ≤ g) → wpList Try.prog ops Q rest (a.put o.dst v') w') :
    wpList Try.prog ops Q (o :: rest) a W := by
  rcases hown.2 with ⟨e, h0⟩ | ⟨g, cap, cur, e, hb, hh, r⟩
  · have hxs : xs = [] := List.length_eq_zero_iff.1 h0
    subst hxs e
    refine Kind.app hK W hg s x hop W.heap.size (.slice none 0 0) [] hs (Kind.Own.nil _ _ _) (Nat.le_refl _) ao ys m c hx hm hno n hz hl fun v' w' hO hB hG _ => ?_
    refine hk v' w' ?_ (hB.mono hlo) hG fun g hg => .inr (hO.low g hg)
    rcases hO.2 with h | ⟨g, cap, cur, hv, hb, r⟩
    · exact ⟨hO.1, .inl h⟩
    · exact ⟨hO.1, .inr ⟨g, cap, cur, hv, Nat.le_trans hlo hb, r⟩⟩
  · subst e
    refine Kind.appO hK W hg s x hop lo g xs.length cap xs hs hown hlo ao ys m c hx hm hno n hz hl _ rfl fun g' c' w' hO hB hG hw => ?_
    refine hk _ w' hO hB hG fun b hb => ?_
    simp [Value.ownBlock] at hb ⊢
    subst hb
    rcases hw with h | h
    · exact .inl h.symm
    · exact .inr h
end
end Go.Proofs.Ytimkadnnhfllnaa
