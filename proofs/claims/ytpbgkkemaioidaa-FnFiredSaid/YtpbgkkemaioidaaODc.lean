
/- The specification's own copy of a clock, and a clock without one timer. No conditions but those written. -/
import Derived.Test.YtpbgkkemaioidaaODb
import Derived.ArgAppend
import Derived.OwnWalk
namespace Go.Proofs.Ytpbgkkemaioidaa.Old
open Go.RowKit

/-- v is a row of its own, from lo on, that holds the timers xs. -/
def OwnV (lo : Nat) (W : World) (v : Value) (xs : List T3) : Prop := W.ownsRow lo 49 3 v xs.length (tcells xs)
/-- nil, or a row from its start on. -/
def Wf (to : Option Addr) (tc : Nat) : Prop := (to = none ∧ tc = 0) ∨ ∃ g, to = some ⟨g, 0, none⟩
theorem OwnV.nil (lo : Nat) (W : World) : OwnV lo W (.slice none 0 0) [] := World.ownsRow_nil _ _ _ _
theorem OwnV.fresh {lo : Nat} {W : World} {v : Value} {xs : List T3} (h : OwnV lo W v xs) : ∃ to tc, v = .slice to xs.length tc ∧ FreshC lo W.heap.size W to tc xs ∧ Wf to tc := by
  rcases h.2 with ⟨e, h0⟩ | ⟨g, cap, cur, e, _⟩
  · have : xs = [] := List.length_eq_zero_iff.1 h0
    subst this
    exact ⟨none, 0, e, .inl rfl, .inl ⟨rfl, rfl⟩⟩
  · refine ⟨some ⟨g, 0, none⟩, cap, e, .inr ⟨g, tcells xs, rfl, ?_, ?_, tcells_at xs⟩, .inr ⟨g, rfl⟩⟩
    · unfold OwnV at h; rw [e] at h; exact (owns_lt h).2
    · unfold OwnV at h; rw [e] at h; exact h
theorem OwnV.below {lo : Nat} {W W' : World} {v : Value} {xs : List T3} (h : OwnV lo W v xs) (hb : Below W.heap.size W W') : OwnV lo W' v xs := ownsRow_below h hb
theorem OwnV.low {lo : Nat} {W : World} {v : Value} {xs : List T3} (h : OwnV lo W v xs) : ∀ k, v.ownBlock = some k → lo ≤ k := by
  rcases h.2 with ⟨e, _⟩ | ⟨g, cap, cur, e, hb, hh, _⟩
  · subst e; intro k h; simp [Value.ownBlock] at h
  · subst e; intro k h; simp [Value.ownBlock] at h; omega
theorem OwnV.grown {lo : Nat} {W W' : World} {v : Value} {xs : List T3} (h : OwnV lo W v xs) (hg : W.grownBy W' v.ownBlock) (k : Nat) (hk : k < lo) (hk2 : k < W.heap.size) : W'.heap[k]? = W.heap[k]? :=
  hg.block k hk2 (fun e => by have := h.low k e.symm; omega)
theorem OwnV.belowG {lo : Nat} {W W' : World} {v : Value} {xs : List T3} (h : OwnV lo W v xs) (hg : W.grownBy W' v.ownBlock) (hlo : lo ≤ W.heap.size) : Below lo W W' :=
  ⟨hg.os, hg.tape, hg.output, hg.size, fun k hk => h.grown hg k hk (by omega)⟩

theorem wpList_app51 {ops : Array Oper} {rest : List Oper} {o : Oper} {a : Act} {Q : Exit → Act → World → Prop} (W : World) (hg : o.guard = none) (s x : Operand) (hop : o.op = Op.call { callee := Callee.builtin Builtin.append, args := #[s, x], argTypes := #[23, 23] })
    (lo : Nat) (v : Value) (xs : List T3) (hs : a.eval s = v) (hown : OwnV lo W v xs) (hlo : lo ≤ W.heap.size)
    (ad : Addr) (ys : List T3) (m c : Nat) (hx : a.eval x = .slice (some ad) m c) (hm : ys.length = m) (n : Nat) (hz : TimersIn n W (some ad) ys) (hl : xs.length + ys.length ≤ 4194304)
    (hK : ∀ v' w', OwnV lo w' v' (xs ++ ys) → Below lo W w' → W.grownBy w' v.ownBlock → (v' = .slice none 0 0 ↔ v = .slice none 0 0 ∧ m = 0) → wpList Try.prog ops Q rest (a.put o.dst v') w') :
    wpList Try.prog ops Q (o :: rest) a W := by
  subst hm
  obtain ⟨i0, hin, hz0, hz1, hz2⟩ := info_parts Try.info49
  have hsrc : ∀ j u, (tcells ys)[j]? = some u → W.cell? (ad.add j) = some u := by
    rcases hz with rfl | ⟨b, off, e, hb, hc⟩
    · intro j u h; simp [tcells] at h
    · cases e; exact tcells_src (Below.refl _ _) hb hc
  refine wpList_append_own W hg s x 23 hop lo 49 i0 (.agg #[.int .i64 0, .int .i64 0, .int .i64 0]) 3 24 Try.underlying23 hin hz0 hz1 hz2 rfl (by decide) v xs.length (tcells xs) hs hown ad ys.length c (tcells ys) hx (tcells_len ys) hsrc (tcells_one ys) (by unfold maxLen; omega) (by omega) hlo ?_
  intro v' w' ho hgr hnil
  refine hK v' w' ?_ (hown.belowG hgr hlo) hgr hnil
  unfold OwnV
  rw [tcells_app, List.length_append]; exact ho

theorem wpList_app51o {ops : Array Oper} {rest : List Oper} {o : Oper} {a : Act} {Q : Exit → Act → World → Prop} (W : World) (hg : o.guard = none) (s x : Operand) (hop : o.op = Op.call { callee := Callee.builtin Builtin.append, args := #[s, x], argTypes := #[23, 23] })
    (lo : Nat) (v : Value) (xs : List T3) (hs : a.eval s = v) (hown : OwnV lo W v xs) (hlo : lo ≤ W.heap.size)
    (ao : Option Addr) (ys : List T3) (m c : Nat) (hx : a.eval x = .slice ao m c) (hm : ys.length = m) (hno : ao = none → c = 0) (n : Nat) (hz : TimersIn n W ao ys) (hl : xs.length + ys.length ≤ 4194304)
    (hK : ∀ v' w', OwnV lo w' v' (xs ++ ys) → Below lo W w' → W.grownBy w' v.ownBlock → (v' = .slice none 0 0 ↔ v = .slice none 0 0 ∧ m = 0) → wpList Try.prog ops Q rest (a.put o.dst v') w') :
    wpList Try.prog ops Q (o :: rest) a W := by
  cases ao with
  | none =>
    subst hm
    obtain ⟨i0, hin, hz0, hz1, hz2⟩ := info_parts Try.info49
    have hy : ys = [] := by rcases hz with h | ⟨b, off, e, _⟩; exact h; cases e
    subst hy
    have hc := hno rfl
    subst hc
    have hrun := run_append_owned_none (P := Try.prog) W lo 23 o.type 49 i0 3 Try.underlying23 hin v xs.length (tcells xs) hown
    refine wpList_plain hg fun K' hK' => ?_
    unfold Oper.wp
    simp [execOp, hop, resolve, invoke, builtin, hs, hx, hrun, Result.andThen]
    exact hK' _ _ (hK v W (by simpa using hown) (Below.refl _ _) ⟨rfl, rfl, rfl, Nat.le_refl _, fun _ _ _ => rfl⟩ ⟨fun h => ⟨h, rfl⟩, fun h => h.1⟩)
  | some ad => exact wpList_app51 W hg s x hop lo v xs hs hown hlo ad ys m c hx hm n hz hl hK

theorem TimersIn.take {n : Nat} {W : World} {ao : Option Addr} {ts : List T3} (h : TimersIn n W ao ts) (k : Nat) : TimersIn n W ao (ts.take k) := by
  rcases h with rfl | ⟨b, off, e, hb, hc⟩
  · exact .inl (by simp)
  · refine .inr ⟨b, off, e, hb, fun j hj => ?_⟩
    have hj' : j < k ∧ j < ts.length := by simp at hj; omega
    have : t3 (ts.take k) j = t3 ts j := by simp [t3, hj'.1]
    rw [this]; exact hc j hj'.2
theorem TimersIn.drop {n : Nat} {W : World} {b off : Nat} {ts : List T3} (h : TimersIn n W (some ⟨b, off, none⟩) ts) (k : Nat) : TimersIn n W (some ⟨b, off + k * 3, none⟩) (ts.drop k) := by
  rcases h with rfl | ⟨b', off', e, hb, hc⟩
  · exact .inl (by simp)
  · simp at e
    obtain ⟨rfl, rfl⟩ := e
    refine .inr ⟨b, off + k * 3, rfl, hb, fun j hj => ?_⟩
    have hj' : k + j < ts.length := by simp at hj; omega
    have : t3 (ts.drop k) j = t3 ts (k + j) := by simp [t3]
    rw [this, show off + k * 3 + j * 3 = off + (k + j) * 3 from by omega]; exact hc (k + j) hj'

set_option maxRecDepth 10000 in
set_option maxHeartbeats 2000000 in
theorem l2Own_any (now sq : Int) (ao : Option Addr) (cap : Nat) (ts : List T3) (w : World) (hwf : ao = none → cap = 0) (hl : ts.length ≤ 1048576) (hz : TimersIn w.heap.size w ao ts) :
    Calls Try.prog 18 #[.agg #[.int .i64 now, .int .i64 sq, .slice ao ts.length cap]] w fun e w' => (∃ to tc, e = .returned (.agg #[.int .i64 now, .int .i64 sq, .slice to ts.length tc]) ∧ FreshC w.heap.size w'.heap.size w' to tc ts ∧ ∃ g, to = some ⟨g, 0, none⟩) ∧ Below w.heap.size w w' := by
  obtain ⟨W2, hW2⟩ : ∃ W2, W2 = (w.alloc (.cells #[.int .i64 now, .int .i64 sq, .slice ao ts.length cap] 25)).alloc (.cells #[.int .i64 0, .int .i64 0, .slice none 0 0] 25) := ⟨_, rfl⟩
  have hB2 : Below w.heap.size w W2 := by rw [hW2]; exact below2 _ _ _
  have hs2 : W2.heap.size = w.heap.size + 1 + 1 := by rw [hW2]; simp
  have b0 : W2.cell? ⟨w.heap.size, 0, none⟩ = some (.int .i64 now) := by rw [hW2]; simp [go_sem]
  have b1 : W2.cell? ⟨w.heap.size, 1, none⟩ = some (.int .i64 sq) := by rw [hW2]; simp [go_sem]
  have b2 : W2.cell? ⟨w.heap.size, 2, none⟩ = some (.slice ao ts.length cap) := by rw [hW2]; simp [go_sem]
  have bf : W2.frozen? ⟨w.heap.size, 2, none⟩ = false := by rw [hW2]; simp [go_sem]
  have r0 : W2.cell? ⟨w.heap.size + 1, 0, none⟩ = some (.int .i64 0) := by rw [hW2]; simp [go_sem]
  have r1 : W2.cell? ⟨w.heap.size + 1, 1, none⟩ = some (.int .i64 0) := by rw [hW2]; simp [go_sem]
  have r2 : W2.cell? ⟨w.heap.size + 1, 2, none⟩ = some (.slice none 0 0) := by rw [hW2]; simp [go_sem]
  have f0 : W2.frozen? ⟨w.heap.size + 1, 0, none⟩ = false := by rw [hW2]; simp [go_sem]
  have f1 : W2.frozen? ⟨w.heap.size + 1, 1, none⟩ = false := by rw [hW2]; simp [go_sem]
  have f2 : W2.frozen? ⟨w.heap.size + 1, 2, none⟩ = false := by rw [hW2]; simp [go_sem]
  have HW : Hid (W2 = (w.alloc (.cells #[.int .i64 now, .int .i64 sq, .slice ao ts.length cap] 25)).alloc (.cells #[.int .i64 0, .int .i64 0, .slice none 0 0] 25)) := hW2
  have l0 : w.heap.size < w.heap.size + 1 + 1 := by omega
  have l1 : w.heap.size + 1 < w.heap.size + 1 + 1 := by omega
  have HZ : Hid (TimersIn W2.heap.size W2 ao ts) := hz.later hB2
  have HE : Hid (OwnV (w.heap.size + 1 + 1) (W2.alloc (.cells #[] 49)) (.slice (some ⟨w.heap.size + 1 + 1, 0, none⟩) 0 0) []) := by
    refine ⟨rfl, .inr ⟨w.heap.size + 1 + 1, 0, #[], rfl, Nat.le_refl _, ?_, Nat.le_refl _, by unfold maxLen; omega, rfl, rfl⟩⟩
    rw [← hs2]; show (W2.heap.push _)[W2.heap.size]? = _; simp
  clear hW2 hz
  go_enter Try.func18, Try.ntmps18
  go_wp2_with (at_builtin; rw [← HW.out]; refine wpList_app51o (W2.alloc (.cells #[] 49)) rfl (.tmp 3) (.tmp 5) rfl (w.heap.size + 1 + 1) (.slice (some ⟨w.heap.size + 1 + 1, 0, none⟩) 0 0) [] rfl HE.out (by simp; omega) ao ts ts.length cap rfl rfl hwf _ (HZ.out.below (below1 _ _)) (by simp; omega) ?_; intro v4 w4 hO4 hB4 hg4 hn4; have hBW : Below (w.heap.size + 1 + 1) W2 w4 := ((below1 W2 _).mono (by omega)).trans hB4; have HO4 : Hid (OwnV (w.heap.size + 1 + 1) w4 v4 ts ∧ Below (w.heap.size + 1 + 1) W2 w4 ∧ v4 ≠ .slice none 0 0) := ⟨by simpa using hO4, hBW, fun e => by simpa using hn4.1 e⟩; have d0 := (hBW.cell (p := ⟨w.heap.size, 0, none⟩) l0).trans b0; have d1 := (hBW.cell (p := ⟨w.heap.size, 1, none⟩) l0).trans b1; have d2 := (hBW.cell (p := ⟨w.heap.size, 2, none⟩) l0).trans b2; have df := (hBW.frozen (p := ⟨w.heap.size, 2, none⟩) l0).trans bf; obtain ⟨to, tc, rfl, _, _⟩ := HO4.out.1.fresh; have m0 := (hBW.cell (p := ⟨w.heap.size + 1, 0, none⟩) l1).trans r0; have m1 := (hBW.cell (p := ⟨w.heap.size + 1, 1, none⟩) l1).trans r1; have m2 := (hBW.cell (p := ⟨w.heap.size + 1, 2, none⟩) l1).trans r2; have n0 := (hBW.frozen (p := ⟨w.heap.size + 1, 0, none⟩) l1).trans f0; have n1 := (hBW.frozen (p := ⟨w.heap.size + 1, 1, none⟩) l1).trans f1; have n2 := (hBW.frozen (p := ⟨w.heap.size + 1, 2, none⟩) l1).trans f2; clear hO4 hg4 hn4 hB4 hBW)
  obtain ⟨to', tc', e', hF, hwf⟩ := HO4.out.1.fresh
  simp only [Value.slice.injEq, true_and] at e'
  obtain ⟨rfl, rfl⟩ := e'
  have hBe := hB2.trans (HO4.out.2.1.mono (by omega))
  refine bodyPost_ret (v := .agg #[.int .i64 now, .int .i64 sq, .slice to ts.length tc]) (by simp [results, Try.results18, go_sem, m0, m1, m2]) rfl ⟨⟨to, tc, rfl, ?_, ?_⟩, ?_⟩
  · exact ((((hF.setBelow (a := ⟨w.heap.size, 2, none⟩) l0 _).setBelow (a := ⟨w.heap.size + 1, 0, none⟩) l1 _).setBelow (a := ⟨w.heap.size + 1, 1, none⟩) l1 _).setBelow (a := ⟨w.heap.size + 1, 2, none⟩) l1 _).wide (by omega) (by simp)
  · rcases HO4.out.1.2 with ⟨e, h0⟩ | ⟨g, cap, cur, e, _⟩
    · exact absurd e HO4.out.2.2
    · simp at e; exact ⟨g, e.1⟩
  · exact (((hBe.setCell (p := ⟨w.heap.size, 2, none⟩) (by simp) _).setCell (p := ⟨w.heap.size + 1, 0, none⟩) (by simp) _).setCell (p := ⟨w.heap.size + 1, 1, none⟩) (by simp) _).setCell (p := ⟨w.heap.size + 1, 2, none⟩) (by simp) _

set_option maxHeartbeats 2000000 in
theorem l2Stop_any (now sq : Int) (b off : Nat) (cap : Nat) (ts : List T3) (k : Nat) (w : World) (hl : ts.length ≤ 1048576) (hk : k < ts.length) (hcap : ts.length ≤ cap) (hz : TimersIn w.heap.size w (some ⟨b, off, none⟩) ts) (R : List T3) (hR : R = ts.take k ++ ts.drop (k + 1)) :
    Calls Try.prog 31 #[.agg #[.int .i64 now, .int .i64 sq, .slice (some ⟨b, off, none⟩) ts.length cap], .int .i64 (k : Int)] w fun e w' => (∃ to tc, e = .returned (.agg #[.int .i64 now, .int .i64 sq, .slice to R.length tc]) ∧ FreshC w.heap.size w'.heap.size w' to tc R ∧ Wf to tc ∧ (R = [] → tc = 0)) ∧ Below w.heap.size w w' := by
  have hkc : (k : Int) ≤ (cap : Int) := by omega
  have hkl : (k : Int) + 1 ≤ (ts.length : Int) := by omega
  obtain ⟨W2, hW2⟩ : ∃ W2, W2 = (w.alloc (.cells #[.int .i64 now, .int .i64 sq, .slice (some ⟨b, off, none⟩) ts.length cap] 25)).alloc (.cells #[.int .i64 0, .int .i64 0, .slice none 0 0] 25) := ⟨_, rfl⟩
  have hB2 : Below w.heap.size w W2 := by rw [hW2]; exact below2 _ _ _
  have hs2 : W2.heap.size = w.heap.size + 1 + 1 := by rw [hW2]; simp
  have b0 : W2.cell? ⟨w.heap.size, 0, none⟩ = some (.int .i64 now) := by rw [hW2]; simp [go_sem]
  have b1 : W2.cell? ⟨w.heap.size, 1, none⟩ = some (.int .i64 sq) := by rw [hW2]; simp [go_sem]
  have b2 : W2.cell? ⟨w.heap.size, 2, none⟩ = some (.slice (some ⟨b, off, none⟩) ts.length cap) := by rw [hW2]; simp [go_sem]
  have bf : W2.frozen? ⟨w.heap.size, 2, none⟩ = false := by rw [hW2]; simp [go_sem]
  have r0 : W2.cell? ⟨w.heap.size + 1, 0, none⟩ = some (.int .i64 0) := by rw [hW2]; simp [go_sem]
  have r1 : W2.cell? ⟨w.heap.size + 1, 1, none⟩ = some (.int .i64 0) := by rw [hW2]; simp [go_sem]
  have r2 : W2.cell? ⟨w.heap.size + 1, 2, none⟩ = some (.slice none 0 0) := by rw [hW2]; simp [go_sem]
  have f0 : W2.frozen? ⟨w.heap.size + 1, 0, none⟩ = false := by rw [hW2]; simp [go_sem]
  have f1 : W2.frozen? ⟨w.heap.size + 1, 1, none⟩ = false := by rw [hW2]; simp [go_sem]
  have f2 : W2.frozen? ⟨w.heap.size + 1, 2, none⟩ = false := by rw [hW2]; simp [go_sem]
  have HW : Hid (W2 = (w.alloc (.cells #[.int .i64 now, .int .i64 sq, .slice (some ⟨b, off, none⟩) ts.length cap] 25)).alloc (.cells #[.int .i64 0, .int .i64 0, .slice none 0 0] 25)) := hW2
  have l0 : w.heap.size < w.heap.size + 1 + 1 := by omega
  have l1 : w.heap.size + 1 < w.heap.size + 1 + 1 := by omega
  have HZ : Hid (∀ X, Below (w.heap.size + 1 + 1) W2 X → TimersIn w.heap.size X (some ⟨b, off, none⟩) ts) := fun X h => (hz.below hB2).below (h.mono (by omega))
  have hkl2 : (ts.take k).length = k := by simp; omega
  have HIF : Hid ((if cap = k + 1 then some (⟨b, off, none⟩ : Addr) else some ⟨b, off + (k + 1) * 3, none⟩) = some (if cap = k + 1 then ⟨b, off, none⟩ else ⟨b, off + (k + 1) * 3, none⟩)) := by unfold Hid; by_cases e : cap = k + 1 <;> simp only [e, if_true, if_false]
  have HD : Hid (∀ X, TimersIn w.heap.size X (some ⟨b, off, none⟩) ts → TimersIn w.heap.size X (some (if cap = k + 1 then ⟨b, off, none⟩ else ⟨b, off + (k + 1) * 3, none⟩)) (ts.drop (k + 1))) := by
    intro X h
    by_cases e : cap = k + 1
    · exact .inl (List.drop_eq_nil_of_le (by omega))
    · rw [if_neg e]; exact h.drop (k + 1)
  have HR : Hid (R = ts.take k ++ ts.drop (k + 1)) := hR
  clear hW2 hz hR
  go_enter Try.func31, Try.ntmps31
  go_wp2_with (at_builtin; first
    | (rw [← HW.out]; refine wpList_app51 W2 rfl (.tmp 6) (.tmp 10) rfl (w.heap.size + 1 + 1) (.slice none 0 0) [] rfl (OwnV.nil _ _) (by omega) ⟨b, off, none⟩ (ts.take k) k cap rfl hkl2 _ ((HZ.out _ (Below.refl _ _)).take k) (by simp; omega) ?_; intro v3 w3 hO3 hB3 hg3 hn3; have HO3 : Hid (OwnV (w.heap.size + 1 + 1) w3 v3 (ts.take k) ∧ (v3 = .slice none 0 0 ↔ Value.slice none 0 0 = Value.slice none 0 0 ∧ k = 0)) := ⟨hO3, hn3⟩; have c0 := (hB3.cell (p := ⟨w.heap.size, 0, none⟩) l0).trans b0; have c1 := (hB3.cell (p := ⟨w.heap.size, 1, none⟩) l0).trans b1; have c2 := (hB3.cell (p := ⟨w.heap.size, 2, none⟩) l0).trans b2; have cf := (hB3.frozen (p := ⟨w.heap.size, 2, none⟩) l0).trans bf; clear hO3 hg3 hn3)
    | (refine wpList_app51 w3 rfl (.tmp 12) (.tmp 17) rfl (w.heap.size + 1 + 1) v3 (ts.take k) rfl HO3.out.1 (by have := hB3.size; omega) _ (ts.drop (k + 1)) (ts.length - (k + 1)) (cap - (k + 1)) (congrArg (fun q => Value.slice q (ts.length - (k + 1)) (cap - (k + 1))) HIF.out) (by simp) _ (HD.out _ (HZ.out _ hB3)) (by simp <;> omega) ?_; intro v4 w4 hO4 hB4 hg4 hn4; have HN4 : Hid (v4 = .slice none 0 0 ↔ v3 = .slice none 0 0 ∧ ts.length - (k + 1) = 0) := hn4; have HO4 : Hid (OwnV (w.heap.size + 1 + 1) w4 v4 R ∧ Below (w.heap.size + 1 + 1) W2 w4) := ⟨by rw [HR.out]; exact hO4, hB3.trans hB4⟩; have d0 := (hB4.cell (p := ⟨w.heap.size, 0, none⟩) l0).trans c0; have d1 := (hB4.cell (p := ⟨w.heap.size, 1, none⟩) l0).trans c1; have d2 := (hB4.cell (p := ⟨w.heap.size, 2, none⟩) l0).trans c2; have df := (hB4.frozen (p := ⟨w.heap.size, 2, none⟩) l0).trans cf; obtain ⟨to, tc, rfl, _, _⟩ := HO4.out.1.fresh; have m0 := ((hB3.trans hB4).cell (p := ⟨w.heap.size + 1, 0, none⟩) l1).trans r0; have m1 := ((hB3.trans hB4).cell (p := ⟨w.heap.size + 1, 1, none⟩) l1).trans r1; have m2 := ((hB3.trans hB4).cell (p := ⟨w.heap.size + 1, 2, none⟩) l1).trans r2; have n0 := ((hB3.trans hB4).frozen (p := ⟨w.heap.size + 1, 0, none⟩) l1).trans f0; have n1 := ((hB3.trans hB4).frozen (p := ⟨w.heap.size + 1, 1, none⟩) l1).trans f1; have n2 := ((hB3.trans hB4).frozen (p := ⟨w.heap.size + 1, 2, none⟩) l1).trans f2; clear hO4 hg4 hn4 hB4 c0 c1 c2 cf))
  all_goals
    obtain ⟨to', tc', e', hF, hwf⟩ := HO4.out.1.fresh
    simp only [Value.slice.injEq, true_and] at e'
    obtain ⟨rfl, rfl⟩ := e'
    have hBe := hB2.trans (HO4.out.2.mono (by omega))
    refine bodyPost_ret (v := .agg #[.int .i64 now, .int .i64 sq, .slice to R.length tc]) (by simp [results, Try.results31, go_sem, m0, m1, m2]) rfl ⟨⟨to, tc, rfl, ?_, hwf, ?_⟩, ?_⟩
    · exact ((((hF.setBelow (a := ⟨w.heap.size, 2, none⟩) l0 _).setBelow (a := ⟨w.heap.size + 1, 0, none⟩) l1 _).setBelow (a := ⟨w.heap.size + 1, 1, none⟩) l1 _).setBelow (a := ⟨w.heap.size + 1, 2, none⟩) l1 _).wide (by omega) (by simp)
    · intro hR0
      have h1 : R.length = 0 := by rw [hR0]; rfl
      rw [HR.out] at h1
      simp at h1
      have hk0 : k = 0 := by
        rcases h1.1 with h | h
        · exact h
        · rw [h] at hk; simp at hk
      have e := HN4.out.2 ⟨HO3.out.2.2 ⟨trivial, hk0⟩, h1.2⟩
      simp at e
      exact e.2.2
    · exact (((hBe.setCell (p := ⟨w.heap.size, 2, none⟩) (by simp) _).setCell (p := ⟨w.heap.size + 1, 0, none⟩) (by simp) _).setCell (p := ⟨w.heap.size + 1, 1, none⟩) (by simp) _).setCell (p := ⟨w.heap.size + 1, 2, none⟩) (by simp) _
end Go.Proofs.Ytpbgkkemaioidaa.Old
