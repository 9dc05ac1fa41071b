
/- Rows of those that are woken, made by append; what the functions with three results answer. No conditions but those written. -/
import Derived.Test.YtdfmmidokfcjfaaOEd
namespace Go.Proofs.Ytdfmmidokfcjfaa.Old
open Go.RowKit

/-- The cells of those that are woken. -/
def kcells : List T4 → List Value
  | [] => []
  | t :: r => .int .i64 t.1 :: .int .i64 t.2.1 :: .int .i64 t.2.2.1 :: .bool t.2.2.2 :: kcells r
theorem kcells_len : ∀ ts : List T4, (kcells ts).length = ts.length * 4
  | [] => rfl
  | t :: r => by simp [kcells, kcells_len r]; omega
theorem t4_succ (t : T4) (r : List T4) (j : Nat) : t4 (t :: r) (j + 1) = t4 r j := by simp [t4]
theorem kcells_at : ∀ ts : List T4, Cells4 (kcells ts) ts
  | [], j, h => by simp at h
  | t :: r, 0, _ => by simp [kcells, t4]
  | t :: r, j + 1, h => by
    have := kcells_at r j (by simpa using h)
    rw [show (j + 1) * 4 = j * 4 + 1 + 1 + 1 + 1 from by omega, t4_succ]
    simpa [kcells] using this
theorem kcells_one : ∀ (ts : List T4) (v : Value), v ∈ kcells ts → v.oneCell' = true
  | [], v, h => by simp [kcells] at h
  | t :: r, v, h => by
    simp [kcells] at h
    rcases h with rfl | rfl | rfl | rfl | h
    · rfl
    · rfl
    · rfl
    · rfl
    · exact kcells_one r v h
theorem kcells_app : ∀ (a b : List T4), kcells (a ++ b) = kcells a ++ kcells b
  | [], b => rfl
  | t :: r, b => by simp [kcells, kcells_app r b]
theorem Try.info35 : (Try.prog.info? 35).map (fun i => (i.zero, i.size, i.bytes)) = some (some (.agg #[.int .i64 0, .int .i64 0, .int .i64 0, .bool false]), 4, 32) := by kernel_rfl
/-- v is a row of its own, from lo on, that holds those that are woken. -/
def OwnK (lo : Nat) (W : World) (v : Value) (ks : List T4) : Prop := W.ownsRow lo 35 4 v ks.length (kcells ks)
theorem OwnK.nil (lo : Nat) (W : World) : OwnK lo W (.slice none 0 0) [] := World.ownsRow_nil _ _ _ _
theorem OwnK.fresh {lo : Nat} {W : World} {v : Value} {ks : List T4} (h : OwnK lo W v ks) : ∃ to tc, v = .slice to ks.length tc ∧ FreshK lo W.heap.size W to tc ks := by
  rcases h.2 with ⟨e, h0⟩ | ⟨g, cap, cur, e, _⟩
  · have : ks = [] := List.length_eq_zero_iff.1 h0
    subst this
    exact ⟨none, 0, e, .inl rfl⟩
  · refine ⟨some ⟨g, 0, none⟩, cap, e, .inr ⟨g, kcells ks, rfl, ?_, ?_, kcells_at ks⟩⟩
    · unfold OwnK at h; rw [e] at h; exact (owns_lt h).2
    · unfold OwnK at h; rw [e] at h; exact h
theorem OwnK.below {lo : Nat} {W W' : World} {v : Value} {ks : List T4} (h : OwnK lo W v ks) (hb : Below W.heap.size W W') : OwnK lo W' v ks := ownsRow_below h hb
theorem OwnK.low {lo : Nat} {W : World} {v : Value} {ks : List T4} (h : OwnK lo W v ks) : ∀ k, v.ownBlock = some k → lo ≤ k := by
  rcases h.2 with ⟨e, _⟩ | ⟨g, cap, cur, e, hb, hh, _⟩
  · subst e; intro k h; simp [Value.ownBlock] at h
  · subst e; intro k h; simp [Value.ownBlock] at h; omega
theorem OwnK.belowG {lo : Nat} {W W' : World} {v : Value} {ks : List T4} (h : OwnK lo W v ks) (hg : W.grownBy W' v.ownBlock) (hlo : lo ≤ W.heap.size) : Below lo W W' :=
  ⟨hg.os, hg.tape, hg.output, hg.size, fun k hk => hg.block k (by omega) (fun e => by have := h.low k e.symm; omega)⟩
theorem wpList_pushK {ops : Array Oper} {rest : List Oper} {o : Oper} {a : Act} {Q : Exit → Act → World → Prop} (W : World) (hg : o.guard = none) (s x : Operand) (hop : o.op = Op.call { callee := Callee.builtin Builtin.append, args := #[s, x], argTypes := #[31, 31] })
    (lo : Nat) (v : Value) (xs : List T4) (hs : a.eval s = v) (hown : OwnK lo W v xs) (hlo : lo ≤ W.heap.size) (hl : xs.length ≤ 1048576)
    (b : Nat) (z : T4) (c : Nat) (hx : a.eval x = .slice (some ⟨b, 0, none⟩) 1 c) (hc0 : W.cell? ⟨b, 0, none⟩ = some (.int .i64 z.1)) (hc1 : W.cell? ⟨b, 1, none⟩ = some (.int .i64 z.2.1)) (hc2 : W.cell? ⟨b, 2, none⟩ = some (.int .i64 z.2.2.1)) (hc3 : W.cell? ⟨b, 3, none⟩ = some (.bool z.2.2.2))
    (hK : ∀ v' w', OwnK lo w' v' (xs ++ [z]) → Below lo W w' → wpList Try.prog ops Q rest (a.put o.dst v') w') :
    wpList Try.prog ops Q (o :: rest) a W := by
  obtain ⟨i0, hin, hz0, hz1, hz2⟩ := info_parts Try.info35
  have hcz : ∀ j u, (kcells [z])[j]? = some u → W.cell? ((⟨b, 0, none⟩ : Addr).add j) = some u := by
    intro j u h
    match j, h with
    | 0, h => simp [kcells] at h; subst h; simpa [Addr.add] using hc0
    | 1, h => simp [kcells] at h; subst h; simpa [Addr.add] using hc1
    | 2, h => simp [kcells] at h; subst h; simpa [Addr.add] using hc2
    | 3, h => simp [kcells] at h; subst h; simpa [Addr.add] using hc3
    | j + 4, h => simp [kcells] at h
  refine wpList_append_own W hg s x 31 hop lo 35 i0 (.agg #[.int .i64 0, .int .i64 0, .int .i64 0, .bool false]) 4 32 Try.underlying31 hin hz0 hz1 hz2 rfl (by decide) v xs.length (kcells xs) hs hown ⟨b, 0, none⟩ 1 c (kcells [z]) hx rfl hcz (kcells_one [z]) (by unfold maxLen; omega) (by omega) hlo ?_
  intro v' w' ho hgr _
  refine hK v' w' ?_ (hown.belowG hgr hlo)
  unfold OwnK
  rw [kcells_app, List.length_append]; exact ho

set_option maxHeartbeats 1000000 in
theorem wake_any (a c v x : Int) (o : Bool) (w : World) :
    Calls Try.prog 15 #[.agg #[.int .i64 a, .int .i64 c, .int .i64 v], .int .i64 x, .bool o] w fun e w' => e = .returned (.agg #[.int .i64 a, .int .i64 c, .int .i64 x, .bool o]) ∧ Below w.heap.size w w' := by
  go_enter Try.func15, Try.ntmps15
  go_wp2
  exact bodyPost_ret (v := .agg #[.int .i64 a, .int .i64 c, .int .i64 x, .bool o]) (by simp [results, Try.results15, go_sem]) rfl ⟨rfl, by repeat (first | assumption | exact Below.refl _ _ | exact below2 _ _ _ | refine Below.setCell ?_ (by simp) _ | refine Below.alloc ?_ (by simp <;> omega) _)⟩

/-- A channel, those that are woken and a number, each in its own memory. -/
def AnsT (w : World) (R : Int × Bool × List Int × List T3 × List T3 × List T4 × Int) (e : Ending) (w' : World) : Prop :=
  (∃ bo bc so sc ro rc ko kc, e = .returned (.tuple #[.agg #[.int .i64 R.1, .bool R.2.1, .slice bo R.2.2.1.length bc, .slice so R.2.2.2.1.length sc, .slice ro R.2.2.2.2.1.length rc], .slice ko R.2.2.2.2.2.1.length kc, .int .i64 R.2.2.2.2.2.2]) ∧ FreshCh w.heap.size w'.heap.size w' bo bc R.2.2.1 so sc R.2.2.2.1 ro rc R.2.2.2.2.1 ∧ FreshK w.heap.size w'.heap.size w' ko kc R.2.2.2.2.2.1) ∧ Below w.heap.size w w'
/-- The same, and nil has no room. -/
def AnsU (w : World) (R : Int × Bool × List Int × List T3 × List T3 × List T4 × Int) (e : Ending) (w' : World) : Prop :=
  (∃ bo bc so sc ro rc ko kc, e = .returned (.tuple #[.agg #[.int .i64 R.1, .bool R.2.1, .slice bo R.2.2.1.length bc, .slice so R.2.2.2.1.length sc, .slice ro R.2.2.2.2.1.length rc], .slice ko R.2.2.2.2.2.1.length kc, .int .i64 R.2.2.2.2.2.2]) ∧ FreshCh w.heap.size w'.heap.size w' bo bc R.2.2.1 so sc R.2.2.2.1 ro rc R.2.2.2.2.1 ∧ FreshK w.heap.size w'.heap.size w' ko kc R.2.2.2.2.2.1 ∧ Wf3 bo bc so sc ro rc) ∧ Below w.heap.size w w'
theorem ansT_of {w W : World} {kap : Int} {cl : Bool} {bo : Option Addr} {bc : Nat} {b : List Int} {so : Option Addr} {sc : Nat} {s : List T3} {ro : Option Addr} {rc : Nat} {r : List T3} {ko : Option Addr} {kc : Nat} {k : List T4} {c : Int} (hB : Below w.heap.size w W) (hF : FreshCh (w.heap.size + 1 + 1) W.heap.size W bo bc b so sc s ro rc r) (hK : FreshK (w.heap.size + 1 + 1) W.heap.size W ko kc k) (u0 u1 u2 u3 u4 : Value) :
    AnsT w (kap, cl, b, s, r, k, c) (.returned (.tuple #[.agg #[.int .i64 kap, .bool cl, .slice bo b.length bc, .slice so s.length sc, .slice ro r.length rc], .slice ko k.length kc, .int .i64 c])) (((((W.setCell ⟨w.heap.size + 1, 0, none⟩ u0).setCell ⟨w.heap.size + 1, 1, none⟩ u1).setCell ⟨w.heap.size + 1, 2, none⟩ u2).setCell ⟨w.heap.size + 1, 3, none⟩ u3).setCell ⟨w.heap.size + 1, 4, none⟩ u4) := by
  refine ⟨⟨bo, bc, so, sc, ro, rc, ko, kc, rfl, ?_, ?_⟩, ?_⟩
  · exact (((((hF.setBelow (a := ⟨w.heap.size + 1, 0, none⟩) (by simp) _).setBelow (a := ⟨w.heap.size + 1, 1, none⟩) (by simp) _).setBelow (a := ⟨w.heap.size + 1, 2, none⟩) (by simp) _).setBelow (a := ⟨w.heap.size + 1, 3, none⟩) (by simp) _).setBelow (a := ⟨w.heap.size + 1, 4, none⟩) (by simp) _).wide (by omega) (by simp)
  · exact (((((hK.setBelow (a := ⟨w.heap.size + 1, 0, none⟩) (by simp) _).setBelow (a := ⟨w.heap.size + 1, 1, none⟩) (by simp) _).setBelow (a := ⟨w.heap.size + 1, 2, none⟩) (by simp) _).setBelow (a := ⟨w.heap.size + 1, 3, none⟩) (by simp) _).setBelow (a := ⟨w.heap.size + 1, 4, none⟩) (by simp) _).wide (by omega) (by simp)
  · exact (((((hB.setCell (p := ⟨w.heap.size + 1, 0, none⟩) (by simp) _).setCell (p := ⟨w.heap.size + 1, 1, none⟩) (by simp) _).setCell (p := ⟨w.heap.size + 1, 2, none⟩) (by simp) _).setCell (p := ⟨w.heap.size + 1, 3, none⟩) (by simp) _).setCell (p := ⟨w.heap.size + 1, 4, none⟩) (by simp) _)
theorem ansU_of {w W : World} {kap : Int} {cl : Bool} {bo : Option Addr} {bc : Nat} {b : List Int} {so : Option Addr} {sc : Nat} {s : List T3} {ro : Option Addr} {rc : Nat} {r : List T3} {ko : Option Addr} {kc : Nat} {k : List T4} {c : Int} (hB : Below w.heap.size w W) (hF : FreshCh (w.heap.size + 1 + 1) W.heap.size W bo bc b so sc s ro rc r) (hK : FreshK (w.heap.size + 1 + 1) W.heap.size W ko kc k) (hw : Wf3 bo bc so sc ro rc) (u0 u1 u2 u3 u4 : Value) :
    AnsU w (kap, cl, b, s, r, k, c) (.returned (.tuple #[.agg #[.int .i64 kap, .bool cl, .slice bo b.length bc, .slice so s.length sc, .slice ro r.length rc], .slice ko k.length kc, .int .i64 c])) (((((W.setCell ⟨w.heap.size + 1, 0, none⟩ u0).setCell ⟨w.heap.size + 1, 1, none⟩ u1).setCell ⟨w.heap.size + 1, 2, none⟩ u2).setCell ⟨w.heap.size + 1, 3, none⟩ u3).setCell ⟨w.heap.size + 1, 4, none⟩ u4) := by
  refine ⟨⟨bo, bc, so, sc, ro, rc, ko, kc, rfl, ?_, ?_, hw⟩, ?_⟩
  · exact (((((hF.setBelow (a := ⟨w.heap.size + 1, 0, none⟩) (by simp) _).setBelow (a := ⟨w.heap.size + 1, 1, none⟩) (by simp) _).setBelow (a := ⟨w.heap.size + 1, 2, none⟩) (by simp) _).setBelow (a := ⟨w.heap.size + 1, 3, none⟩) (by simp) _).setBelow (a := ⟨w.heap.size + 1, 4, none⟩) (by simp) _).wide (by omega) (by simp)
  · exact (((((hK.setBelow (a := ⟨w.heap.size + 1, 0, none⟩) (by simp) _).setBelow (a := ⟨w.heap.size + 1, 1, none⟩) (by simp) _).setBelow (a := ⟨w.heap.size + 1, 2, none⟩) (by simp) _).setBelow (a := ⟨w.heap.size + 1, 3, none⟩) (by simp) _).setBelow (a := ⟨w.heap.size + 1, 4, none⟩) (by simp) _).wide (by omega) (by simp)
  · exact (((((hB.setCell (p := ⟨w.heap.size + 1, 0, none⟩) (by simp) _).setCell (p := ⟨w.heap.size + 1, 1, none⟩) (by simp) _).setCell (p := ⟨w.heap.size + 1, 2, none⟩) (by simp) _).setCell (p := ⟨w.heap.size + 1, 3, none⟩) (by simp) _).setCell (p := ⟨w.heap.size + 1, 4, none⟩) (by simp) _)
theorem freshK_nil (lo hi : Nat) (W : World) : FreshK lo hi W none 0 [] := .inl rfl

/-- All are woken with nothing. -/
def wakeAll (l : List T3) : List T4 := l.map (fun t => (t.1, t.2.1, 0, false))
theorem wakeAll_len (l : List T3) : (wakeAll l).length = l.length := by simp [wakeAll]
theorem wakeAll_snoc {l : List T3} {j : Nat} (hj : j < l.length) : wakeAll (l.take (j + 1)) = wakeAll (l.take j) ++ [((t3 l j).1, (t3 l j).2.1, 0, false)] := by
  have e : l.take (j + 1) = l.take j ++ [t3 l j] := by rw [List.take_add_one, List.getElem?_eq_getElem hj, t3_at hj]; rfl
  rw [e, wakeAll, List.map_append]; rfl
end Go.Proofs.Ytdfmmidokfcjfaa.Old
