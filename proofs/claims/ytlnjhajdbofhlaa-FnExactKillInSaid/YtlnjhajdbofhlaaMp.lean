
/- A map of the call's own from tasks to numbers. No conditions but those written. -/
import Derived.Test.YtlnjhajdbofhlaaKd
import Derived.Maps.Own
import Derived.Maps.OwnOps
import Derived.Maps.OwnSet
import Derived.Maps.Views
namespace Go.Proofs.Ytlnjhajdbofhlaa
open Go.RowKit Go.Maps

theorem lawI : Keyed Try.prog 3 := int_keyed Try.underlying3
theorem zeroI (w : World) : (zeroValue 3).run Try.prog w = .ok (.int .i64 0) w := by kernel_rfl
/-- A task's number. -/
def TaskN (k : Int) : Prop := 0 ≤ k ∧ k ≤ 29
theorem TaskN.key {k : Int} (h : TaskN k) : keyOf Try.prog 3 (.int .i64 k) = some (.int .i64 k) := keyOf_int_mk Try.underlying3 (WalkArith.wf_i64 (by have := h.1; have := h.2; omega))
/-- Block B is a map that reads at tasks as f. -/
def MapF (W : World) (B n : Nat) (f : Int → Int) : Prop := ∃ D : DataW Unit, W.ownsMap Try.prog 3 (plainElem Try.prog 3) B n D ∧ ∀ k, TaskN k → D.atKey (.int .i64 k) (.lit (.int .i64 0)) = .lit (.int .i64 (f k))
theorem MapF.keep {W W' : World} {B n : Nat} {f : Int → Int} (h : MapF W B n f) (hb : W'.heap[B]? = W.heap[B]?) : MapF W' B n f := by
  obtain ⟨D, ⟨es, clock, h1, h2⟩, h3⟩ := h
  exact ⟨D, ⟨es, clock, hb.trans h1, h2⟩, h3⟩
theorem MapF.lt {W : World} {B n : Nat} {f : Int → Int} (h : MapF W B n f) : B < W.heap.size := by
  obtain ⟨D, ⟨es, clock, h1, _⟩, _⟩ := h
  exact (Array.getElem?_eq_some_iff.1 h1).1
theorem MapF.later {W W' : World} {B n : Nat} {f : Int → Int} (h : MapF W B n f) (hb : Below W.heap.size W W') : MapF W' B n f := h.keep (hb.block B h.lt)
theorem MapF.made (w : World) : MapF (w.alloc (.map #[] 0)) w.heap.size 0 (fun _ => 0) := ⟨.map [], World.ownsMap_made _ _ _ _, fun _ _ => rfl⟩
theorem MapF.ext {W : World} {B n : Nat} {f g : Int → Int} (h : MapF W B n f) (he : ∀ k, TaskN k → f k = g k) : MapF W B n g := by
  obtain ⟨D, h1, h2⟩ := h
  exact ⟨D, h1, fun k hk => by rw [h2 k hk, he k hk]⟩
theorem wpl_look (w : World) {ops : Array Oper} {rest : List Oper} {o : Oper} {a : Act} {Q : Exit → Act → World → Prop} (hg : o.guard = none) (m x : Operand) (hop : o.op = Op.lookup 132 m x false) (b n : Nat) (f : Int → Int) (hm : a.eval m = .map (some b)) (h : MapF w b n f) (k : Int) (hx : a.eval x = .int .i64 k) (hk : TaskN k)
    (hK : wpList Try.prog ops Q rest (a.put o.dst (.int .i64 (f k))) w) : wpList Try.prog ops Q (o :: rest) a w := by
  obtain ⟨D, h1, h2⟩ := h
  refine wpList_lookup_own_int w hg m x 132 hop 3 3 .i64 lawI Try.underlying132 Try.underlying3 (zeroI _) b n D hm h1 _ _ hx hk.key fun c hat _ => ?_
  rw [h2 k hk] at hat
  simp at hat
  subst hat
  exact hK
theorem wpl_put (w : World) {ops : Array Oper} {rest : List Oper} {o : Oper} {a : Act} {Q : Exit → Act → World → Prop} (hg : o.guard = none) (m x v : Operand) (hop : o.op = Op.mapUpdate 132 m x v) (b n : Nat) (f : Int → Int) (hm : a.eval m = .map (some b)) (h : MapF w b n f) (hn : n < maxLen) (k z : Int) (hx : a.eval x = .int .i64 k) (hv : a.eval v = .int .i64 z) (hk : TaskN k) (hz : 0 ≤ z ∧ z ≤ 4194304)
    (hK : ∀ w', MapF w' b (n + 1) (fun j => if j = k then z else f j) → w.grownBy w' (some b) → wpList Try.prog ops Q rest (a.put o.dst undef) w') : wpList Try.prog ops Q (o :: rest) a w := by
  obtain ⟨D, h1, h2⟩ := h
  have hT : IsMap D := (h1.tidy lawI).isMap
  refine wpList_mapUpdate_own w hg m x v 132 hop 3 3 lawI Try.underlying132 _ b n D hm h1 hn _ _ _ hx hv hk.key _ [] (plainElem_int Try.underlying3 (WalkArith.wf_i64 (by omega))) fun w' h3 h4 => hK w' ⟨_, h3, fun j hj => ?_⟩ h4
  dsimp only
  by_cases e : j = k
  · subst e; rw [if_pos rfl, atKey_put_same hT (by simp [WideAt.IsKeyLit])]
  · rw [if_neg e, atKey_put_other (by simpa using e)]; exact h2 j hj
theorem wpl_del (w : World) {ops : Array Oper} {rest : List Oper} {o : Oper} {a : Act} {Q : Exit → Act → World → Prop} (hg : o.guard = none) (m x : Operand) (hop : o.op = Op.call { callee := Callee.builtin Builtin.delete, args := #[m, x], argTypes := #[132, 3] }) (b n : Nat) (f : Int → Int) (hm : a.eval m = .map (some b)) (h : MapF w b n f) (k : Int) (hx : a.eval x = .int .i64 k) (hk : TaskN k)
    (hK : ∀ w', MapF w' b n (fun j => if j = k then 0 else f j) → OnlyAt (some ⟨b, 0, none⟩) w w' → wpList Try.prog ops Q rest (a.put o.dst (.tuple #[])) w') : wpList Try.prog ops Q (o :: rest) a w := by
  obtain ⟨D, h1, h2⟩ := h
  refine wpList_delete_own w hg m x 132 3 hop 3 lawI Try.underlying132 _ b n D hm h1 _ _ hx hk.key fun w' h3 h4 => hK w' ⟨_, h3, fun j hj => ?_⟩ ?_
  · dsimp only
    by_cases e : j = k
    · subst e; rw [if_pos rfl, atKey_del_same]
    · rw [if_neg e, atKey_del_other (by simpa using e)]; exact h2 j hj
  · obtain ⟨es, clock, es', clock', h5, rfl⟩ := h4
    refine ⟨rfl, rfl, rfl, by simp [ChangeMaps.setBlock], fun q hq => ?_⟩
    have hne : b ≠ q := fun e => hq b rfl e.symm
    simp [ChangeMaps.setBlock, hne]
end Go.Proofs.Ytlnjhajdbofhlaa
