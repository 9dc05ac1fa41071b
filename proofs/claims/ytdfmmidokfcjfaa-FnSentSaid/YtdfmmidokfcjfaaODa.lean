
/- Rows of those that are woken; the laws' marks. No conditions but those written. -/
import Derived.Test.YtdfmmidokfcjfaaOBd
namespace Go.Proofs.Ytdfmmidokfcjfaa.Old
open Go.RowKit

/-- The slice at ao holds the woken ks, in a block below n. -/
def WokIn (n : Nat) (W : World) (ao : Option Addr) (ks : List T4) : Prop :=
  ks = [] ∨ ∃ b off, ao = some ⟨b, off, none⟩ ∧ b < n ∧ ∀ j, j < ks.length → W.cell? ⟨b, off + j * 4, none⟩ = some (.int .i64 (t4 ks j).1) ∧ W.cell? ⟨b, off + j * 4 + 1, none⟩ = some (.int .i64 (t4 ks j).2.1) ∧ W.cell? ⟨b, off + j * 4 + 2, none⟩ = some (.int .i64 (t4 ks j).2.2.1) ∧ W.cell? ⟨b, off + j * 4 + 3, none⟩ = some (.bool (t4 ks j).2.2.2)
theorem WokIn.pos {n : Nat} {W : World} {ao : Option Addr} {ks : List T4} (h : WokIn n W ao ks) {k : Nat} (hk : k < ks.length) :
    ∃ b off, ao = some ⟨b, off, none⟩ ∧ b < n ∧ ∀ j, j < ks.length → W.cell? ⟨b, off + j * 4, none⟩ = some (.int .i64 (t4 ks j).1) ∧ W.cell? ⟨b, off + j * 4 + 1, none⟩ = some (.int .i64 (t4 ks j).2.1) ∧ W.cell? ⟨b, off + j * 4 + 2, none⟩ = some (.int .i64 (t4 ks j).2.2.1) ∧ W.cell? ⟨b, off + j * 4 + 3, none⟩ = some (.bool (t4 ks j).2.2.2) := by
  rcases h with rfl | h
  · simp at hk
  · exact h
theorem WokIn.below {n : Nat} {W W' : World} {ao : Option Addr} {ks : List T4} (h : WokIn n W ao ks) (hb : Below n W W') : WokIn n W' ao ks := by
  rcases h with rfl | ⟨b, off, e, hn, hc⟩
  · exact .inl rfl
  · exact .inr ⟨b, off, e, hn, fun j hj => ⟨(hb.cell (p := ⟨b, off + j * 4, none⟩) hn).trans (hc j hj).1, (hb.cell (p := ⟨b, off + j * 4 + 1, none⟩) hn).trans (hc j hj).2.1, (hb.cell (p := ⟨b, off + j * 4 + 2, none⟩) hn).trans (hc j hj).2.2.1, (hb.cell (p := ⟨b, off + j * 4 + 3, none⟩) hn).trans (hc j hj).2.2.2⟩⟩
theorem WokIn.later {W W' : World} {ao : Option Addr} {ks : List T4} (h : WokIn W.heap.size W ao ks) (hb : Below W.heap.size W W') : WokIn W'.heap.size W' ao ks := by
  rcases h.below hb with h | ⟨b, off, e, hn, hc⟩
  · exact .inl h
  · exact .inr ⟨b, off, e, Nat.lt_of_lt_of_le hn hb.size, hc⟩
/-- The cells xs are those of the woken ks. -/
def Cells4 (xs : List Value) (ks : List T4) : Prop := ∀ j, j < ks.length → xs[j * 4]? = some (.int .i64 (t4 ks j).1) ∧ xs[j * 4 + 1]? = some (.int .i64 (t4 ks j).2.1) ∧ xs[j * 4 + 2]? = some (.int .i64 (t4 ks j).2.2.1) ∧ xs[j * 4 + 3]? = some (.bool (t4 ks j).2.2.2)
/-- The woken ks lie in a row of their own, in a block from lo on and before hi. -/
def FreshK (lo hi : Nat) (W : World) (to : Option Addr) (tc : Nat) (ks : List T4) : Prop :=
  ks = [] ∨ ∃ g xs, to = some ⟨g, 0, none⟩ ∧ g < hi ∧ W.ownsRow lo 35 4 (.slice (some ⟨g, 0, none⟩) ks.length tc) ks.length xs ∧ Cells4 xs ks
theorem FreshK.wok {lo hi : Nat} {W : World} {to : Option Addr} {tc : Nat} {ks : List T4} (h : FreshK lo hi W to tc ks) : WokIn W.heap.size W to ks := by
  rcases h with h | ⟨g, xs, rfl, _, ho, hp⟩
  · exact .inl h
  · refine .inr ⟨g, 0, rfl, (owns_lt ho).2, fun j hj => ⟨?_, ?_, ?_, ?_⟩⟩
    · rw [Nat.zero_add, ho.cellAt (j * 4) (by omega)]; exact (hp j hj).1
    · rw [Nat.zero_add, ho.cellAt (j * 4 + 1) (by omega)]; exact (hp j hj).2.1
    · rw [Nat.zero_add, ho.cellAt (j * 4 + 2) (by omega)]; exact (hp j hj).2.2.1
    · rw [Nat.zero_add, ho.cellAt (j * 4 + 3) (by omega)]; exact (hp j hj).2.2.2
theorem FreshK.keep {lo hi : Nat} {W W' : World} {to : Option Addr} {tc : Nat} {ks : List T4} (h : FreshK lo hi W to tc ks) (hk : ∀ k, lo ≤ k → k < hi → k < W.heap.size → W'.heap[k]? = W.heap[k]?) : FreshK lo hi W' to tc ks := by
  rcases h with h | ⟨g, xs, e, hg, ho, hp⟩
  · exact .inl h
  · exact .inr ⟨g, xs, e, hg, owns_block ho (hk g (owns_lt ho).1 hg (owns_lt ho).2), hp⟩
theorem FreshK.later {lo hi : Nat} {W W' : World} {to : Option Addr} {tc : Nat} {ks : List T4} (h : FreshK lo hi W to tc ks) (hb : Below W.heap.size W W') : FreshK lo hi W' to tc ks := h.keep fun k _ _ hk => hb.block k hk
theorem FreshK.wide {lo hi lo' hi' : Nat} {W : World} {to : Option Addr} {tc : Nat} {ks : List T4} (h : FreshK lo hi W to tc ks) (h1 : lo' ≤ lo) (h2 : hi ≤ hi') : FreshK lo' hi' W to tc ks := by
  rcases h with h | ⟨g, xs, e, hg, ho, hp⟩
  · exact .inl h
  · exact .inr ⟨g, xs, e, by omega, ownsRow_base ho (Nat.le_trans h1 (owns_lt ho).1), hp⟩
theorem FreshK.setBelow {lo hi : Nat} {W : World} {to : Option Addr} {tc : Nat} {ks : List T4} (h : FreshK lo hi W to tc ks) {a : Addr} (ha : a.block < lo) (u : Value) : FreshK lo hi (W.setCell a u) to tc ks := h.keep fun k hk _ _ => Below.heap_setCell W a u k (by omega)
theorem FreshK.between {lo hi : Nat} {W W' : World} {to : Option Addr} {tc : Nat} {ks : List T4} (h : FreshK lo hi W to tc ks) (hb : OnlyAt (eff to ks.length) W W') : Between lo hi W W' := by
  refine ⟨hb.os, hb.tape, hb.output, by rw [hb.size]; exact Nat.le_refl _, fun k _ hr => hb.block k fun g e => ?_⟩
  rcases h with rfl | ⟨g2, xs, e2, hg, ho, _⟩
  · simp [eff] at e
  · unfold eff at e
    split at e
    · cases e
    · rw [e2] at e; simp at e; subst e
      have := (owns_lt ho).1
      omega
theorem FreshK.between' {lo hi lo' hi' : Nat} {W W' : World} {to : Option Addr} {tc : Nat} {ks : List T4} (h : FreshK lo hi W to tc ks) (hb : Between lo' hi' W W') (hd : hi ≤ lo' ∨ hi' ≤ lo) : FreshK lo hi W' to tc ks :=
  h.keep fun k h1 h2 h3 => hb.block k h3 (by omega)

/-- A row of elements of the type e, or none. -/
def RowAt (W : World) (ao : Option Addr) (n : Nat) (e : TypeId) : Prop := n = 0 ∨ ∃ g cur, ao = some ⟨g, 0, none⟩ ∧ W.heap[g]? = some (.cells cur e (0, 0))
theorem FreshI.rowAt {lo hi : Nat} {W : World} {qo : Option Addr} {qc : Nat} {q : List Int} (h : FreshI lo hi W qo qc q) : RowAt W qo q.length 3 := by
  rcases h with ⟨rfl, _⟩ | ⟨g, e, hg, ho⟩
  · exact .inl rfl
  · obtain ⟨c, hc⟩ := owns_type ho; exact .inr ⟨g, c, e, hc⟩
theorem FreshC.rowAt {lo hi : Nat} {W : World} {to : Option Addr} {tc : Nat} {ts : List T3} (h : FreshC lo hi W to tc ts) : RowAt W to ts.length 28 := by
  rcases h with ⟨rfl, _⟩ | ⟨g, xs, e, hg, ho, _⟩
  · exact .inl rfl
  · obtain ⟨c, hc⟩ := owns_type ho; exact .inr ⟨g, c, e, hc⟩
theorem FreshK.rowAt {lo hi : Nat} {W : World} {to : Option Addr} {tc : Nat} {ks : List T4} (h : FreshK lo hi W to tc ks) : RowAt W to ks.length 35 := by
  rcases h with rfl | ⟨g, xs, e, hg, ho, _⟩
  · exact .inl rfl
  · obtain ⟨c, hc⟩ := owns_type ho; exact .inr ⟨g, c, e, hc⟩
/-- Where a row lies another does not. -/
def Off (ao : Option Addr) (n : Nat) (bo : Option Addr) (m : Nat) : Prop := n = 0 ∨ m = 0 ∨ ao ≠ bo
theorem RowAt.off {W : World} {ao bo : Option Addr} {n m : Nat} {e e' : TypeId} (h : RowAt W ao n e) (h' : RowAt W bo m e') (hne : e ≠ e') : Off ao n bo m := by
  rcases h with h | ⟨g, c, rfl, hc⟩
  · exact .inl h
  · rcases h' with h' | ⟨g', c', rfl, hc'⟩
    · exact .inr (.inl h')
    · refine .inr (.inr fun x => ?_)
      cases x
      rw [hc] at hc'; simp at hc'; exact hne hc'.2
theorem Off.symm {ao bo : Option Addr} {n m : Nat} (h : Off ao n bo m) : Off bo m ao n := by
  rcases h with h | h | h
  · exact .inr (.inl h)
  · exact .inl h
  · exact .inr (.inr (Ne.symm h))
theorem Off.ne {ao bo : Option Addr} {n m : Nat} (h : Off ao n bo m) (hn : n ≠ 0) {g : Nat} (e : ao = some ⟨g, 0, none⟩) : ∀ g', eff bo m = some ⟨g', 0, none⟩ → g ≠ g' := by
  intro g' he
  unfold eff at he
  split at he
  · cases he
  · rintro rfl
    rcases h with h | h | h
    · exact hn h
    · contradiction
    · exact h (e.trans he.symm)
theorem FreshK.off {lo hi : Nat} {W W' : World} {to bo : Option Addr} {tc m : Nat} {ks : List T4} (h : FreshK lo hi W to tc ks) (ho : Off to ks.length bo m) (hb : OnlyAt (eff bo m) W W') : FreshK lo hi W' to tc ks := by
  rcases h with h | ⟨g, xs, e, hg, hw, hp⟩
  · exact .inl h
  · by_cases hn : ks.length = 0
    · exact .inl (List.length_eq_zero_iff.1 hn)
    · exact .inr ⟨g, xs, e, hg, owns_block hw (hb.block g (ho.ne hn e)), hp⟩

/-- The mark of a bool. -/
def mkB (k : Int) : Bool := (k % 3 == 0)
def markK (k : Int) (n : Nat) : List T4 := (List.range n).map (fun i : Nat => (k + 4 * (i : Int), k + 4 * (i : Int) + 1, k + 4 * (i : Int) + 2, mkB (k + 4 * (i : Int) + 3)))
theorem markK_len (k : Int) (n : Nat) : (markK k n).length = n := by simp [markK]
theorem markK_at (k : Int) (n j : Nat) (h : j < n) : t4 (markK k n) j = (k + 4 * (j : Int), k + 4 * (j : Int) + 1, k + 4 * (j : Int) + 2, mkB (k + 4 * (j : Int) + 3)) := by simp [markK, t4, h]

end Go.Proofs.Ytdfmmidokfcjfaa.Old
