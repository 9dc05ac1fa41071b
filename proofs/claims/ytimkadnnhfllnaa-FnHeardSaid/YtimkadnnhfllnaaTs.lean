
/- Subs and rows of them: sizes, copies, comparisons. No conditions but those written. -/
import Derived.Test.YtimkadnnhfllnaaIa
import Derived.Test.YtimkadnnhfllnaaBx
import Derived.Test.YtimkadnnhfllnaaDp
namespace Go.Proofs.Ytimkadnnhfllnaa
open Go.RowKit

theorem set_far {xs : List Value} {p q : Nat} {u : Value} (h : p ≠ q) : (xs.set p u)[q]? = xs[q]? := by rw [List.getElem?_set, if_neg h]
theorem set_at {xs : List Value} {p : Nat} {u : Value} (h : p < xs.length) : (xs.set p u)[p]? = some u := by rw [List.getElem?_set, if_pos rfl, if_pos h]
theorem Kind.Fresh.setOff {α : Type} {K : Kind α} {lo hi : Nat} {W : World} {qo : Option Addr} {qc : Nat} {q : List α} (h : K.Fresh lo hi W qo qc q) {a : Addr} (ha : a.block < lo ∨ hi ≤ a.block) (u : Value) : K.Fresh lo hi (W.setCell a u) qo qc q := h.keep fun k h1 h2 _ => Below.heap_setCell W a u k (by omega)
theorem Kind.Fresh.notNew {α : Type} {K : Kind α} {lo hi : Nat} {W : World} {qo : Option Addr} {qc : Nat} {q : List α} (h : K.Fresh lo hi W qo qc q) {g : Nat} (e : eff qo q.length = some ⟨g, 0, none⟩) : W.heap.size ≠ g := by
  rcases h with rfl | ⟨g2, e2, hg, ho⟩
  · simp [eff] at e
  · unfold eff at e
    split at e
    · cases e
    · rw [e2] at e; simp at e; subst e
      have := (owns_lt ho).2; omega
/-- What lies behind a Sub. -/
def InSub (n : Nat) (W : World) (qo : Option Addr) (q : List (Int)) : Prop := kI.In n W qo q
/-- What lies behind a Sub, in memory of its own. -/
def FrSub (lo hi : Nat) (W : World) (qo : Option Addr) (qc : Nat) (q : List (Int)) : Prop := kI.Fresh lo hi W qo qc q
theorem InSub.later {W W' : World} {qo : Option Addr} {q : List (Int)} (h : InSub W.heap.size W qo q) (hb : Below W.heap.size W W') : InSub W'.heap.size W' qo q := Kind.In.later h hb
theorem InSub.below {n : Nat} {W W' : World} {qo : Option Addr} {q : List (Int)} (h : InSub n W qo q) (hb : Below n W W') : InSub n W' qo q := Kind.In.below h hb
theorem FrSub.in {lo hi : Nat} {W : World} {qo : Option Addr} {qc : Nat} {q : List (Int)} (h : FrSub lo hi W qo qc q) : InSub W.heap.size W qo q := Kind.Fresh.in h
theorem FrSub.later {lo hi : Nat} {W W' : World} {qo : Option Addr} {qc : Nat} {q : List (Int)} (h : FrSub lo hi W qo qc q) (hb : Below W.heap.size W W') : FrSub lo hi W' qo qc q := Kind.Fresh.later h hb
theorem FrSub.keep {lo hi : Nat} {W W' : World} {qo : Option Addr} {qc : Nat} {q : List (Int)} (h : FrSub lo hi W qo qc q) (hk : ∀ k, lo ≤ k → k < hi → k < W.heap.size → W'.heap[k]? = W.heap[k]?) : FrSub lo hi W' qo qc q := Kind.Fresh.keep h hk
theorem FrSub.wide {lo hi lo' hi' : Nat} {W : World} {qo : Option Addr} {qc : Nat} {q : List (Int)} (h : FrSub lo hi W qo qc q) (h1 : lo' ≤ lo) (h2 : hi ≤ hi') : FrSub lo' hi' W qo qc q := Kind.Fresh.wide h h1 h2
theorem FrSub.low {lo hi : Nat} {W : World} {qo : Option Addr} {qc : Nat} {q : List (Int)} (h : FrSub lo hi W qo qc q) {hi' : Nat} (h2 : W.heap.size ≤ hi') : FrSub lo hi' W qo qc q := Kind.Fresh.low h h2
theorem FrSub.setBelow {lo hi : Nat} {W : World} {qo : Option Addr} {qc : Nat} {q : List (Int)} (h : FrSub lo hi W qo qc q) {a : Addr} (ha : a.block < lo) (u : Value) : FrSub lo hi (W.setCell a u) qo qc q := Kind.Fresh.setBelow h ha u
theorem FrSub.setAbove {lo hi : Nat} {W : World} {qo : Option Addr} {qc : Nat} {q : List (Int)} (h : FrSub lo hi W qo qc q) {a : Addr} (ha : hi ≤ a.block) (u : Value) : FrSub lo hi (W.setCell a u) qo qc q := Kind.Fresh.setAbove h ha u
theorem FrSub.setOff {lo hi : Nat} {W : World} {qo : Option Addr} {qc : Nat} {q : List (Int)} (h : FrSub lo hi W qo qc q) {a : Addr} (ha : a.block < lo ∨ hi ≤ a.block) (u : Value) : FrSub lo hi (W.setCell a u) qo qc q := Kind.Fresh.setOff h ha u
theorem FrSub.between' {lo hi lo' hi' : Nat} {W W' : World} {qo : Option Addr} {qc : Nat} {q : List (Int)} (h : FrSub lo hi W qo qc q) (hb : Between lo' hi' W W') (hd : hi ≤ lo' ∨ hi' ≤ lo) : FrSub lo hi W' qo qc q := Kind.Fresh.between' h hb hd
/-- A Sub in memory: its scalars, and of each row where it begins, its room, what it holds. -/
abbrev LSub := Int × Int × Bool × Int × (Option Addr × Nat × List (Int))
/-- What a Sub says, wherever it lies. -/
abbrev PSub := Int × Int × Bool × Int × List (Int)
def valSub (a : LSub) : PSub := (a.1, a.2.1, a.2.2.1, a.2.2.2.1, a.2.2.2.2.2.2)
def hSub : Kind LSub := ⟨36, 23, 5, fun t => [.int .i64 t.1, .int .i64 t.2.1, .bool (t.2.2.1), .int .i64 t.2.2.2.1, .slice t.2.2.2.2.1 t.2.2.2.2.2.2.length t.2.2.2.2.2.1], fun _ => rfl, fun a v h => by simp at h; rcases h with rfl | rfl | rfl | rfl | rfl <;> rfl⟩
theorem Try.info36 : (Try.prog.info? 36).map (fun i => (i.zero, i.size, i.bytes)) = some (some (.agg #[.int .i64 0, .int .i64 0, .bool false, .int .i64 0, .slice none 0 0]), 5, 56) := by kernel_rfl
theorem hSub_ok : hSub.Ok := kind_ok (K := hSub) Try.underlying23 Try.info36 rfl (by decide) (by decide)
theorem hSub_at {n : Nat} {W : World} {ao : Option Addr} {ts : List LSub} (h : hSub.In n W ao ts) {k : Nat} (hk : k < ts.length) :
    ∃ b off, ao = some ⟨b, off, none⟩ ∧ b < n ∧ ∀ j, j < ts.length → W.cell? ⟨b, off + j * 5, none⟩ = some (.int .i64 (el ts j).1) ∧ W.cell? ⟨b, off + j * 5 + 1, none⟩ = some (.int .i64 (el ts j).2.1) ∧ W.cell? ⟨b, off + j * 5 + 2, none⟩ = some (.bool ((el ts j).2.2.1)) ∧ W.cell? ⟨b, off + j * 5 + 3, none⟩ = some (.int .i64 (el ts j).2.2.2.1) ∧ W.cell? ⟨b, off + j * 5 + 4, none⟩ = some (.slice (el ts j).2.2.2.2.1 (el ts j).2.2.2.2.2.2.length (el ts j).2.2.2.2.2.1) := by
  obtain ⟨b, off, e, hb, hc⟩ := h.pos hk
  exact ⟨b, off, e, hb, fun j hj => ⟨hc j hj 0 (by decide), hc j hj 1 (by decide), hc j hj 2 (by decide), hc j hj 3 (by decide), hc j hj 4 (by decide)⟩⟩
def dSub : Deep LSub := ⟨hSub, fun n W a => InSub n W (a.2.2.2.2).1 (a.2.2.2.2).2.2, fun lo hi W a => FrSub lo hi W (a.2.2.2.2).1 (a.2.2.2.2).2.1 (a.2.2.2.2).2.2, fun a b => rowOwn (a.2.2.2.2).1 (a.2.2.2.2).2.2 b⟩
theorem InSub.up {n m : Nat} {W : World} {qo : Option Addr} {q : List (Int)} (h : InSub n W qo q) (hm : n ≤ m) : InSub m W qo q := Kind.In.up h hm
theorem dSub_ok : dSub.Ok where
  kok := hSub_ok
  below := fun h hb => InSub.below h hb
  up := fun h hm => InSub.up h hm
  fin := fun h => FrSub.in h
  keep := fun {lo hi W W' a} h hk => Kind.Fresh.keepB h fun b hb => hk b (hb)
  wide := fun h h1 h2 => FrSub.wide h h1 h2
  lt := fun {lo hi W a b} h hb => by
    obtain ⟨h1, h2, h3, cur, h4⟩ := Kind.Fresh.lt (h : kI.Fresh _ _ _ _ _ _) hb
    exact ⟨h1, h2, h3, cur, _, h4, by decide⟩
/-- How many there are behind a Sub. -/
def sizeSub (a : LSub) : Nat := (a.2.2.2.2).2.2.length
def totSub (ts : List LSub) : Nat := (ts.map sizeSub).sum
theorem totSub_take {ts : List LSub} {k : Nat} (h : k < ts.length) : totSub (ts.take (k + 1)) = totSub (ts.take k) + sizeSub (el ts k) := by rw [take_succ_el h]; simp [totSub]
theorem totSub_le (ts : List LSub) (k : Nat) : totSub (ts.take k) ≤ totSub ts := by
  induction ts generalizing k with
  | nil => simp [totSub]
  | cons x r ih =>
    cases k with
    | zero => simp [totSub]
    | succ k => simp only [List.take_succ_cons, totSub, List.map_cons, List.sum_cons]; have := ih k; simp only [totSub] at this; omega
theorem totSub_el {ts : List LSub} {k : Nat} (h : k < ts.length) : totSub (ts.take k) + sizeSub (el ts k) ≤ totSub ts := by rw [← totSub_take h]; exact totSub_le ts _
end Go.Proofs.Ytimkadnnhfllnaa
