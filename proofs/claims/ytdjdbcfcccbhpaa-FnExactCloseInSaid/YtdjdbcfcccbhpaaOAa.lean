
/- Rows of waiters and of ints in memory: what lies where. No conditions but those written. -/
import Derived.Test.YtdjdbcfcccbhpaaOPa
import Derived.Test.YtdjdbcfcccbhpaaRows
import Derived.WalkKit
import Derived.WalkSpells
import Derived.Deep.RegionWith
import Derived.Deep.QuietTactic
import Derived.BigQuiet
import Derived.Laws.CopyOwn
import Derived.ArgAppend
import Derived.OwnWalk
namespace Go.Proofs.Ytdjdbcfcccbhpaa.Old
open Go.RowKit

theorem ret_bool {a b : Bool} (h : a = b) : Ending.returned (.bool a) = .returned (.bool b) := by rw [h]
theorem ret_int {k : IntKind} {a b : Int} (h : a = b) : Ending.returned (.int k a) = .returned (.int k b) := by rw [h]
theorem below1 (w : World) (o : Obj) : Below w.heap.size w (w.alloc o) := (Below.refl _ _).alloc (Nat.le_refl _) _
theorem below2 (w : World) (o p : Obj) : Below w.heap.size w ((w.alloc o).alloc p) := (below1 w o).alloc (by simp) _
theorem below3 (w : World) (o p q : Obj) : Below w.heap.size w (((w.alloc o).alloc p).alloc q) := (below2 w o p).alloc (by simp; omega) _
/-- The slice at ao holds the timers ts, in a block below n. -/
def TimersIn (n : Nat) (W : World) (ao : Option Addr) (ts : List T3) : Prop :=
  ts = [] ∨ ∃ b off, ao = some ⟨b, off, none⟩ ∧ b < n ∧ ∀ j, j < ts.length → W.cell? ⟨b, off + j * 3, none⟩ = some (.int .i64 (t3 ts j).1) ∧ W.cell? ⟨b, off + j * 3 + 1, none⟩ = some (.int .i64 (t3 ts j).2.1) ∧ W.cell? ⟨b, off + j * 3 + 2, none⟩ = some (.int .i64 (t3 ts j).2.2)
theorem TimersIn.pos {n : Nat} {W : World} {ao : Option Addr} {ts : List T3} (h : TimersIn n W ao ts) {k : Nat} (hk : k < ts.length) :
    ∃ b off, ao = some ⟨b, off, none⟩ ∧ b < n ∧ ∀ j, j < ts.length → W.cell? ⟨b, off + j * 3, none⟩ = some (.int .i64 (t3 ts j).1) ∧ W.cell? ⟨b, off + j * 3 + 1, none⟩ = some (.int .i64 (t3 ts j).2.1) ∧ W.cell? ⟨b, off + j * 3 + 2, none⟩ = some (.int .i64 (t3 ts j).2.2) := by
  rcases h with rfl | h
  · simp at hk
  · exact h
theorem TimersIn.below {n : Nat} {W W' : World} {ao : Option Addr} {ts : List T3} (h : TimersIn n W ao ts) (hb : Below n W W') : TimersIn n W' ao ts := by
  rcases h with rfl | ⟨b, off, e, hn, hc⟩
  · exact .inl rfl
  · exact .inr ⟨b, off, e, hn, fun j hj => ⟨(hb.cell (p := ⟨b, off + j * 3, none⟩) hn).trans (hc j hj).1, (hb.cell (p := ⟨b, off + j * 3 + 1, none⟩) hn).trans (hc j hj).2.1, (hb.cell (p := ⟨b, off + j * 3 + 2, none⟩) hn).trans (hc j hj).2.2⟩⟩
theorem TimersIn.later {W W' : World} {ao : Option Addr} {ts : List T3} (h : TimersIn W.heap.size W ao ts) (hb : Below W.heap.size W W') : TimersIn W'.heap.size W' ao ts := by
  rcases h.below hb with h | ⟨b, off, e, hn, hc⟩
  · exact .inl h
  · exact .inr ⟨b, off, e, Nat.lt_of_lt_of_le hn hb.size, hc⟩
theorem TimersIn.take {n : Nat} {W : World} {ao : Option Addr} {ts : List T3} (h : TimersIn n W ao ts) (k : Nat) : TimersIn n W ao (ts.take k) := by
  rcases h with rfl | ⟨b, off, e, hb, hc⟩
  · exact .inl (by simp)
  · refine .inr ⟨b, off, e, hb, fun j hj => ?_⟩
    have hj' : j < k ∧ j < ts.length := by simp at hj; omega
    have : t3 (ts.take k) j = t3 ts j := by simp [t3, hj'.1]
    rw [this]; exact hc j hj'.2
theorem TimersIn.drop {n : Nat} {W : World} {b off : Nat} {ts : List T3} (h : TimersIn n W (some ⟨b, off, none⟩) ts) (k : Nat) : TimersIn n W (some ⟨b, off + k * 3, none⟩) (ts.drop k) := by
  rcases h with rfl | ⟨b', off', e, hb, hc⟩
  · exact .inl (by simp)
  · simp at e
    obtain ⟨rfl, rfl⟩ := e
    refine .inr ⟨b, off + k * 3, rfl, hb, fun j hj => ?_⟩
    have hj' : k + j < ts.length := by simp at hj; omega
    have : t3 (ts.drop k) j = t3 ts (k + j) := by simp [t3]
    rw [this, show off + k * 3 + j * 3 = off + (k + j) * 3 from by omega]; exact hc (k + j) hj'
theorem TimersIn.row {n : Nat} {W : World} {ao : Option Addr} {ts : List T3} (h : TimersIn n W ao ts) : ∃ g, g ≤ n ∧ (ts = [] ∨ ∃ off, ao = some ⟨g, off, none⟩ ∧ g < n ∧ ∀ j, j < ts.length → W.cell? ⟨g, off + j * 3, none⟩ = some (.int .i64 (t3 ts j).1) ∧ W.cell? ⟨g, off + j * 3 + 1, none⟩ = some (.int .i64 (t3 ts j).2.1) ∧ W.cell? ⟨g, off + j * 3 + 2, none⟩ = some (.int .i64 (t3 ts j).2.2)) := by
  rcases h with h | ⟨b, off, e, hb, hc⟩
  · exact ⟨0, Nat.zero_le _, .inl h⟩
  · exact ⟨b, Nat.le_of_lt hb, .inr ⟨off, e, hb, hc⟩⟩
theorem Try.info70 : (Try.prog.info? 70).map (fun i => (i.zero, i.size, i.bytes)) = some (some (.agg #[.int .i64 0, .int .i64 0, .int .i64 0]), 3, 24) := by kernel_rfl
theorem Try.size70 : (Try.prog.info? 70).map (·.size) = some 3 := by kernel_rfl
theorem ownsRow_below {w w' : World} {base : Nat} {e : TypeId} {size : Nat} {v : Value} {n : Nat} {xs : List Value} (h : w.ownsRow base e size v n xs) (hb : Below w.heap.size w w') : w'.ownsRow base e size v n xs := by
  obtain ⟨h1, h2⟩ := h
  refine ⟨h1, ?_⟩
  rcases h2 with h2 | ⟨g, cap, cur, hv, hg, hh, r⟩
  · exact Or.inl h2
  · have hlt : g < w.heap.size := (Array.getElem?_eq_some_iff.1 hh).1
    exact Or.inr ⟨g, cap, cur, hv, hg, by rw [hb.block g hlt]; exact hh, r⟩
theorem owns_lt {W : World} {base e size g n cap : Nat} {xs : List Value} (h : W.ownsRow base e size (.slice (some ⟨g, 0, none⟩) n cap) n xs) : base ≤ g ∧ g < W.heap.size := by
  rcases h.2 with ⟨h', _⟩ | ⟨g', cap', cur, h', hb, hg, _⟩
  · simp at h'
  · simp only [Value.slice.injEq, Option.some.injEq, Addr.mk.injEq, and_true, true_and] at h'
    obtain ⟨rfl, rfl⟩ := h'
    exact ⟨hb, (Array.getElem?_eq_some_iff.1 hg).1⟩
theorem ownsRow_base {w : World} {base base' : Nat} {e : TypeId} {size : Nat} {g n cap : Nat} {xs : List Value} (h : w.ownsRow base e size (.slice (some ⟨g, 0, none⟩) n cap) n xs) (hg : base' ≤ g) : w.ownsRow base' e size (.slice (some ⟨g, 0, none⟩) n cap) n xs := by
  obtain ⟨h1, h2⟩ := h
  refine ⟨h1, ?_⟩
  rcases h2 with ⟨h', _⟩ | ⟨g', cap', cur, h', r⟩
  · simp at h'
  · have h'' := h'
    simp only [Value.slice.injEq, Option.some.injEq, Addr.mk.injEq, and_true, true_and] at h''
    obtain ⟨rfl, rfl⟩ := h''
    exact Or.inr ⟨g, cap, cur, h', hg, r.2⟩
theorem owns_block {w w' : World} {base : Nat} {e : TypeId} {size g n cap : Nat} {xs : List Value} (h : w.ownsRow base e size (.slice (some ⟨g, 0, none⟩) n cap) n xs) (hb : w'.heap[g]? = w.heap[g]?) : w'.ownsRow base e size (.slice (some ⟨g, 0, none⟩) n cap) n xs := by
  obtain ⟨h1, h2⟩ := h
  refine ⟨h1, ?_⟩
  rcases h2 with ⟨h', _⟩ | ⟨g', cap', cur, h', hg, hh, r⟩
  · simp at h'
  · have h'' := h'
    simp only [Value.slice.injEq, Option.some.injEq, Addr.mk.injEq, and_true, true_and] at h''
    obtain ⟨rfl, rfl⟩ := h''
    exact Or.inr ⟨g, cap, cur, h', hg, by rw [hb]; exact hh, r⟩
/-- The cells xs are those of the timers ts. -/
def Cells3 (xs : List Value) (ts : List T3) : Prop := ∀ j, j < ts.length → xs[j * 3]? = some (.int .i64 (t3 ts j).1) ∧ xs[j * 3 + 1]? = some (.int .i64 (t3 ts j).2.1) ∧ xs[j * 3 + 2]? = some (.int .i64 (t3 ts j).2.2)
/-- The timers ts lie in a row of their own, in a block from lo on and before hi. -/
def FreshC (lo hi : Nat) (W : World) (to : Option Addr) (tc : Nat) (ts : List T3) : Prop :=
  ts = [] ∨ ∃ g xs, to = some ⟨g, 0, none⟩ ∧ g < hi ∧ W.ownsRow lo 70 3 (.slice (some ⟨g, 0, none⟩) ts.length tc) ts.length xs ∧ Cells3 xs ts
theorem FreshC.timers {lo hi : Nat} {W : World} {to : Option Addr} {tc : Nat} {ts : List T3} (h : FreshC lo hi W to tc ts) : TimersIn W.heap.size W to ts := by
  rcases h with h | ⟨g, xs, rfl, _, ho, hp⟩
  · exact .inl h
  · refine .inr ⟨g, 0, rfl, (owns_lt ho).2, fun j hj => ⟨?_, ?_, ?_⟩⟩
    · rw [Nat.zero_add, ho.cellAt (j * 3) (by omega)]; exact (hp j hj).1
    · rw [Nat.zero_add, ho.cellAt (j * 3 + 1) (by omega)]; exact (hp j hj).2.1
    · rw [Nat.zero_add, ho.cellAt (j * 3 + 2) (by omega)]; exact (hp j hj).2.2
theorem FreshC.keep {lo hi : Nat} {W W' : World} {to : Option Addr} {tc : Nat} {ts : List T3} (h : FreshC lo hi W to tc ts) (hk : ∀ k, lo ≤ k → k < hi → k < W.heap.size → W'.heap[k]? = W.heap[k]?) : FreshC lo hi W' to tc ts := by
  rcases h with h | ⟨g, xs, e, hg, ho, hp⟩
  · exact .inl h
  · exact .inr ⟨g, xs, e, hg, owns_block ho (hk g (owns_lt ho).1 hg (owns_lt ho).2), hp⟩
theorem FreshC.later {lo hi : Nat} {W W' : World} {to : Option Addr} {tc : Nat} {ts : List T3} (h : FreshC lo hi W to tc ts) (hb : Below W.heap.size W W') : FreshC lo hi W' to tc ts := h.keep fun k _ _ hk => hb.block k hk
theorem FreshC.wide {lo hi lo' hi' : Nat} {W : World} {to : Option Addr} {tc : Nat} {ts : List T3} (h : FreshC lo hi W to tc ts) (h1 : lo' ≤ lo) (h2 : hi ≤ hi') : FreshC lo' hi' W to tc ts := by
  rcases h with h | ⟨g, xs, e, hg, ho, hp⟩
  · exact .inl h
  · exact .inr ⟨g, xs, e, by omega, ownsRow_base ho (Nat.le_trans h1 (owns_lt ho).1), hp⟩
theorem FreshC.setBelow {lo hi : Nat} {W : World} {to : Option Addr} {tc : Nat} {ts : List T3} (h : FreshC lo hi W to tc ts) {a : Addr} (ha : a.block < lo) (u : Value) : FreshC lo hi (W.setCell a u) to tc ts := h.keep fun k hk _ _ => Below.heap_setCell W a u k (by omega)
theorem FreshC.cap {lo hi : Nat} {W : World} {to : Option Addr} {tc : Nat} {ts : List T3} (h : FreshC lo hi W to tc ts) : ts.length ≤ tc := by
  rcases h with rfl | ⟨g, xs, rfl, _, ho, hp⟩
  · simp
  · rcases ho.2 with ⟨h', _⟩ | ⟨g', cap', cur, h', hb, hg, h1, _⟩
    · simp at h'
    · simp only [Value.slice.injEq, Option.some.injEq, Addr.mk.injEq, and_true, true_and] at h'
      obtain ⟨rfl, rfl⟩ := h'
      exact h1
/-- Nothing that was there has turned but for the block to which ao leads. -/
structure OnlyAt (ao : Option Addr) (w w' : World) : Prop where
  os : w'.os = w.os
  tape : w'.tape = w.tape
  output : w'.output = w.output
  size : w'.heap.size = w.heap.size
  block : ∀ k, (∀ g, ao = some ⟨g, 0, none⟩ → k ≠ g) → w'.heap[k]? = w.heap[k]?
theorem OnlyAt.refl (ao : Option Addr) (w : World) : OnlyAt ao w w := ⟨rfl, rfl, rfl, rfl, fun _ _ => rfl⟩
theorem OnlyAt.trans {ao : Option Addr} {a b c : World} (h : OnlyAt ao a b) (k : OnlyAt ao b c) : OnlyAt ao a c :=
  ⟨k.os.trans h.os, k.tape.trans h.tape, k.output.trans h.output, k.size.trans h.size, fun i hi => (k.block i hi).trans (h.block i hi)⟩
theorem OnlyAt.set (g o : Nat) (w : World) (u : Value) : OnlyAt (some ⟨g, 0, none⟩) w (w.setCell ⟨g, o, none⟩ u) :=
  ⟨rfl, rfl, rfl, by simp [World.setCell], fun k hk => Below.heap_setCell _ _ _ _ (hk g rfl)⟩
theorem OnlyAt.cell {g : Nat} {w w' : World} (h : OnlyAt (some ⟨g, 0, none⟩) w w') (b o : Nat) (hne : b ≠ g) : w'.cell? ⟨b, o, none⟩ = w.cell? ⟨b, o, none⟩ := World.cell?_of_block (a := ⟨b, o, none⟩) (h.block b fun g' e => by cases e; exact hne)
theorem OnlyAt.frozen {g : Nat} {w w' : World} (h : OnlyAt (some ⟨g, 0, none⟩) w w') (b o : Nat) (hne : b ≠ g) : w'.frozen? ⟨b, o, none⟩ = w.frozen? ⟨b, o, none⟩ := World.frozen?_of_block (a := ⟨b, o, none⟩) (h.block b fun g' e => by cases e; exact hne)
/-- Outside the blocks from lo to hi nothing that was there has turned. -/
structure Between (lo hi : Nat) (w w' : World) : Prop where
  os : w'.os = w.os
  tape : w'.tape = w.tape
  output : w'.output = w.output
  size : w.heap.size ≤ w'.heap.size
  block : ∀ k, k < w.heap.size → (k < lo ∨ hi ≤ k) → w'.heap[k]? = w.heap[k]?
theorem Between.below {lo hi : Nat} {w w' : World} (h : Between lo hi w w') (hl : lo ≤ w.heap.size) : Below lo w w' :=
  ⟨h.os, h.tape, h.output, h.size, fun k hk => h.block k (by omega) (.inl hk)⟩
theorem Between.trans {lo hi : Nat} {a b c : World} (h : Between lo hi a b) (k : Between lo hi b c) : Between lo hi a c :=
  ⟨k.os.trans h.os, k.tape.trans h.tape, k.output.trans h.output, Nat.le_trans h.size k.size, fun i hi hr => (k.block i (Nat.lt_of_lt_of_le hi h.size) hr).trans (h.block i hi hr)⟩
theorem Between.of_below {lo hi : Nat} {w w' : World} (h : Below w.heap.size w w') : Between lo hi w w' :=
  ⟨h.os, h.tape, h.output, h.size, fun k hk _ => h.block k hk⟩
/-- The address of a row, none where it has no element. -/
def eff (ao : Option Addr) (n : Nat) : Option Addr := if n = 0 then none else ao
theorem eff_pos {ao : Option Addr} {n : Nat} (h : 0 < n) : eff ao n = ao := by unfold eff; rw [if_neg (by omega)]
theorem FreshC.between {lo hi : Nat} {W W' : World} {to : Option Addr} {tc : Nat} {ts : List T3} (h : FreshC lo hi W to tc ts) (hb : OnlyAt (eff to ts.length) W W') : Between lo hi W W' := by
  refine ⟨hb.os, hb.tape, hb.output, by rw [hb.size]; exact Nat.le_refl _, fun k _ hr => hb.block k fun g e => ?_⟩
  rcases h with rfl | ⟨g2, xs, e2, hg, ho, _⟩
  · simp [eff] at e
  · unfold eff at e
    split at e
    · cases e
    · rw [e2] at e; simp at e; subst e
      have := (owns_lt ho).1
      omega
theorem FreshC.between' {lo hi lo' hi' : Nat} {W W' : World} {to : Option Addr} {tc : Nat} {ts : List T3} (h : FreshC lo hi W to tc ts) (hb : Between lo' hi' W W') (hd : hi ≤ lo' ∨ hi' ≤ lo) : FreshC lo hi W' to tc ts :=
  h.keep fun k h1 h2 h3 => hb.block k h3 (by omega)
def markC (k : Int) (n : Nat) : List T3 := (List.range n).map (fun i : Nat => (k + 3 * (i : Int), k + 3 * (i : Int) + 1, k + 3 * (i : Int) + 2))
theorem markC_len (k : Int) (n : Nat) : (markC k n).length = n := by simp [markC]
theorem markC_at (k : Int) (n j : Nat) (h : j < n) : t3 (markC k n) j = (k + 3 * (j : Int), k + 3 * (j : Int) + 1, k + 3 * (j : Int) + 2) := by simp [markC, t3, h]
theorem run_copy_rows {P : Program} (w : World) (dT sT ty elem : TypeId) (g dLen dCap : Nat) (a : Addr) (sLen sCap : Nat) (cur : Array Value) (t : TypeId) (cs : List Value) (sz n : Nat)
    (hu : P.underlying dT = some (.slice elem)) (hs : (P.info? elem).map (·.size) = some sz) (hg : w.heap[g]? = some (.cells cur t (0, 0))) (hnm : Nat.min sLen dLen = n) (hn : cs.length = n * sz)
    (hsrc : ∀ j v, cs[j]? = some v → w.cell? (a.add j) = some v) (hfit : cs.length = cur.size) (h1 : ∀ v ∈ cs, v.oneCell' = true) :
    (Builtin.copy_ #[dT, sT] ty #[.slice (some ⟨g, 0, none⟩) dLen dCap, .slice (some a) sLen sCap]).run P w = .ok (goInt n) (w.setRow g cs.toArray) := by
  have hl := run_loadCells_list (P := P) w a cs hsrc
  have hst := run_storeCells_at P g 0 t cs 0 cur w hg (by omega) h1
  have e : cur.toList.drop cs.length = [] := List.drop_eq_nil_of_le (by simp [hfit])
  cases hq : P.info? elem with
  | none => simp [hq] at hs
  | some i =>
    have hi : i.size = sz := by simpa [hq] using hs
    simp only [Nat.zero_add, e, List.take_zero, List.nil_append, List.append_nil] at hst
    simp [Builtin.copy_, run_underlying hu, Builtin.lenOf, Builtin.firstCells, sizeOf, typeInfo, hq, hi, hnm, ← hn, hl, hst]
theorem owns_open {w : World} {base : Nat} {e : TypeId} {size : Nat} {g n cap : Nat} {xs : List Value} (h : w.ownsRow base e size (.slice (some ⟨g, 0, none⟩) n cap) n xs) :
    ∃ cur : List Value, w.heap[g]? = some (.cells cur.toArray e (0, 0)) ∧ cur.length = cap * size ∧ base ≤ g ∧ n ≤ cap ∧ cap ≤ maxLen := by
  rcases h.2 with ⟨h', _⟩ | ⟨g', cap', cur, h', hb, hg, h1, h2, h3, h4⟩
  · simp at h'
  · simp only [Value.slice.injEq, Option.some.injEq, Addr.mk.injEq, and_true, true_and] at h'
    obtain ⟨rfl, rfl⟩ := h'
    exact ⟨cur.toList, by simpa using hg, by simpa using h3, hb, h1, h2⟩
/-- The cells of a list of timers. -/
def tcells : List T3 → List Value
  | [] => []
  | t :: r => .int .i64 t.1 :: .int .i64 t.2.1 :: .int .i64 t.2.2 :: tcells r
theorem tcells_len : ∀ ts : List T3, (tcells ts).length = ts.length * 3
  | [] => rfl
  | t :: r => by simp [tcells, tcells_len r]; omega
theorem t3_succ (t : T3) (r : List T3) (j : Nat) : t3 (t :: r) (j + 1) = t3 r j := by simp [t3]
theorem tcells_at : ∀ ts : List T3, Cells3 (tcells ts) ts
  | [], j, h => by simp at h
  | t :: r, 0, _ => by simp [tcells, t3]
  | t :: r, j + 1, h => by
    have := tcells_at r j (by simpa using h)
    rw [show (j + 1) * 3 = j * 3 + 1 + 1 + 1 from by omega, t3_succ]
    simpa [tcells] using this
theorem tcells_one : ∀ (ts : List T3) (v : Value), v ∈ tcells ts → v.oneCell' = true
  | [], v, h => by simp [tcells] at h
  | t :: r, v, h => by
    simp [tcells] at h
    rcases h with rfl | rfl | rfl | h
    · rfl
    · rfl
    · rfl
    · exact tcells_one r v h
theorem tcells_app : ∀ (a b : List T3), tcells (a ++ b) = tcells a ++ tcells b
  | [], b => rfl
  | t :: r, b => by simp [tcells, tcells_app r b]
/-- The cells of a list are those alone. -/
theorem cells3_eq {xs : List Value} {ts : List T3} (h : Cells3 xs ts) (hl : xs.length = ts.length * 3) : xs = tcells ts := by
  apply List.ext_getElem?
  intro i
  by_cases hi : i < ts.length * 3
  · obtain ⟨h1, h2, h3⟩ := h (i / 3) (by omega)
    obtain ⟨k1, k2, k3⟩ := tcells_at ts (i / 3) (by omega)
    rcases (show i = i / 3 * 3 ∨ i = i / 3 * 3 + 1 ∨ i = i / 3 * 3 + 2 from by omega) with e | e | e
    · rw [← e] at h1 k1; rw [h1, k1]
    · rw [← e] at h2 k2; rw [h2, k2]
    · rw [← e] at h3 k3; rw [h3, k3]
  · rw [List.getElem?_eq_none (by omega), List.getElem?_eq_none (by rw [tcells_len]; omega)]
theorem tcells_src {w w1 : World} {b off n : Nat} {ts : List T3} (hB : Below n w w1) (hb : b < n)
    (hc : ∀ j, j < ts.length → w.cell? ⟨b, off + j * 3, none⟩ = some (.int .i64 (t3 ts j).1) ∧ w.cell? ⟨b, off + j * 3 + 1, none⟩ = some (.int .i64 (t3 ts j).2.1) ∧ w.cell? ⟨b, off + j * 3 + 2, none⟩ = some (.int .i64 (t3 ts j).2.2)) :
    ∀ i v, (tcells ts)[i]? = some v → w1.cell? ((⟨b, off, none⟩ : Addr).add i) = some v := by
  intro i v h
  have hi : i < ts.length * 3 := by have := (List.getElem?_eq_some_iff.1 h).1; rwa [tcells_len] at this
  have ea : (⟨b, off, none⟩ : Addr).add i = ⟨b, off + i, none⟩ := by by_cases h : i = 0 <;> simp [Addr.add, h]
  rw [ea, hB.cell (p := ⟨b, off + i, none⟩) hb]
  obtain ⟨h1, h2, h3⟩ := tcells_at ts (i / 3) (by omega)
  obtain ⟨k1, k2, k3⟩ := hc (i / 3) (by omega)
  rcases (show i = i / 3 * 3 ∨ i = i / 3 * 3 + 1 ∨ i = i / 3 * 3 + 2 from by omega) with e | e | e
  · rw [← e] at h1 k1; rw [k1, ← h1]; exact h
  · rw [← e] at h2; rw [Nat.add_assoc, ← e] at k2; rw [k2, ← h2]; exact h
  · rw [← e] at h3; rw [Nat.add_assoc, ← e] at k3; rw [k3, ← h3]; exact h
theorem freshC_row {w : World} {g lo : Nat} {ts : List T3} {cur : List Value} (hg : w.heap[g]? = some (.cells cur.toArray 70 (0, 0))) (hb : lo ≤ g) (hl : ts.length ≤ 2097152) : FreshC lo (g + 1) (w.setRow g (tcells ts).toArray) (some ⟨g, 0, none⟩) ts.length ts := by
  refine .inr ⟨g, tcells ts, rfl, by omega, ⟨tcells_len ts, .inr ⟨g, ts.length, (tcells ts).toArray, rfl, hb, ?_, Nat.le_refl _, by unfold maxLen; omega, by simp [tcells_len], by simp [List.take_of_length_le, tcells_len]⟩⟩, tcells_at ts⟩
  exact setRow_heap w g _ _ 70 _ hg
/-- v is a row of its own, from lo on, that holds the timers xs. -/
def OwnV (lo : Nat) (W : World) (v : Value) (xs : List T3) : Prop := W.ownsRow lo 70 3 v xs.length (tcells xs)
/-- nil, or a row from its start on. -/
def Wf (to : Option Addr) (tc : Nat) : Prop := (to = none ∧ tc = 0) ∨ ∃ g, to = some ⟨g, 0, none⟩
theorem OwnV.nil (lo : Nat) (W : World) : OwnV lo W (.slice none 0 0) [] := World.ownsRow_nil _ _ _ _
theorem OwnV.fresh {lo : Nat} {W : World} {v : Value} {xs : List T3} (h : OwnV lo W v xs) : ∃ to tc, v = .slice to xs.length tc ∧ FreshC lo W.heap.size W to tc xs ∧ Wf to tc := by
  rcases h.2 with ⟨e, h0⟩ | ⟨g, cap, cur, e, _⟩
  · have : xs = [] := List.length_eq_zero_iff.1 h0
    subst this
    exact ⟨none, 0, e, .inl rfl, .inl ⟨rfl, rfl⟩⟩
  · refine ⟨some ⟨g, 0, none⟩, cap, e, .inr ⟨g, tcells xs, rfl, ?_, ?_, tcells_at xs⟩, .inr ⟨g, rfl⟩⟩
    · unfold OwnV at h; rw [e] at h; exact (owns_lt h).2
    · unfold OwnV at h; rw [e] at h; exact h
theorem OwnV.below {lo : Nat} {W W' : World} {v : Value} {xs : List T3} (h : OwnV lo W v xs) (hb : Below W.heap.size W W') : OwnV lo W' v xs := ownsRow_below h hb
theorem OwnV.low {lo : Nat} {W : World} {v : Value} {xs : List T3} (h : OwnV lo W v xs) : ∀ k, v.ownBlock = some k → lo ≤ k := by
  rcases h.2 with ⟨e, _⟩ | ⟨g, cap, cur, e, hb, hh, _⟩
  · subst e; intro k h; simp [Value.ownBlock] at h
  · subst e; intro k h; simp [Value.ownBlock] at h; omega
theorem OwnV.grown {lo : Nat} {W W' : World} {v : Value} {xs : List T3} (h : OwnV lo W v xs) (hg : W.grownBy W' v.ownBlock) (k : Nat) (hk : k < lo) (hk2 : k < W.heap.size) : W'.heap[k]? = W.heap[k]? :=
  hg.block k hk2 (fun e => by have := h.low k e.symm; omega)
theorem OwnV.belowG {lo : Nat} {W W' : World} {v : Value} {xs : List T3} (h : OwnV lo W v xs) (hg : W.grownBy W' v.ownBlock) (hlo : lo ≤ W.heap.size) : Below lo W W' :=
  ⟨hg.os, hg.tape, hg.output, hg.size, fun k hk => h.grown hg k hk (by omega)⟩
theorem run_copy_part {P : Program} (w : World) (dT sT ty elem : TypeId) (g dLen dCap : Nat) (a : Addr) (sLen sCap : Nat) (cur : Array Value) (t : TypeId) (cs : List Value) (sz n : Nat)
    (hu : P.underlying dT = some (.slice elem)) (hs : (P.info? elem).map (·.size) = some sz) (hg : w.heap[g]? = some (.cells cur t (0, 0))) (hnm : Nat.min sLen dLen = n) (hn : cs.length = n * sz)
    (hsrc : ∀ j v, cs[j]? = some v → w.cell? (a.add j) = some v) (hfit : cs.length ≤ cur.size) (h1 : ∀ v ∈ cs, v.oneCell' = true) :
    (Builtin.copy_ #[dT, sT] ty #[.slice (some ⟨g, 0, none⟩) dLen dCap, .slice (some a) sLen sCap]).run P w = .ok (goInt n) (w.setRow g (cs ++ cur.toList.drop cs.length).toArray) := by
  have hl := run_loadCells_list (P := P) w a cs hsrc
  have hst := run_storeCells_at P g 0 t cs 0 cur w hg (by omega) h1
  cases hq : P.info? elem with
  | none => simp [hq] at hs
  | some i =>
    have hi : i.size = sz := by simpa [hq] using hs
    simp only [Nat.zero_add, List.take_zero, List.nil_append] at hst
    simp [Builtin.copy_, run_underlying hu, Builtin.lenOf, Builtin.firstCells, sizeOf, typeInfo, hq, hi, hnm, ← hn, hl, hst]
theorem run_copy_zero {P : Program} (w : World) (dT sT ty elem : TypeId) (sz : Nat) (d a : Option Addr) (dLen dCap sLen sCap : Nat) (hu : P.underlying dT = some (.slice elem)) (hs : (P.info? elem).map (·.size) = some sz) (hn : Nat.min sLen dLen = 0) :
    (Builtin.copy_ #[dT, sT] ty #[.slice d dLen dCap, .slice a sLen sCap]).run P w = .ok (goInt 0) w := by
  cases hq : P.info? elem with
  | none => simp [hq] at hs
  | some i =>
    have hl : ∀ (x : Addr), (loadCells x 0).run P w = .ok #[] w := fun x => by simpa using run_loadCells_list (P := P) w x [] (by simp)
    cases d <;> cases a <;> simp [Builtin.copy_, run_underlying hu, Builtin.lenOf, Builtin.firstCells, sizeOf, typeInfo, hq, hn, storeCells, hl]
theorem with_end {w1 : World} {g lo : Nat} {cur xs : List Value} {ts : List T3} {t : T3} (hcur : w1.heap[g]? = some (.cells cur.toArray 70 (0, 0))) (hb : lo ≤ g) (hl : ts.length ≤ 2097152) (hx : xs.length = ts.length * 3 + 3) (hp : xs.take (ts.length * 3) = tcells ts) (hc : cur = ((xs.set (ts.length * 3) (.int .i64 t.1)).set (ts.length * 3 + 1) (.int .i64 t.2.1)).set (ts.length * 3 + 2) (.int .i64 t.2.2)) :
    FreshC lo (g + 1) w1 (some ⟨g, 0, none⟩) (ts.length + 1) (ts ++ [t]) := by
  have e : cur = tcells (ts ++ [t]) := by
    rw [hc, tcells_app, ← hp]
    apply List.ext_getElem?
    intro j
    simp only [List.getElem?_set, List.length_set]
    have hlt : (xs.take (ts.length * 3)).length = ts.length * 3 := by simp; omega
    by_cases h2 : j < ts.length * 3
    · rw [if_neg (by omega), if_neg (by omega), if_neg (by omega), List.getElem?_append_left (by omega), List.getElem?_take, if_pos h2]
    · rw [List.getElem?_append_right (by omega), hlt]
      rcases (show j = ts.length * 3 ∨ j = ts.length * 3 + 1 ∨ j = ts.length * 3 + 2 ∨ ts.length * 3 + 2 < j from by omega) with e | e | e | e
      · subst e; rw [if_neg (by omega), if_neg (by omega), if_pos rfl, if_pos (by omega)]; simp [tcells]
      · subst e; rw [if_neg (by omega), if_pos rfl, if_pos (by omega)]; simp [tcells]
      · subst e; rw [if_pos rfl, if_pos (by omega)]; simp [tcells]
      · rw [if_neg (by omega), if_neg (by omega), if_neg (by omega), List.getElem?_eq_none (by omega), List.getElem?_eq_none (by simp [tcells]; omega)]
  subst e
  refine .inr ⟨g, tcells (ts ++ [t]), rfl, by omega, ⟨tcells_len _, .inr ⟨g, ts.length + 1, (tcells (ts ++ [t])).toArray, by simp, hb, hcur, by simp, by unfold maxLen; omega, by simp [tcells_len], by simp [List.take_of_length_le, tcells_len]⟩⟩, tcells_at _⟩
theorem with_copy {w w1 : World} {g n cap m : Nat} {ao : Option Addr} {cur : List Value} {ts : List T3} (hcur : w1.heap[g]? = some (.cells cur.toArray 70 (0, 0))) (hcl : cur.length = ts.length * 3 + 3) (hB : Below m w w1) (hz : TimersIn m w ao ts) :
    ∃ (W3 : World) (xs : List Value), (Builtin.copy_ #[43, 43] 3 #[.slice (some ⟨g, 0, none⟩) (ts.length + 1) n, .slice ao ts.length cap]).run Try.prog w1 = .ok (goInt ts.length) W3 ∧ W3.heap[g]? = some (.cells xs.toArray 70 (0, 0)) ∧ xs.length = ts.length * 3 + 3 ∧ xs.take (ts.length * 3) = tcells ts ∧ OnlyAt (some ⟨g, 0, none⟩) w1 W3 := by
  rcases hz with rfl | ⟨b, off, rfl, hb, hc⟩
  · exact ⟨w1, cur, run_copy_zero (P := Try.prog) w1 43 43 3 70 3 _ _ _ _ _ _ Try.underlying43 Try.size70 (by simp), hcur, hcl, by simp [tcells], OnlyAt.refl _ _⟩
  · refine ⟨_, _, run_copy_part (P := Try.prog) w1 43 43 3 70 g (ts.length + 1) n ⟨b, off, none⟩ ts.length cap cur.toArray 70 (tcells ts) 3 ts.length Try.underlying43 Try.size70 hcur (by simp) (tcells_len ts) (tcells_src hB hb hc) (by simp [tcells_len, hcl]) (tcells_one ts), setRow_heap w1 g _ _ 70 _ hcur, by simp [tcells_len, hcl] <;> omega, by rw [List.take_append_of_le_length (by rw [tcells_len]; exact Nat.le_refl _), List.take_of_length_le (by rw [tcells_len]; exact Nat.le_refl _)], ?_⟩
    exact ⟨rfl, rfl, rfl, by simp [World.setRow], fun k hk => setRow_other w1 g k _ (hk g rfl)⟩
/-- The slice at ao holds the ints zs, in a block below n. -/
def IntsIn (n : Nat) (W : World) (ao : Option Addr) (zs : List Int) : Prop :=
  zs = [] ∨ ∃ b off, ao = some ⟨b, off, none⟩ ∧ b < n ∧ ∀ j, j < zs.length → W.cell? ⟨b, off + j, none⟩ = some (.int .i64 (zs[j]?.getD 0))
theorem IntsIn.pos {n : Nat} {W : World} {ao : Option Addr} {zs : List Int} (h : IntsIn n W ao zs) {k : Nat} (hk : k < zs.length) :
    ∃ b off, ao = some ⟨b, off, none⟩ ∧ b < n ∧ ∀ j, j < zs.length → W.cell? ⟨b, off + j, none⟩ = some (.int .i64 (zs[j]?.getD 0)) := by
  rcases h with rfl | h
  · simp at hk
  · exact h
theorem IntsIn.below {n : Nat} {W W' : World} {ao : Option Addr} {zs : List Int} (h : IntsIn n W ao zs) (hb : Below n W W') : IntsIn n W' ao zs := by
  rcases h with rfl | ⟨b, off, e, hn, hc⟩
  · exact .inl rfl
  · exact .inr ⟨b, off, e, hn, fun j hj => (hb.cell (p := ⟨b, off + j, none⟩) hn).trans (hc j hj)⟩
theorem IntsIn.later {W W' : World} {ao : Option Addr} {zs : List Int} (h : IntsIn W.heap.size W ao zs) (hb : Below W.heap.size W W') : IntsIn W'.heap.size W' ao zs := by
  rcases h.below hb with h | ⟨b, off, e, hn, hc⟩
  · exact .inl h
  · exact .inr ⟨b, off, e, Nat.lt_of_lt_of_le hn hb.size, hc⟩
def FreshI (lo hi : Nat) (W : World) (qo : Option Addr) (qc : Nat) (q : List Int) : Prop :=
  q = [] ∨ ∃ g, qo = some ⟨g, 0, none⟩ ∧ g < hi ∧ W.ownsRow lo 3 1 (.slice (some ⟨g, 0, none⟩) q.length qc) q.length (q.map (Value.int .i64))
theorem FreshI.ints {lo hi : Nat} {W : World} {qo : Option Addr} {qc : Nat} {q : List Int} (h : FreshI lo hi W qo qc q) : IntsIn W.heap.size W qo q := by
  rcases h with h | ⟨g, rfl, _, ho⟩
  · exact .inl h
  · exact .inr ⟨g, 0, rfl, (owns_lt ho).2, fun j hj => by rw [Nat.zero_add, ho.cellAt j (by omega)]; simp [hj]⟩
theorem FreshI.keep {lo hi : Nat} {W W' : World} {qo : Option Addr} {qc : Nat} {q : List Int} (h : FreshI lo hi W qo qc q) (hk : ∀ k, lo ≤ k → k < hi → k < W.heap.size → W'.heap[k]? = W.heap[k]?) : FreshI lo hi W' qo qc q := by
  rcases h with h | ⟨g, e, hg, ho⟩
  · exact .inl h
  · exact .inr ⟨g, e, hg, owns_block ho (hk g (owns_lt ho).1 hg (owns_lt ho).2)⟩
theorem FreshI.later {lo hi : Nat} {W W' : World} {qo : Option Addr} {qc : Nat} {q : List Int} (h : FreshI lo hi W qo qc q) (hb : Below W.heap.size W W') : FreshI lo hi W' qo qc q := h.keep fun k _ _ hk => hb.block k hk
theorem FreshI.wide {lo hi lo' hi' : Nat} {W : World} {qo : Option Addr} {qc : Nat} {q : List Int} (h : FreshI lo hi W qo qc q) (h1 : lo' ≤ lo) (h2 : hi ≤ hi') : FreshI lo' hi' W qo qc q := by
  rcases h with h | ⟨g, e, hg, ho⟩
  · exact .inl h
  · exact .inr ⟨g, e, by omega, ownsRow_base ho (Nat.le_trans h1 (owns_lt ho).1)⟩
theorem FreshI.setBelow {lo hi : Nat} {W : World} {qo : Option Addr} {qc : Nat} {q : List Int} (h : FreshI lo hi W qo qc q) {a : Addr} (ha : a.block < lo) (u : Value) : FreshI lo hi (W.setCell a u) qo qc q := h.keep fun k hk _ _ => Below.heap_setCell W a u k (by omega)
def markI (k : Int) (n : Nat) : List Int := (List.range n).map (fun i : Nat => k + (i : Int))
theorem markI_len (k : Int) (n : Nat) : (markI k n).length = n := by simp [markI]
theorem markI_at (k : Int) (n j : Nat) (h : j < n) : (markI k n)[j]?.getD 0 = k + (j : Int) := by simp [markI, h]
theorem FreshI.between {lo hi : Nat} {W W' : World} {qo : Option Addr} {qc : Nat} {q : List Int} (h : FreshI lo hi W qo qc q) (hb : OnlyAt (eff qo q.length) W W') : Between lo hi W W' := by
  refine ⟨hb.os, hb.tape, hb.output, by rw [hb.size]; exact Nat.le_refl _, fun k _ hr => hb.block k fun g e => ?_⟩
  rcases h with rfl | ⟨g2, e2, hg, ho⟩
  · simp [eff] at e
  · unfold eff at e
    split at e
    · cases e
    · rw [e2] at e; simp at e; subst e
      have := (owns_lt ho).1
      omega
theorem FreshI.between' {lo hi lo' hi' : Nat} {W W' : World} {qo : Option Addr} {qc : Nat} {q : List Int} (h : FreshI lo hi W qo qc q) (hb : Between lo' hi' W W') (hd : hi ≤ lo' ∨ hi' ≤ lo) : FreshI lo hi W' qo qc q :=
  h.keep fun k h1 h2 h3 => hb.block k h3 (by omega)
theorem owns_type {w : World} {base : Nat} {e : TypeId} {size g n cap : Nat} {xs : List Value} (h : w.ownsRow base e size (.slice (some ⟨g, 0, none⟩) n cap) n xs) : ∃ cur, w.heap[g]? = some (.cells cur e (0, 0)) := by
  rcases h.2 with ⟨h', _⟩ | ⟨g', cap', cur, h', hb, hg, _⟩
  · simp at h'
  · simp only [Value.slice.injEq, Option.some.injEq, Addr.mk.injEq, and_true, true_and] at h'
    obtain ⟨rfl, rfl⟩ := h'
    exact ⟨cur, hg⟩
theorem owns_ne {w : World} {base base' size size' g g' n n' cap cap' : Nat} {xs xs' : List Value} (h : w.ownsRow base 70 size (.slice (some ⟨g, 0, none⟩) n cap) n xs) (h' : w.ownsRow base' 3 size' (.slice (some ⟨g', 0, none⟩) n' cap') n' xs') : g ≠ g' := by
  obtain ⟨c, e⟩ := owns_type h
  obtain ⟨c', e'⟩ := owns_type h'
  rintro rfl
  rw [e] at e'; simp at e'
theorem FreshI.only {lo hi lo' hi' : Nat} {W W' : World} {to qo : Option Addr} {tc qc : Nat} {ts : List T3} {q : List Int} (h : FreshI lo hi W qo qc q) (hT : FreshC lo' hi' W to tc ts) (hb : OnlyAt (eff to ts.length) W W') : FreshI lo hi W' qo qc q := by
  rcases h with h | ⟨g, e, hg, ho⟩
  · exact .inl h
  · refine .inr ⟨g, e, hg, owns_block ho (hb.block g fun g' e' => ?_)⟩
    rcases hT with rfl | ⟨g2, xs, e2, _, ho2, _⟩
    · simp [eff] at e'
    · unfold eff at e'
      split at e'
      · cases e'
      · rw [e2] at e'; simp at e'; subst e'
        exact fun x => owns_ne ho2 ho x.symm
theorem FreshC.only {lo hi lo' hi' : Nat} {W W' : World} {to qo : Option Addr} {tc qc : Nat} {ts : List T3} {q : List Int} (h : FreshC lo hi W to tc ts) (hI : FreshI lo' hi' W qo qc q) (hb : OnlyAt (eff qo q.length) W W') : FreshC lo hi W' to tc ts := by
  rcases h with h | ⟨g, xs, e, hg, ho, hp⟩
  · exact .inl h
  · refine .inr ⟨g, xs, e, hg, owns_block ho (hb.block g fun g' e' => ?_), hp⟩
    rcases hI with rfl | ⟨g2, e2, _, ho2⟩
    · simp [eff] at e'
    · unfold eff at e'
      split at e'
      · cases e'
      · rw [e2] at e'; simp at e'; subst e'
        exact owns_ne ho ho2
/-- v is a row of its own, from lo on, that holds the ints zs. -/
def OwnZ (lo : Nat) (W : World) (v : Value) (zs : List Int) : Prop := W.ownsRow lo 3 1 v zs.length (zs.map (Value.int .i64))
theorem OwnZ.nil (lo : Nat) (W : World) : OwnZ lo W (.slice none 0 0) [] := World.ownsRow_nil _ _ _ _
theorem OwnZ.fresh {lo : Nat} {W : World} {v : Value} {F : List Int} (h : OwnZ lo W v F) : ∃ go qc, v = .slice go F.length qc ∧ FreshI lo W.heap.size W go qc F := by
  rcases h.2 with ⟨e, h0⟩ | ⟨g, cap, cur, e, _⟩
  · have : F = [] := List.length_eq_zero_iff.1 h0
    subst this
    exact ⟨none, 0, e, .inl rfl⟩
  · refine ⟨some ⟨g, 0, none⟩, cap, e, .inr ⟨g, rfl, ?_, ?_⟩⟩
    · unfold OwnZ at h; rw [e] at h; exact (owns_lt h).2
    · unfold OwnZ at h; rw [e] at h; exact h
theorem OwnZ.low {lo : Nat} {W : World} {v : Value} {xs : List Int} (h : OwnZ lo W v xs) : ∀ k, v.ownBlock = some k → lo ≤ k := by
  rcases h.2 with ⟨e, _⟩ | ⟨g, cap, cur, e, hb, hh, _⟩
  · subst e; intro k h; simp [Value.ownBlock] at h
  · subst e; intro k h; simp [Value.ownBlock] at h; omega
theorem OwnZ.below {lo : Nat} {W W' : World} {v : Value} {xs : List Int} (h : OwnZ lo W v xs) (hb : Below W.heap.size W W') : OwnZ lo W' v xs := ownsRow_below h hb
theorem OwnZ.belowG {lo : Nat} {W W' : World} {v : Value} {xs : List Int} (h : OwnZ lo W v xs) (hg : W.grownBy W' v.ownBlock) (hlo : lo ≤ W.heap.size) : Below lo W W' :=
  ⟨hg.os, hg.tape, hg.output, hg.size, fun k hk => hg.block k (by omega) (fun e => by have := h.low k e.symm; omega)⟩
theorem wpList_appW {ops : Array Oper} {rest : List Oper} {o : Oper} {a : Act} {Q : Exit → Act → World → Prop} (W : World) (hg : o.guard = none) (s x : Operand) (hop : o.op = Op.call { callee := Callee.builtin Builtin.append, args := #[s, x], argTypes := #[43, 43] })
    (lo : Nat) (v : Value) (xs : List T3) (hs : a.eval s = v) (hown : OwnV lo W v xs) (hlo : lo ≤ W.heap.size)
    (ad : Addr) (ys : List T3) (m c : Nat) (hx : a.eval x = .slice (some ad) m c) (hm : ys.length = m) (n : Nat) (hz : TimersIn n W (some ad) ys) (hl : xs.length + ys.length ≤ 4194304)
    (hK : ∀ v' w', OwnV lo w' v' (xs ++ ys) → Below lo W w' → W.grownBy w' v.ownBlock → (v' = .slice none 0 0 ↔ v = .slice none 0 0 ∧ m = 0) → wpList Try.prog ops Q rest (a.put o.dst v') w') :
    wpList Try.prog ops Q (o :: rest) a W := by
  subst hm
  obtain ⟨i0, hin, hz0, hz1, hz2⟩ := info_parts Try.info70
  have hsrc : ∀ j u, (tcells ys)[j]? = some u → W.cell? (ad.add j) = some u := by
    rcases hz with rfl | ⟨b, off, e, hb, hc⟩
    · intro j u h; simp [tcells] at h
    · cases e; exact tcells_src (Below.refl _ _) hb hc
  refine wpList_append_own W hg s x 43 hop lo 70 i0 (.agg #[.int .i64 0, .int .i64 0, .int .i64 0]) 3 24 Try.underlying43 hin hz0 hz1 hz2 rfl (by decide) v xs.length (tcells xs) hs hown ad ys.length c (tcells ys) hx (tcells_len ys) hsrc (tcells_one ys) (by unfold maxLen; omega) (by omega) hlo ?_
  intro v' w' ho hgr hnil
  refine hK v' w' ?_ (hown.belowG hgr hlo) hgr hnil
  unfold OwnV
  rw [tcells_app, List.length_append]; exact ho
end Go.Proofs.Ytdjdbcfcccbhpaa.Old
