/- A row of its own that lies between two blocks; draws among numbers. No conditions but those written. Rows of things that have rows of their own. No conditions but those written. Nodes and rows of them: sizes, copies, comparisons. No conditions but those written. slices.IndexFunc and ContainsFunc, whatever function they are handed. No conditions but those written. Ints of which none is twice there; rows of ints copied. No conditions but those written. Names, on both sides. No conditions but those written. A region that draws its order, whose operations only read and whose callees read and make: walked once, in whatever later world. No conditions but those written. What each node of a graph must keep to: the program's tests. No conditions but those written. The five tests over a graph; the numbers of its nodes. No conditions but those written. Queues without one place: what serves every kind. No conditions but those written. A queue of ints: its iterator, without one place. No conditions but those written. -/
import Derived.Test.YtebnapgcobcilaaGreatDoorPGenSg
import Derived.Test.YtebnapgcobcilaaGreatDoorYa
import Derived.Shelf.Abstract
import Derived.Laws.IdiomStrings
import Derived.BigQuiet
import Derived.Test.YtebnapgcobcilaaGreatDoorPShSl
import Derived.RangeFuncNested
import Derived.RangeFuncBound
import Derived.RangeFuncCalls
import Derived.RangeFuncLeaves
import Derived.RangeFuncBox
import Derived.Shelf.RegionOpen
import Derived.OwnWalkIn
import Derived.TacticsInMore
import Derived.LoopNIn
import Derived.LoopIn
namespace Go.Proofs.YtebnapgcobcilaaGreatDoor
section
open Go.RowKit

theorem own_keep2 {α : Type} {K : Kind α} {lo hi : Nat} {W W' : World} {ao : Option Addr} {n c : Nat} {xs : List α} (h : K.Own lo W (.slice ao n c) xs) (hh : ∀ g o, ao = some ⟨g, o, none⟩ → g < hi) (hk : ∀ k, lo ≤ k → k < hi → k < W.heap.size → W'.heap[k]? = W.heap[k]?) : K.Own lo W' (.slice ao n c) xs := by
  obtain ⟨h1, h2⟩ := h
  refine ⟨h1, ?_⟩
  rcases h2 with h2 | ⟨g, cap, cur, hv, hg, hb, r⟩
  · exact .inl h2
  · have e : ao = some ⟨g, 0, none⟩ := by simp at hv; exact hv.1
    exact .inr ⟨g, cap, cur, hv, hg, by rw [hk g hg (hh g 0 e) (Array.getElem?_eq_some_iff.1 hb).1]; exact hb, r⟩
theorem own_hi {α : Type} {K : Kind α} {lo : Nat} {W : World} {ao : Option Addr} {n c : Nat} {xs : List α} (h : K.Own lo W (.slice ao n c) xs) : ∀ g o, ao = some ⟨g, o, none⟩ → g < W.heap.size := by
  intro g o e
  rcases h.2 with ⟨h', _⟩ | ⟨g', cap, cur, hv, _, hb, _⟩
  · rw [e] at h'; simp at h'
  · rw [e] at hv; simp at hv; obtain ⟨⟨rfl, _⟩, _⟩ := hv
    exact (Array.getElem?_eq_some_iff.1 hb).1
section
variable {α : Type} {K : Kind α}
/-- A row of its own in blocks from lo to hi. -/
def Kind.RW (K : Kind α) (lo hi : Nat) (W : World) (ao : Option Addr) (c : Nat) (xs : List α) : Prop := K.Own lo W (.slice ao xs.length c) xs ∧ ∀ g o, ao = some ⟨g, o, none⟩ → g < hi
variable {lo hi : Nat} {W W' : World} {ao : Option Addr} {c : Nat} {xs : List α}
theorem Kind.RW.keep (h : K.RW lo hi W ao c xs) (hk : ∀ k, lo ≤ k → k < hi → k < W.heap.size → W'.heap[k]? = W.heap[k]?) : K.RW lo hi W' ao c xs := ⟨own_keep2 h.1 h.2 hk, h.2⟩
theorem Kind.RW.later (h : K.RW lo hi W ao c xs) (hb : Below W.heap.size W W') : K.RW lo hi W' ao c xs := h.keep fun k _ _ hk => hb.block k hk
theorem Kind.RW.grew {p : Nat} (h : K.RW lo hi W ao c xs) (hg : Grew p W W') (hp : p < lo) : K.RW lo hi W' ao c xs := h.keep fun k h1 _ hk => hg.block k hk (by omega)
theorem Kind.RW.setOff (h : K.RW lo hi W ao c xs) {a : Addr} (ha : a.block < lo ∨ hi ≤ a.block) (u : Value) : K.RW lo hi (W.setCell a u) ao c xs := h.keep fun k h1 h2 _ => Below.heap_setCell W a u k (by omega)
theorem Kind.RW.wide {lo' hi' : Nat} (h : K.RW lo hi W ao c xs) (h1 : lo' ≤ lo) (h2 : hi ≤ hi') : K.RW lo' hi' W ao c xs := ⟨own_less h.1 h1, fun g o e => Nat.lt_of_lt_of_le (h.2 g o e) h2⟩
theorem Kind.RW.of (h : K.Own lo W (.slice ao xs.length c) xs) : K.RW lo W.heap.size W ao c xs := ⟨h, own_hi h⟩
theorem Kind.RW.nil : K.RW lo hi W none 0 [] := ⟨Kind.Own.nil _ _ _, fun g o e => by cases e⟩
theorem Kind.RW.in [Inhabited α] (h : K.RW lo hi W ao c xs) : K.In W.heap.size W ao xs := by
  obtain ⟨go, qc, e, _, hz⟩ := h.1.in
  simp at e; obtain ⟨rfl, rfl⟩ := e; exact hz
theorem Kind.RW.no [Inhabited α] (h : K.RW lo hi W ao c xs) : ao = none → c = 0 := by
  obtain ⟨go, qc, e, hn, _⟩ := h.1.in
  simp at e; obtain ⟨rfl, rfl⟩ := e; exact hn
theorem Kind.RW.cap (h : K.RW lo hi W ao c xs) : xs.length ≤ c := by
  obtain ⟨go, qc, e, _, hF⟩ := h.1.fresh
  simp at e; obtain ⟨rfl, rfl⟩ := e; exact hF.cap
theorem Kind.Own.as {lo : Nat} {v : Value} (h : K.Own lo W v xs) : ∃ ao c, v = .slice ao xs.length c ∧ K.Own lo W (.slice ao xs.length c) xs := by
  obtain ⟨ao, c, rfl, _, _⟩ := h.fresh
  exact ⟨ao, c, rfl, h⟩
end
theorem Cur.below {W W' : World} {p : Nat} {co : Option Addr} {cap : Nat} {bs : List Int} {k : Nat} {sd : Int} (h : Cur W p co cap bs k sd) {n : Nat} (hb : Below n W W') (hp : p < n) : Cur W' p co cap bs k sd := h.keep hb.size fun j hj => hb.block j (by omega)
theorem Grew.of_below2 {p n : Nat} {w W W' : World} (h : Grew p w W) (hb : Below n W W') (hn : w.heap.size ≤ n) : Grew p w W' := ⟨hb.os.trans h.os, hb.tape.trans h.tape, hb.output.trans h.output, Nat.le_trans h.size hb.size, fun j hj hp => (hb.block j (by omega)).trans (h.block j hj hp)⟩
theorem among_in (zs : List Int) (q p : Nat) (co : Option Addr) (cap : Nat) (bs : List Int) (k : Nat) (sd : Int) (w : World) (hl : bs.length ≤ 9223372036854775807) (ha : k ≤ 1099511627770) (hC : Cur w p co cap bs k sd) (h0 : 0 < zs.length) (h9 : zs.length ≤ 1048576) (hz : Bx w q (zs.map fun z => .int .i64 z)) (hb : q ≠ p) :
    Calls Tryz.prog 36 #[.pointer (some ⟨p, 0, none⟩), .slice (some ⟨q, 0, none⟩) zs.length zs.length] w fun e w' => (∃ z, z ∈ zs ∧ e = .returned (.int .i64 z)) ∧ Drawn w p co cap bs k 2 w' :=
  (among_any q 0 zs zs.length p co cap bs k sd w hl ha hC h0 h9 (bx_nums hz) hb).mono fun _ _ ⟨⟨j, hj, e⟩, h⟩ => ⟨⟨_, by simp [hj], e⟩, h⟩
end
section
open Go.RowKit

/-- The block b is the row's own. -/
def rowOwn {α : Type} (o : Option Addr) (xs : List α) (b : Nat) : Prop := 0 < xs.length ∧ o = some ⟨b, 0, none⟩
section
variable {α : Type} {K : Kind α}
theorem Kind.Fresh.keepB {lo hi : Nat} {W W' : World} {o : Option Addr} {c : Nat} {xs : List α} (h : K.Fresh lo hi W o c xs) (hk : ∀ b, rowOwn o xs b → W'.heap[b]? = W.heap[b]?) : K.Fresh lo hi W' o c xs := by
  rcases h with h | ⟨g, e, hg, ho⟩
  · exact .inl h
  · by_cases h0 : 0 < xs.length
    · exact .inr ⟨g, e, hg, owns_block ho (hk g ⟨h0, e⟩)⟩
    · exact .inl (List.length_eq_zero_iff.1 (by omega))
theorem Kind.Fresh.lt {lo hi : Nat} {W : World} {o : Option Addr} {c : Nat} {xs : List α} (h : K.Fresh lo hi W o c xs) {b : Nat} (hb : rowOwn o xs b) : lo ≤ b ∧ b < hi ∧ b < W.heap.size ∧ ∃ cur, W.heap[b]? = some (.cells cur K.ty (0, 0)) := by
  obtain ⟨h0, e⟩ := hb
  rcases h with h | ⟨g, e2, hg, ho⟩
  · rw [h] at h0; simp at h0
  · rw [e2] at e; simp at e; subst e
    exact ⟨(owns_lt ho).1, hg, (owns_lt ho).2, owns_type ho⟩
theorem only_own {o : Option Addr} {xs : List α} {W W' : World} (h : OnlyAt (eff o xs.length) W W') {b : Nat} (hb : ¬ rowOwn o xs b) : W'.heap[b]? = W.heap[b]? := by
  refine h.block b fun g e eb => ?_
  subst eb
  unfold eff at e
  split at e
  · cases e
  · exact hb ⟨by omega, e⟩
end
/-- Things with a head of cells and rows behind it. -/
structure Deep (A : Type) where
  K : Kind A
  In : Nat → World → A → Prop
  Fr : Nat → Nat → World → A → Prop
  own : A → Nat → Prop
structure Deep.Ok {A : Type} [Inhabited A] (D : Deep A) : Prop where
  kok : D.K.Ok
  below : ∀ {n : Nat} {W W' : World} {a : A}, D.In n W a → Below n W W' → D.In n W' a
  up : ∀ {n m : Nat} {W : World} {a : A}, D.In n W a → n ≤ m → D.In m W a
  fin : ∀ {lo hi : Nat} {W : World} {a : A}, D.Fr lo hi W a → D.In W.heap.size W a
  keep : ∀ {lo hi : Nat} {W W' : World} {a : A}, D.Fr lo hi W a → (∀ b, D.own a b → W'.heap[b]? = W.heap[b]?) → D.Fr lo hi W' a
  wide : ∀ {lo hi lo' hi' : Nat} {W : World} {a : A}, D.Fr lo hi W a → lo' ≤ lo → hi ≤ hi' → D.Fr lo' hi' W a
  lt : ∀ {lo hi : Nat} {W : World} {a : A} {b : Nat}, D.Fr lo hi W a → D.own a b → lo ≤ b ∧ b < hi ∧ b < W.heap.size ∧ ∃ cur t, W.heap[b]? = some (.cells cur t (0, 0)) ∧ t ≠ D.K.ty
section
variable {A : Type} [Inhabited A] {D : Deep A}
/-- The things lie below n, their heads at ao. -/
def DIn (D : Deep A) (n : Nat) (W : World) (ao : Option Addr) (ts : List A) : Prop := D.K.In n W ao ts ∧ ∀ j, j < ts.length → D.In n W (el ts j)
theorem DIn.below (hD : D.Ok) {n : Nat} {W W' : World} {ao : Option Addr} {ts : List A} (h : DIn D n W ao ts) (hb : Below n W W') : DIn D n W' ao ts := ⟨h.1.below hb, fun j hj => hD.below (h.2 j hj) hb⟩
theorem DIn.up (hD : D.Ok) {n m : Nat} {W : World} {ao : Option Addr} {ts : List A} (h : DIn D n W ao ts) (hm : n ≤ m) : DIn D m W ao ts := ⟨h.1.up hm, fun j hj => hD.up (h.2 j hj) hm⟩
theorem DIn.later (hD : D.Ok) {W W' : World} {ao : Option Addr} {ts : List A} (h : DIn D W.heap.size W ao ts) (hb : Below W.heap.size W W') : DIn D W'.heap.size W' ao ts := (h.below hD hb).up hD hb.size
theorem DIn.nil (n : Nat) (W : World) (ao : Option Addr) : DIn D n W ao [] := ⟨.inl rfl, fun j hj => by simp at hj⟩
/-- No two of the things share a block. -/
def Parted (D : Deep A) (ts : List A) : Prop := ∀ i j, i < j → j < ts.length → ∀ b, D.own (el ts i) b → ¬ D.own (el ts j) b
/-- The things are of their own, from lo on and before hi, apart from one another; their heads too. -/
def DFr (D : Deep A) (lo hi : Nat) (W : World) (ao : Option Addr) (c : Nat) (ts : List A) : Prop := D.K.Fresh lo hi W ao c ts ∧ (∀ j, j < ts.length → D.Fr lo hi W (el ts j)) ∧ Parted D ts
variable {lo hi : Nat} {W W' : World} {ao : Option Addr} {c : Nat} {ts : List A}
theorem DFr.in (hD : D.Ok) (h : DFr D lo hi W ao c ts) : DIn D W.heap.size W ao ts := ⟨h.1.in, fun j hj => hD.fin (h.2.1 j hj)⟩
theorem DFr.keep (hD : D.Ok) (h : DFr D lo hi W ao c ts) (hk : ∀ k, lo ≤ k → k < hi → k < W.heap.size → W'.heap[k]? = W.heap[k]?) : DFr D lo hi W' ao c ts :=
  ⟨h.1.keep hk, fun j hj => hD.keep (h.2.1 j hj) fun b hb => by obtain ⟨h1, h2, h3, _⟩ := hD.lt (h.2.1 j hj) hb; exact hk b h1 h2 h3, h.2.2⟩
theorem DFr.later (hD : D.Ok) (h : DFr D lo hi W ao c ts) (hb : Below W.heap.size W W') : DFr D lo hi W' ao c ts := h.keep hD fun k _ _ hk => hb.block k hk
theorem DFr.wide (hD : D.Ok) {lo' hi' : Nat} (h : DFr D lo hi W ao c ts) (h1 : lo' ≤ lo) (h2 : hi ≤ hi') : DFr D lo' hi' W ao c ts := ⟨h.1.wide h1 h2, fun j hj => hD.wide (h.2.1 j hj) h1 h2, h.2.2⟩
theorem DFr.between' (hD : D.Ok) {lo' hi' : Nat} (h : DFr D lo hi W ao c ts) (hb : Between lo' hi' W W') (hd : hi ≤ lo' ∨ hi' ≤ lo) : DFr D lo hi W' ao c ts := h.keep hD fun k h1 h2 h3 => hb.block k h3 (by omega)
theorem DFr.nil (lo hi : Nat) (W : World) (ao : Option Addr) (c : Nat) : DFr D lo hi W ao c [] := ⟨.inl rfl, fun j hj => by simp at hj, fun i j _ hj => by simp at hj⟩
/-- A block of one of the things is no head. -/
theorem DFr.head (hD : D.Ok) (h : DFr D lo hi W ao c ts) {j b : Nat} (hj : j < ts.length) (hb : D.own (el ts j) b) : ¬ rowOwn ao ts b := by
  intro hr
  obtain ⟨_, _, _, cur, t, h1, h2⟩ := hD.lt (h.2.1 j hj) hb
  obtain ⟨_, _, _, cur', h3⟩ := h.1.lt hr
  rw [h1] at h3
  simp at h3
  exact h2 h3.2
/-- The things up to k are laid. -/
structure LaidD (D : Deep A) (lo : Nat) (W : World) (ts : List A) (k : Nat) : Prop where
  len : ts.length = k
  row : ∀ j, j < k → D.Fr lo W.heap.size W (el ts j)
  off : Parted D ts
theorem LaidD.zero (lo : Nat) (W : World) : LaidD D lo W [] 0 := ⟨rfl, fun j hj => by omega, fun i j _ hj => by simp at hj⟩
theorem LaidD.keep (hD : D.Ok) {k : Nat} (h : LaidD D lo W ts k) (hs : W.heap.size ≤ W'.heap.size) (hb : ∀ i, lo ≤ i → i < W.heap.size → W'.heap[i]? = W.heap[i]?) : LaidD D lo W' ts k :=
  ⟨h.len, fun j hj => hD.wide (hD.keep (h.row j hj) fun b ho => by obtain ⟨h1, h2, _⟩ := hD.lt (h.row j hj) ho; exact hb b h1 h2) (Nat.le_refl _) hs, h.off⟩
theorem LaidD.later (hD : D.Ok) {k : Nat} (h : LaidD D lo W ts k) (hb : Below W.heap.size W W') : LaidD D lo W' ts k := h.keep hD hb.size fun i _ hi => hb.block i hi
theorem LaidD.set (hD : D.Ok) {k : Nat} (h : LaidD D lo W ts k) {a : Addr} (ha : a.block < lo) (u : Value) : LaidD D lo (W.setCell a u) ts k := h.keep hD (by simp [World.setCell]) fun i hi _ => Below.heap_setCell W a u i (by omega)
theorem el_snoc_left {α : Type} [Inhabited α] {l : List α} {x : α} {j k : Nat} (hl : l.length = k) (hj : j < k) : el (l ++ [x]) j = el l j := el_app_left (by omega)
theorem el_snoc_right {α : Type} [Inhabited α] {l : List α} {x : α} {k : Nat} (hl : l.length = k) : el (l ++ [x]) k = x := by
  have := el_app_right l [x] 0
  rw [hl, Nat.add_zero, el_zero] at this
  exact this
theorem LaidD.add (hD : D.Ok) {k : Nat} {a : A} (h : LaidD D lo W ts k) (hb : Below W.heap.size W W') (hlo : lo ≤ W.heap.size) (hF : D.Fr W.heap.size W'.heap.size W' a) : LaidD D lo W' (ts ++ [a]) (k + 1) := by
  have h2 := h.later hD hb
  refine ⟨by simp [h.len], fun j hj => ?_, fun i j hij hj b h1 => ?_⟩
  · rcases Nat.lt_succ_iff_lt_or_eq.1 hj with hj | rfl
    · rw [el_snoc_left h.len hj]; exact h2.row j hj
    · rw [el_snoc_right h.len]; exact hD.wide hF hlo (Nat.le_refl _)
  · have hj' : j < k + 1 := by simpa [h.len] using hj
    rcases Nat.lt_succ_iff_lt_or_eq.1 hj' with hj | rfl
    · rw [el_snoc_left h.len (by omega)] at h1
      rw [el_snoc_left h.len hj]
      exact h.off i j hij (by rw [h.len]; exact hj) b h1
    · rw [el_snoc_left h.len hij] at h1
      rw [el_snoc_right h.len]
      intro h3
      have h4 := (hD.lt (h.row i hij) h1).2.1
      have h5 := (hD.lt hF h3).1
      omega
theorem LaidD.fr (hD : D.Ok) {lo' k : Nat} (h : LaidD D lo W ts k) (hlo : lo' ≤ lo) (hF : D.K.Fresh lo' W.heap.size W ao c ts) : DFr D lo' W.heap.size W ao c ts :=
  ⟨hF, fun j hj => hD.wide (h.row j (by rw [← h.len]; exact hj)) hlo (Nat.le_refl _), h.off⟩
end
end
section
open Go.RowKit

theorem Kind.Fresh.setOff {α : Type} {K : Kind α} {lo hi : Nat} {W : World} {qo : Option Addr} {qc : Nat} {q : List α} (h : K.Fresh lo hi W qo qc q) {a : Addr} (ha : a.block < lo ∨ hi ≤ a.block) (u : Value) : K.Fresh lo hi (W.setCell a u) qo qc q := h.keep fun k h1 h2 _ => Below.heap_setCell W a u k (by omega)
theorem Kind.Fresh.notNew {α : Type} {K : Kind α} {lo hi : Nat} {W : World} {qo : Option Addr} {qc : Nat} {q : List α} (h : K.Fresh lo hi W qo qc q) {g : Nat} (e : eff qo q.length = some ⟨g, 0, none⟩) : W.heap.size ≠ g := by
  rcases h with rfl | ⟨g2, e2, hg, ho⟩
  · simp [eff] at e
  · unfold eff at e
    split at e
    · cases e
    · rw [e2] at e; simp at e; subst e
      have := (owns_lt ho).2; omega
/-- What lies behind a Node. -/
def InNode (n : Nat) (W : World) (nxo : Option Addr) (nx : List (Int)) : Prop := kI.In n W nxo nx
/-- What lies behind a Node, in memory of its own. -/
def FrNode (lo hi : Nat) (W : World) (nxo : Option Addr) (nxc : Nat) (nx : List (Int)) : Prop := kI.Fresh lo hi W nxo nxc nx
theorem InNode.later {W W' : World} {nxo : Option Addr} {nx : List (Int)} (h : InNode W.heap.size W nxo nx) (hb : Below W.heap.size W W') : InNode W'.heap.size W' nxo nx := Kind.In.later h hb
theorem InNode.below {n : Nat} {W W' : World} {nxo : Option Addr} {nx : List (Int)} (h : InNode n W nxo nx) (hb : Below n W W') : InNode n W' nxo nx := Kind.In.below h hb
theorem FrNode.in {lo hi : Nat} {W : World} {nxo : Option Addr} {nxc : Nat} {nx : List (Int)} (h : FrNode lo hi W nxo nxc nx) : InNode W.heap.size W nxo nx := Kind.Fresh.in h
theorem FrNode.later {lo hi : Nat} {W W' : World} {nxo : Option Addr} {nxc : Nat} {nx : List (Int)} (h : FrNode lo hi W nxo nxc nx) (hb : Below W.heap.size W W') : FrNode lo hi W' nxo nxc nx := Kind.Fresh.later h hb
theorem FrNode.keep {lo hi : Nat} {W W' : World} {nxo : Option Addr} {nxc : Nat} {nx : List (Int)} (h : FrNode lo hi W nxo nxc nx) (hk : ∀ k, lo ≤ k → k < hi → k < W.heap.size → W'.heap[k]? = W.heap[k]?) : FrNode lo hi W' nxo nxc nx := Kind.Fresh.keep h hk
theorem FrNode.wide {lo hi lo' hi' : Nat} {W : World} {nxo : Option Addr} {nxc : Nat} {nx : List (Int)} (h : FrNode lo hi W nxo nxc nx) (h1 : lo' ≤ lo) (h2 : hi ≤ hi') : FrNode lo' hi' W nxo nxc nx := Kind.Fresh.wide h h1 h2
theorem FrNode.low {lo hi : Nat} {W : World} {nxo : Option Addr} {nxc : Nat} {nx : List (Int)} (h : FrNode lo hi W nxo nxc nx) {hi' : Nat} (h2 : W.heap.size ≤ hi') : FrNode lo hi' W nxo nxc nx := Kind.Fresh.low h h2
theorem FrNode.setBelow {lo hi : Nat} {W : World} {nxo : Option Addr} {nxc : Nat} {nx : List (Int)} (h : FrNode lo hi W nxo nxc nx) {a : Addr} (ha : a.block < lo) (u : Value) : FrNode lo hi (W.setCell a u) nxo nxc nx := Kind.Fresh.setBelow h ha u
theorem FrNode.setAbove {lo hi : Nat} {W : World} {nxo : Option Addr} {nxc : Nat} {nx : List (Int)} (h : FrNode lo hi W nxo nxc nx) {a : Addr} (ha : hi ≤ a.block) (u : Value) : FrNode lo hi (W.setCell a u) nxo nxc nx := Kind.Fresh.setAbove h ha u
theorem FrNode.setOff {lo hi : Nat} {W : World} {nxo : Option Addr} {nxc : Nat} {nx : List (Int)} (h : FrNode lo hi W nxo nxc nx) {a : Addr} (ha : a.block < lo ∨ hi ≤ a.block) (u : Value) : FrNode lo hi (W.setCell a u) nxo nxc nx := Kind.Fresh.setOff h ha u
theorem FrNode.between' {lo hi lo' hi' : Nat} {W W' : World} {nxo : Option Addr} {nxc : Nat} {nx : List (Int)} (h : FrNode lo hi W nxo nxc nx) (hb : Between lo' hi' W W') (hd : hi ≤ lo' ∨ hi' ≤ lo) : FrNode lo hi W' nxo nxc nx := Kind.Fresh.between' h hb hd
/-- A Node in memory: its scalars, and of each row where it begins, its room, what it holds. -/
abbrev LNode := ByteArray × Int × Int × Int × Int × (Option Addr × Nat × List (Int))
/-- What a Node says, wherever it lies. -/
abbrev PNode := ByteArray × Int × Int × Int × Int × List (Int)
def valNode (a : LNode) : PNode := (a.1, a.2.1, a.2.2.1, a.2.2.2.1, a.2.2.2.2.1, a.2.2.2.2.2.2.2)
def hNode : Kind LNode := ⟨34, 23, 6, fun t => [.string t.1, .int .i64 t.2.1, .int .i64 t.2.2.1, .int .i64 t.2.2.2.1, .int .i64 t.2.2.2.2.1, .slice t.2.2.2.2.2.1 t.2.2.2.2.2.2.2.length t.2.2.2.2.2.2.1], fun _ => rfl, fun a v h => by simp at h; rcases h with rfl | rfl | rfl | rfl | rfl | rfl <;> rfl⟩
theorem Tryz.info34 : (Tryz.prog.info? 34).map (fun i => (i.zero, i.size, i.bytes)) = some (some (.agg #[.string ⟨#[]⟩, .int .i64 0, .int .i64 0, .int .i64 0, .int .i64 0, .slice none 0 0]), 6, 72) := by kernel_rfl
theorem hNode_ok : hNode.Ok := kind_ok (K := hNode) Tryz.underlying23 Tryz.info34 rfl (by decide) (by decide)
theorem hNode_at {n : Nat} {W : World} {ao : Option Addr} {ts : List LNode} (h : hNode.In n W ao ts) {k : Nat} (hk : k < ts.length) :
    ∃ b off, ao = some ⟨b, off, none⟩ ∧ b < n ∧ ∀ j, j < ts.length → W.cell? ⟨b, off + j * 6, none⟩ = some (.string (el ts j).1) ∧ W.cell? ⟨b, off + j * 6 + 1, none⟩ = some (.int .i64 (el ts j).2.1) ∧ W.cell? ⟨b, off + j * 6 + 2, none⟩ = some (.int .i64 (el ts j).2.2.1) ∧ W.cell? ⟨b, off + j * 6 + 3, none⟩ = some (.int .i64 (el ts j).2.2.2.1) ∧ W.cell? ⟨b, off + j * 6 + 4, none⟩ = some (.int .i64 (el ts j).2.2.2.2.1) ∧ W.cell? ⟨b, off + j * 6 + 5, none⟩ = some (.slice (el ts j).2.2.2.2.2.1 (el ts j).2.2.2.2.2.2.2.length (el ts j).2.2.2.2.2.2.1) := by
  obtain ⟨b, off, e, hb, hc⟩ := h.pos hk
  exact ⟨b, off, e, hb, fun j hj => ⟨hc j hj 0 (by decide), hc j hj 1 (by decide), hc j hj 2 (by decide), hc j hj 3 (by decide), hc j hj 4 (by decide), hc j hj 5 (by decide)⟩⟩
def dNode : Deep LNode := ⟨hNode, fun n W a => InNode n W (a.2.2.2.2.2).1 (a.2.2.2.2.2).2.2, fun lo hi W a => FrNode lo hi W (a.2.2.2.2.2).1 (a.2.2.2.2.2).2.1 (a.2.2.2.2.2).2.2, fun a b => rowOwn (a.2.2.2.2.2).1 (a.2.2.2.2.2).2.2 b⟩
theorem InNode.up {n m : Nat} {W : World} {nxo : Option Addr} {nx : List (Int)} (h : InNode n W nxo nx) (hm : n ≤ m) : InNode m W nxo nx := Kind.In.up h hm
theorem dNode_ok : dNode.Ok where
  kok := hNode_ok
  below := fun h hb => InNode.below h hb
  up := fun h hm => InNode.up h hm
  fin := fun h => FrNode.in h
  keep := fun {lo hi W W' a} h hk => Kind.Fresh.keepB h fun b hb => hk b (hb)
  wide := fun h h1 h2 => FrNode.wide h h1 h2
  lt := fun {lo hi W a b} h hb => by
    obtain ⟨h1, h2, h3, cur, h4⟩ := Kind.Fresh.lt (h : kI.Fresh _ _ _ _ _ _) hb
    exact ⟨h1, h2, h3, cur, _, h4, by decide⟩
/-- How many there are behind a Node. -/
def sizeNode (a : LNode) : Nat := a.1.size + (a.2.2.2.2.2).2.2.length
def totNode (ts : List LNode) : Nat := (ts.map sizeNode).sum
theorem totNode_take {ts : List LNode} {k : Nat} (h : k < ts.length) : totNode (ts.take (k + 1)) = totNode (ts.take k) + sizeNode (el ts k) := by rw [take_succ_el h]; simp [totNode]
theorem totNode_le (ts : List LNode) (k : Nat) : totNode (ts.take k) ≤ totNode ts := by
  induction ts generalizing k with
  | nil => simp [totNode]
  | cons x r ih =>
    cases k with
    | zero => simp [totNode]
    | succ k => simp only [List.take_succ_cons, totNode, List.map_cons, List.sum_cons]; have := ih k; simp only [totNode] at this; omega
theorem totNode_el {ts : List LNode} {k : Nat} (h : k < ts.length) : totNode (ts.take k) + sizeNode (el ts k) ≤ totNode ts := by rw [← totNode_take h]; exact totNode_le ts _
end
section
open Go.RowKit

/-- The first place at which p holds, or -1. -/
def fidx {α : Type} (p : α → Bool) (l : List α) : Int := match l.findIdx? p with | some k => (k : Int) | none => -1
theorem fidx_hit {α : Type} [Inhabited α] {p : α → Bool} {l : List α} {k : Nat} (hk : k < l.length) (h : p (el l k) = true) (hn : ∀ j, j < k → p (el l j) = false) : fidx p l = (k : Int) := by
  have : l.findIdx? p = some k := by
    rw [List.findIdx?_eq_some_iff_getElem]
    refine ⟨hk, by rw [← el_at hk]; exact h, fun j hj => ?_⟩
    have := hn j hj
    rw [el_at (by omega)] at this
    simp [this]
  rw [fidx, this]
theorem fidx_no {α : Type} [Inhabited α] {p : α → Bool} {l : List α} (h : ∀ j, j < l.length → p (el l j) = false) : fidx p l = -1 := by
  have : l.findIdx? p = none := by
    rw [List.findIdx?_eq_none_iff]
    intro x hx
    obtain ⟨j, hj, rfl⟩ := mem_el hx
    exact h j hj
  rw [fidx, this]
theorem fidx_any {α : Type} (p : α → Bool) (l : List α) : decide (0 ≤ fidx p l) = l.any p := by
  unfold fidx
  cases h : l.findIdx? p with
  | none =>
    rw [List.findIdx?_eq_none_iff] at h
    have : l.any p = false := by rw [List.any_eq_false]; intro x hx; simp [h x hx]
    simp [this]
  | some k =>
    rw [List.findIdx?_eq_some_iff_getElem] at h
    obtain ⟨h1, h2, _⟩ := h
    have : l.any p = true := by rw [List.any_eq_true]; exact ⟨_, List.getElem_mem h1, h2⟩
    simp [this]
set_option maxHeartbeats 4000000 in
theorem indexFuncI_any (g : Nat) (cb : Array Value) (eg : ∀ args w, (callFunc g args).run Tryz.prog w = .ok (.enter g args) w) (ao : Option Addr) (cap : Nat) (zs : List Int) (p : Int → Bool) (w : World) (hl : zs.length ≤ 1048576) (hz : kI.In w.heap.size w ao zs) (hC : ∀ x W, x ∈ zs → Below w.heap.size w W → Calls Tryz.prog g (#[.int .i64 x] ++ cb) W fun e w' => e = .returned (.bool (p x)) ∧ Below W.heap.size W w') :
    Calls Tryz.prog 48 #[.slice ao zs.length cap, .func (.func g) #[] cb] w fun e w' => e = .returned (.int .i64 (fidx p zs)) ∧ Below w.heap.size w w' := by
  have HC := hid hC
  clear hC
  go_enter Tryz.func48, Tryz.ntmps48
  go_wp2
  go_loopw [8] (fun i wr => ∃ k : Nat, i = .int .i64 (k : Int) ∧ k ≤ zs.length ∧ Hid (∀ j, j < k → p (el zs j) = false) ∧ Below w.heap.size w wr) (fun i _ => zs.length - (intOf i).toNat)
  case atStart => exact ⟨0, rfl, Nat.zero_le _, fun j hj => by omega, Below.refl _ _⟩
  case round =>
    obtain ⟨k, rfl, hk, hN, hB⟩ := hrel
    by_cases hlt : k < zs.length
    · obtain ⟨b, off, rfl, hb, hc⟩ := ints_at hz hlt
      have d1 := (hB.cell (p := ⟨b, off + k, none⟩) hb).trans (hc k hlt)
      have hm := el_mem hlt
      have hcall := fun W hW => HC.out (el zs k) W hm hW
      have HE : Hid (∀ y, p (el zs k) = y → p (el zs k) = y) := fun _ h => h
      obtain ⟨y, hy⟩ : ∃ y, p (el zs k) = y := ⟨_, rfl⟩
      have HY := hid hy
      rw [hy] at hcall
      obtain ⟨x, ex⟩ : ∃ v, v = el zs k := ⟨_, rfl⟩
      rw [← ex] at d1 hcall
      clear ex hc hm hy HE
      skip
      skip
      cases y
      · go_wp2_with (go_at_fn g; refine (hcall _ hB).mono ?_; rintro e w1 ⟨rfl, hb1⟩; have hB1 : Below w.heap.size w w1 := hB.trans (hb1.mono hB.size); clear hb1)
        go_roundw
        case rel =>
          refine ⟨k + 1, by go_num, by omega, fun j hj => ?_, hB1⟩
          rcases Nat.lt_succ_iff_lt_or_eq.1 hj with h | rfl
          · exact hN.out j h
          · exact HY.out
        case measure => simp [intOf]; omega
      · go_wp2_with (go_at_fn g; refine (hcall _ hB).mono ?_; rintro e w1 ⟨rfl, hb1⟩; have hB1 : Below w.heap.size w w1 := hB.trans (hb1.mono hB.size); clear hb1)
        go_ret
        exact ⟨ret_int (fidx_hit hlt HY.out hN.out).symm, hB1⟩
    · obtain rfl : k = zs.length := by omega
      go_wp2
      go_ret
      exact ⟨ret_int (fidx_no hN.out).symm, hB⟩
set_option maxHeartbeats 1000000 in
theorem containsFuncI_any (g : Nat) (cb : Array Value) (eg : ∀ args w, (callFunc g args).run Tryz.prog w = .ok (.enter g args) w) (ao : Option Addr) (cap : Nat) (zs : List Int) (p : Int → Bool) (w : World) (hl : zs.length ≤ 1048576) (hz : kI.In w.heap.size w ao zs) (hC : ∀ x W, x ∈ zs → Below w.heap.size w W → Calls Tryz.prog g (#[.int .i64 x] ++ cb) W fun e w' => e = .returned (.bool (p x)) ∧ Below W.heap.size W w') :
    Calls Tryz.prog 64 #[.slice ao zs.length cap, .func (.func g) #[] cb] w fun e w' => e = .returned (.bool (zs.any p)) ∧ Below w.heap.size w w' := by
  rw [← fidx_any]
  have hcon := indexFuncI_any g cb eg ao cap zs p w hl hz hC
  clear hC hz
  go_enter Tryz.func64, Tryz.ntmps64
  go_wp2_with (go_at_call 48; refine hcon.mono ?_; rintro e w1 ⟨rfl, hb1⟩)
  go_ret
  exact ⟨rfl, hb1⟩
/-- A node as a value. -/
def nodeV (x : LNode) : Value := .agg #[.string x.1, .int .i64 x.2.1, .int .i64 x.2.2.1, .int .i64 x.2.2.2.1, .int .i64 x.2.2.2.2.1, .slice x.2.2.2.2.2.1 x.2.2.2.2.2.2.2.length x.2.2.2.2.2.2.1]
set_option maxHeartbeats 4000000 in
theorem indexFuncN_any (g : Nat) (cb : Array Value) (eg : ∀ args w, (callFunc g args).run Tryz.prog w = .ok (.enter g args) w) (ao : Option Addr) (cap : Nat) (zs : List LNode) (p : LNode → Bool) (w : World) (hl : zs.length ≤ 1048576) (hz : hNode.In w.heap.size w ao zs) (hC : ∀ x W, x ∈ zs → Below w.heap.size w W → Calls Tryz.prog g (#[nodeV x] ++ cb) W fun e w' => e = .returned (.bool (p x)) ∧ Below W.heap.size W w') :
    Calls Tryz.prog 101 #[.slice ao zs.length cap, .func (.func g) #[] cb] w fun e w' => e = .returned (.int .i64 (fidx p zs)) ∧ Below w.heap.size w w' := by
  have HC := hid hC
  clear hC
  go_enter Tryz.func101, Tryz.ntmps101
  go_wp2
  go_loopw [8] (fun i wr => ∃ k : Nat, i = .int .i64 (k : Int) ∧ k ≤ zs.length ∧ Hid (∀ j, j < k → p (el zs j) = false) ∧ Below w.heap.size w wr) (fun i _ => zs.length - (intOf i).toNat)
  case atStart => exact ⟨0, rfl, Nat.zero_le _, fun j hj => by omega, Below.refl _ _⟩
  case round =>
    obtain ⟨k, rfl, hk, hN, hB⟩ := hrel
    by_cases hlt : k < zs.length
    · obtain ⟨b, off, rfl, hb, hc⟩ := hNode_at hz hlt
      have d1 := (hB.cell (p := ⟨b, off + k * 6, none⟩) hb).trans (hc k hlt).1
      have d2 := (hB.cell (p := ⟨b, off + k * 6 + 1, none⟩) hb).trans (hc k hlt).2.1
      have d3 := (hB.cell (p := ⟨b, off + k * 6 + 2, none⟩) hb).trans (hc k hlt).2.2.1
      have d4 := (hB.cell (p := ⟨b, off + k * 6 + 3, none⟩) hb).trans (hc k hlt).2.2.2.1
      have d5 := (hB.cell (p := ⟨b, off + k * 6 + 4, none⟩) hb).trans (hc k hlt).2.2.2.2.1
      have d6 := (hB.cell (p := ⟨b, off + k * 6 + 5, none⟩) hb).trans (hc k hlt).2.2.2.2.2
      have hm := el_mem hlt
      have hcall := fun W hW => HC.out (el zs k) W hm hW
      have HE : Hid (∀ y, p (el zs k) = y → p (el zs k) = y) := fun _ h => h
      obtain ⟨y, hy⟩ : ∃ y, p (el zs k) = y := ⟨_, rfl⟩
      have HY := hid hy
      rw [hy] at hcall
      obtain ⟨⟨nm, kd, sa, sb, cp, ⟨nxo, nxc, nx⟩⟩, ex⟩ : ∃ v, v = el zs k := ⟨_, rfl⟩
      rw [← ex] at d1 d2 d3 d4 d5 d6 hcall
      clear ex hc hm hy HE
      dsimp only at d1 d2 d3 d4 d5 d6 hcall
      simp only [nodeV] at hcall
      cases y
      · go_wp2_with (go_at_fn g; refine (hcall _ hB).mono ?_; rintro e w1 ⟨rfl, hb1⟩; have hB1 : Below w.heap.size w w1 := hB.trans (hb1.mono hB.size); clear hb1)
        go_roundw
        case rel =>
          refine ⟨k + 1, by go_num, by omega, fun j hj => ?_, hB1⟩
          rcases Nat.lt_succ_iff_lt_or_eq.1 hj with h | rfl
          · exact hN.out j h
          · exact HY.out
        case measure => simp [intOf]; omega
      · go_wp2_with (go_at_fn g; refine (hcall _ hB).mono ?_; rintro e w1 ⟨rfl, hb1⟩; have hB1 : Below w.heap.size w w1 := hB.trans (hb1.mono hB.size); clear hb1)
        go_ret
        exact ⟨ret_int (fidx_hit hlt HY.out hN.out).symm, hB1⟩
    · obtain rfl : k = zs.length := by omega
      go_wp2
      go_ret
      exact ⟨ret_int (fidx_no hN.out).symm, hB⟩
set_option maxHeartbeats 1000000 in
theorem containsFuncN_any (g : Nat) (cb : Array Value) (eg : ∀ args w, (callFunc g args).run Tryz.prog w = .ok (.enter g args) w) (ao : Option Addr) (cap : Nat) (zs : List LNode) (p : LNode → Bool) (w : World) (hl : zs.length ≤ 1048576) (hz : hNode.In w.heap.size w ao zs) (hC : ∀ x W, x ∈ zs → Below w.heap.size w W → Calls Tryz.prog g (#[nodeV x] ++ cb) W fun e w' => e = .returned (.bool (p x)) ∧ Below W.heap.size W w') :
    Calls Tryz.prog 90 #[.slice ao zs.length cap, .func (.func g) #[] cb] w fun e w' => e = .returned (.bool (zs.any p)) ∧ Below w.heap.size w w' := by
  rw [← fidx_any]
  have hcon := indexFuncN_any g cb eg ao cap zs p w hl hz hC
  clear hC hz
  go_enter Tryz.func90, Tryz.ntmps90
  go_wp2_with (go_at_call 101; refine hcon.mono ?_; rintro e w1 ⟨rfl, hb1⟩)
  go_ret
  exact ⟨rfl, hb1⟩
end
section
open Go.RowKit

/-- None twice. -/
def onceB (q : List Int) : Bool := decide q.Nodup
theorem nodup_take {q : List Int} {k : Nat} (hk : k < q.length) (h : q.Nodup) : el q k ∉ q.take k := by
  have h2 := h
  rw [← List.take_append_drop k q, List.nodup_append] at h2
  intro hm
  refine h2.2.2 _ hm _ ?_ rfl
  rw [el_at hk, List.drop_eq_getElem_cons hk]; exact List.mem_cons_self
theorem nodup_succ {q : List Int} {k : Nat} (hk : k < q.length) (h : (q.take k).Nodup) (hn : el q k ∉ q.take k) : (q.take (k + 1)).Nodup := by
  rw [take_succ_el hk, List.nodup_append]
  exact ⟨h, by simp, fun a ha b hb e => hn (by simp at hb; rw [← hb, ← e]; exact ha)⟩
theorem onceB_no {q : List Int} (k : Nat) (hk : k < q.length) (h : hasB (q.take k) (el q k) = true) : onceB q = false := by
  simp only [onceB, decide_eq_false_iff_not]; intro hn
  exact nodup_take hk hn (by simpa [hasB] using h)
theorem onceB_yes {q : List Int} (h : (q.take q.length).Nodup) : onceB q = true := by
  rw [List.take_length] at h; simpa [onceB] using h
theorem contains_of (n₀ : Nat) (ao : Option Addr) (len cap : Nat) (zs : List Int) (n : Int) (w : World) (b : Bool) (hlen : zs.length = len) (hl : zs.length ≤ 1048576) (hz : kI.In n₀ w ao zs) (hb : hasB zs n = b) :
    Calls Tryz.prog 41 #[.slice ao len cap, .int .i64 n] w fun e w' => e = .returned (.bool b) ∧ w' = w := by
  subst hlen; exact contains_is n₀ ao cap zs n w b hl hz hb
set_option maxHeartbeats 2000000 in
theorem noneTwice_is (n₀ : Nat) (ao : Option Addr) (cap : Nat) (q : List Int) (w : World) (x : Bool) (hl : q.length ≤ 1048576) (hc : q.length ≤ cap) (hz : kI.In n₀ w ao q) (hx : onceB q = x) :
    Calls Tryz.prog 93 #[.slice ao q.length cap] w fun e w' => e = .returned (.bool x) ∧ w' = w := by
  have HX : Hid (onceB q = x) := hx
  clear hx
  go_enter Tryz.func93, Tryz.ntmps93
  go_wp2
  go_loop [7] (fun i => ∃ k : Nat, k ≤ q.length ∧ i = .int .i64 k ∧ Hid ((q.take k).Nodup)) (fun i => q.length - (intOf i).toNat)
  case atStart => exact ⟨0, Nat.zero_le _, rfl, by simp [Hid]⟩
  case round =>
    obtain ⟨k, hk, rfl, hno⟩ := hrel
    by_cases hlt : k < q.length
    · have HZ : Hid (kI.In n₀ w ao q) := hz
      obtain ⟨b, off, rfl, hb, hcs⟩ := ints_at hz hlt
      have hck := hcs k hlt
      clear hcs hz
      obtain ⟨y, ey⟩ : ∃ x, x = el q k := ⟨_, rfl⟩
      rw [← ey] at hck
      have HY : Hid (y = el q k) := ey
      clear ey
      cases hm : hasB (q.take k) y
      · have HM : Hid (hasB (q.take k) y = false) := hm
        clear hm
        go_wp2_with fail
        refine (contains_of n₀ _ k cap (q.take k) y _ false (by simp; omega) (by simp; omega) (HZ.out.take k) HM.out).mono ?_
        rintro e w1 ⟨rfl, rfl⟩
        go_wp2
        go_round
        case rel => exact ⟨k + 1, by omega, by go_num, nodup_succ hlt hno.out (by rw [← HY.out]; simpa [hasB] using HM.out)⟩
        case measure => simp [intOf]; omega
      · have HM : Hid (hasB (q.take k) y = true) := hm
        have HF : Hid (x = false) := by rw [Hid, ← HX.out]; exact onceB_no k hlt (by rw [← HY.out]; exact hm)
        clear hm
        go_wp2_with fail
        refine (contains_of n₀ _ k cap (q.take k) y _ true (by simp; omega) (by simp; omega) (HZ.out.take k) HM.out).mono ?_
        rintro e w1 ⟨rfl, rfl⟩
        go_wp2
        go_ret
        exact ⟨ret_bool HF.out.symm, rfl⟩
    · obtain rfl : k = q.length := by omega
      have HF : Hid (x = true) := by rw [Hid, ← HX.out]; exact onceB_yes hno.out
      go_wp2
      go_ret
      exact ⟨ret_bool HF.out.symm, rfl⟩
theorem l1Has_of (n₀ : Nat) (ao : Option Addr) (len cap : Nat) (zs : List Int) (n : Int) (w : World) (b : Bool) (hlen : zs.length = len) (hl : zs.length ≤ 1048576) (hz : kI.In n₀ w ao zs) (hb : hasB zs n = b) :
    Calls Tryz.prog 43 #[.slice ao len cap, .int .i64 n] w fun e w' => e = .returned (.bool b) ∧ w' = w := by
  subst hlen; exact l1Has_is n₀ ao cap zs n w b hl hz hb
set_option maxHeartbeats 1000000 in
theorem copyListI_any (ao : Option Addr) (cap : Nat) (ts : List (Int)) (w : World) (hl : ts.length ≤ 1048576) (hz : kI.In w.heap.size w ao ts) :
    Calls Tryz.prog 88 #[.slice ao ts.length cap] w fun e w' => (∃ to, e = .returned (.slice to ts.length ts.length) ∧ kI.Fresh w.heap.size w'.heap.size w' to ts.length ts) ∧ Below w.heap.size w w' := by
  by_cases h0 : ts.length = 0
  · obtain rfl : ts = [] := List.length_eq_zero_iff.1 h0
    go_enter Tryz.func88, Tryz.ntmps88
    go_wp2
    go_ret
    exact ⟨⟨none, rfl, .inl rfl⟩, Below.refl _ _⟩
  · have h0' : ((ts.length : Int) == 0) = false := (len1 h0).1
    obtain ⟨i0, z0, hi, hz0, hz1, hz2, hz3⟩ := kI_ok.info
    have HZ : Hid (kI.In w.heap.size w ao ts) := hz
    have hby : i0.bytes * ts.length ≤ 281474976710656 := by have : i0.bytes * ts.length ≤ 4096 * 1048576 := Nat.mul_le_mul hz3 hl; omega
    clear hz
    go_enter Tryz.func88, Tryz.ntmps88
    go_wp2_with (at_make; refine wpList_make_full _ rfl _ _ kI.st rfl w.heap.size kI.ty i0 z0 kI.sz kI_ok.und hi hz0 hz1 .i64 .i64 _ _ ts.length rfl rfl rfl rfl hby (by unfold maxLen; omega) (Nat.le_refl _) ?_; intro w1 hown hgrow; obtain ⟨cur, hcur, hcl, _⟩ := owns_open hown; have hB1 : Below w.heap.size w w1 := (Below.refl _ _).grown hgrow (Nat.le_refl _) (fun k e => by cases e); obtain ⟨w2, hrun, hh, hO⟩ := Kind.run_copy (n := ts.length) (cap := cap) (ty := 3) kI_ok hcur hcl (Nat.le_refl _) HZ.out hB1; have hB2 : Below w.heap.size w w2 := hB1.trans (hO.below (Nat.le_refl _)); have HH := show Hid (_ ∧ _) from And.intro hcl hh; unfold kI at hrun; dsimp only at hrun; clear hown hgrow hcur hh hO hcl)
    go_ret
    have e : cur.drop (ts.length * kI.sz) = [] := List.drop_eq_nil_of_le (by rw [HH.out.1]; exact Nat.le_refl _)
    have hh := HH.out.2
    rw [e, List.append_nil] at hh
    exact ⟨⟨_, rfl, .inr ⟨w.heap.size, rfl, (Array.getElem?_eq_some_iff.1 hh).1, Kind.own_of_heap hh rfl (Nat.le_refl _) (by omega)⟩⟩, hB2⟩
set_option maxHeartbeats 1000000 in
theorem queueOfI_any (ao : Option Addr) (cap : Nat) (ts : List (Int)) (w : World) (hl : ts.length ≤ 1048576) (hz : kI.In w.heap.size w ao ts) :
    Calls Tryz.prog 66 #[.slice ao ts.length cap] w fun e w' => (∃ to, e = .returned (.agg #[.slice to ts.length ts.length]) ∧ kI.Fresh w.heap.size w'.heap.size w' to ts.length ts) ∧ Below w.heap.size w w' := by
  go_enter Tryz.func66, Tryz.ntmps66
  go_wp2_with fail
  refine (copyListI_any ao cap ts _ hl (hz.later (below1 _ _))).mono ?_
  rintro e w1 ⟨⟨go, rfl, hO⟩, hb1⟩
  have hB1 := (below1 w (.cells #[.slice none 0 0] 94)).trans (hb1.mono (by simp))
  have c1 : w1.cell? ⟨w.heap.size, 0, none⟩ = some (.slice none 0 0) := (hb1.cell (p := ⟨w.heap.size, 0, none⟩) (by simp)).trans (by simp [go_sem])
  have f1 : w1.frozen? ⟨w.heap.size, 0, none⟩ = false := (hb1.frozen (p := ⟨w.heap.size, 0, none⟩) (by simp)).trans (by simp [go_sem])
  have HO : Hid (kI.Fresh (w.heap.size + 1) w1.heap.size w1 go ts.length ts) := by rw [World.size_alloc] at hO; exact hO
  clear hO hb1
  go_wp2
  refine bodyPost_ret (v := .agg #[.slice go ts.length ts.length]) (by simp [results, Tryz.results66, go_sem, c1]) rfl ⟨⟨go, rfl, ?_⟩, ?_⟩
  · exact (HO.out.setBelow (by simp) _).wide (by omega) (by simp)
  · exact hB1.setCell (p := ⟨w.heap.size, 0, none⟩) (Nat.le_refl _) _
theorem run_field94 (a : Option Addr) (n c : Nat) (w : World) : (Instr.field 94 (.agg #[.slice a n c]) 0).run Tryz.prog w = .ok (.slice a n c) w := by
  simp [Instr.field, go_sem, run_underlying Tryz.underlying94, asAgg]
end
section
open Go.RowKit

/-- A letter. -/
def letB (x : Int) : Bool := (decide (97 ≤ x) && decide (x ≤ 122)) || (decide (65 ≤ x) && decide (x ≤ 90))
def byteI (b : ByteArray) (k : Nat) : Int := if h : k < b.size then (b[k].toNat : Int) else 0
theorem byteI_at {b : ByteArray} {k : Nat} (h : k < b.size) : byteI b k = (b[k].toNat : Int) := by rw [byteI, dif_pos h]
/-- A name. -/
def nameB (b : ByteArray) : Bool := (decide (1 ≤ b.size) && decide (b.size ≤ 12)) && (List.range b.size).all fun k => letB (byteI b k)
theorem nameB_no {b : ByteArray} {k : Nat} (h : k < b.size) (hk : letB (byteI b k) = false) : nameB b = false := by
  rw [nameB, Bool.and_eq_false_iff]
  right
  rw [List.all_eq_false]
  exact ⟨k, List.mem_range.2 h, by simp [hk]⟩
theorem nameB_yes {b : ByteArray} (h1 : 1 ≤ b.size) (h2 : b.size ≤ 12) (h : ∀ k, k < b.size → letB (byteI b k) = true) : nameB b = true := by
  rw [nameB, Bool.and_eq_true]
  refine ⟨by simp [h1, h2], ?_⟩
  rw [List.all_eq_true]
  intro k hk
  exact h k (List.mem_range.1 hk)
theorem nameB_size {b : ByteArray} (h : b.size < 1 ∨ 12 < b.size) : nameB b = false := by
  rw [nameB, Bool.and_eq_false_iff]
  left
  simp; omega
set_option maxHeartbeats 2000000 in
theorem l1Name_is (b : ByteArray) (w : World) (hs : b.size ≤ 9223372036854775807) :
    Calls Tryz.prog 42 #[.string b] w fun e w' => e = .returned (.bool (nameB b)) ∧ w' = w := by
  by_cases hn : b.size < 1 ∨ 12 < b.size
  · rw [nameB_size hn]
    go_enter Tryz.func42, Tryz.ntmps42
    go_wp2_with fail
    refine (l1In_is b.size 1 12 _ false (by simp; omega)).mono ?_
    rintro e w1 ⟨rfl, rfl⟩
    go_wp2
    go_ret
    exact ⟨rfl, rfl⟩
  · go_enter Tryz.func42, Tryz.ntmps42
    go_wp2_with fail
    refine (l1In_is b.size 1 12 _ true (by simp; omega)).mono ?_
    rintro e w1 ⟨rfl, rfl⟩
    go_wp2
    go_loop [3] (fun i => ∃ k : Nat, i = .int .i64 (k : Int) ∧ k ≤ b.size ∧ Hid (∀ j, j < k → letB (byteI b j) = true)) (fun i => b.size - (intOf i).toNat)
    case atStart => exact ⟨0, rfl, Nat.zero_le _, fun j hj => by omega⟩
    case round =>
      obtain ⟨k, rfl, hk, hA⟩ := hrel
      by_cases hlt : k < b.size
      · have hx := hid (byteI_at hlt)
        rcases (show (b[k].toNat : Int) < 65 ∨ (65 ≤ (b[k].toNat : Int) ∧ (b[k].toNat : Int) ≤ 90) ∨ (90 < (b[k].toNat : Int) ∧ (b[k].toNat : Int) < 97) ∨ (97 ≤ (b[k].toNat : Int) ∧ (b[k].toNat : Int) ≤ 122) ∨ 122 < (b[k].toNat : Int) from by omega) with h | ⟨h, h'⟩ | ⟨h, h'⟩ | ⟨h, h'⟩ | h
        · have q1 : ¬ (97 ≤ (b[k].toNat : Int)) := by omega
          have q2 : (b[k].toNat : Int) ≤ 122 := by omega
          have q3 : ¬ (65 ≤ (b[k].toNat : Int)) := by omega
          have q4 : (b[k].toNat : Int) ≤ 90 := by omega
          go_wp2
          all_goals first
            | (exfalso; omega)
            | (go_ret; refine ⟨ret_bool ?_, rfl⟩; rw [nameB_no hlt (by rw [hx.out]; rw [letB]; simp; omega)])
        · have q1 : ¬ (97 ≤ (b[k].toNat : Int)) := by omega
          have q2 : (b[k].toNat : Int) ≤ 122 := by omega
          have q3 : 65 ≤ (b[k].toNat : Int) := by omega
          have q4 : (b[k].toNat : Int) ≤ 90 := by omega
          go_wp2
          all_goals
            refine ⟨⟨k + 1, by go_num, by omega, fun j hj => ?_⟩, by simp [intOf]; omega⟩
            rcases Nat.lt_succ_iff_lt_or_eq.1 hj with h1 | rfl
            · exact hA.out j h1
            · rw [hx.out]; rw [letB]; simp; omega
        · have q1 : ¬ (97 ≤ (b[k].toNat : Int)) := by omega
          have q2 : (b[k].toNat : Int) ≤ 122 := by omega
          have q3 : 65 ≤ (b[k].toNat : Int) := by omega
          have q4 : ¬ ((b[k].toNat : Int) ≤ 90) := by omega
          go_wp2
          all_goals first
            | (exfalso; omega)
            | (go_ret; refine ⟨ret_bool ?_, rfl⟩; rw [nameB_no hlt (by rw [hx.out]; rw [letB]; simp; omega)])
        · have q1 : 97 ≤ (b[k].toNat : Int) := by omega
          have q2 : (b[k].toNat : Int) ≤ 122 := by omega
          have q3 : 65 ≤ (b[k].toNat : Int) := by omega
          have q4 : ¬ ((b[k].toNat : Int) ≤ 90) := by omega
          go_wp2
          all_goals
            refine ⟨⟨k + 1, by go_num, by omega, fun j hj => ?_⟩, by simp [intOf]; omega⟩
            rcases Nat.lt_succ_iff_lt_or_eq.1 hj with h1 | rfl
            · exact hA.out j h1
            · rw [hx.out]; rw [letB]; simp; omega
        · have q1 : 97 ≤ (b[k].toNat : Int) := by omega
          have q2 : ¬ ((b[k].toNat : Int) ≤ 122) := by omega
          have q3 : 65 ≤ (b[k].toNat : Int) := by omega
          have q4 : ¬ ((b[k].toNat : Int) ≤ 90) := by omega
          go_wp2
          all_goals first
            | (exfalso; omega)
            | (go_ret; refine ⟨ret_bool ?_, rfl⟩; rw [nameB_no hlt (by rw [hx.out]; rw [letB]; simp; omega)])
      · go_wp2
        go_ret
        exact ⟨ret_bool (nameB_yes (by omega) (by omega) fun j hj => hA.out j (by omega)).symm, rfl⟩
/-- The bytes of a text, laid. -/
theorem bytes_laid (b : ByteArray) (w : World) : ∃ C V, (convert 9 22 (.string b)).run Tryz.prog w = .ok (.slice (some ⟨w.heap.size, 0, none⟩) b.size C) V ∧ Below w.heap.size w V ∧ ∀ j, j < b.size → V.cell? ⟨w.heap.size, j, none⟩ = some (.int .u8 (byteI b j)) := by
  refine ⟨_, _, run_bytes_of_string (P := Tryz.prog) w 9 22 5 b Tryz.underlying9 Tryz.underlying22 Tryz.underlying5, ?_, fun j hj => ?_⟩
  · exact ((Below.refl _ _).drew).alloc (Nat.le_refl _) _
  · have h := World.cell?_alloc_mark w.drew (bytesRow b (grownCap w b.size 0 5)) 5 ((bytesRow b (grownCap w b.size 0 5)).size, (bytesRow b (grownCap w b.size 0 5)).size + 1) j
    rw [show w.drew.heap.size = w.heap.size from rfl] at h
    rw [h, bytesRow_at b _ j hj, byteI_at hj]; rfl
set_option maxRecDepth 10000 in
set_option maxHeartbeats 2000000 in
theorem isName_is (b : ByteArray) (w : World) (hs : b.size ≤ 9223372036854775807) :
    Calls Tryz.prog 72 #[.string b] w fun e w' => e = .returned (.bool (nameB b)) ∧ Below w.heap.size w w' := by
  by_cases hn1 : b.size < 1
  · rw [nameB_size (.inl hn1)]
    go_enter Tryz.func72, Tryz.ntmps72
    go_wp2
    go_ret
    exact ⟨rfl, Below.refl _ _⟩
  by_cases hn2 : 12 < b.size
  · rw [nameB_size (.inr hn2)]
    go_enter Tryz.func72, Tryz.ntmps72
    go_wp2
    go_ret
    exact ⟨rfl, Below.refl _ _⟩
  obtain ⟨C, V, hconv, hB, hc⟩ := bytes_laid b w
  have HB := hid hB
  have HC := hid hc
  clear hB hc
  go_enter Tryz.func72, Tryz.ntmps72
  go_wp2
  go_loop [16] (fun i => ∃ k : Nat, i = .int .i64 (k : Int) ∧ k ≤ b.size ∧ Hid (∀ j, j < k → letB (byteI b j) = true)) (fun i => b.size - (intOf i).toNat)
  case atStart => exact ⟨0, rfl, Nat.zero_le _, fun j hj => by omega⟩
  case round =>
    obtain ⟨k, rfl, hk, hA⟩ := hrel
    by_cases hlt : k < b.size
    · have hx := HC.out k hlt
      obtain ⟨x, ex⟩ : ∃ x, x = byteI b k := ⟨_, rfl⟩
      rw [← ex] at hx
      have HX := hid ex
      clear ex
      rcases (show x < 65 ∨ (65 ≤ x ∧ x ≤ 90) ∨ (90 < x ∧ x < 97) ∨ (97 ≤ x ∧ x ≤ 122) ∨ 122 < x from by omega) with h | ⟨h, h'⟩ | ⟨h, h'⟩ | ⟨h, h'⟩ | h
      · have q1 : ¬ (97 ≤ x) := by omega
        have q2 : x ≤ 122 := by omega
        have q3 : ¬ (65 ≤ x) := by omega
        have q4 : x ≤ 90 := by omega
        go_wp2
        all_goals first
          | (exfalso; omega)
          | (go_ret; refine ⟨ret_bool ?_, HB.out⟩; rw [nameB_no hlt (by rw [← HX.out]; rw [letB]; simp; omega)])
      · have q1 : ¬ (97 ≤ x) := by omega
        have q2 : x ≤ 122 := by omega
        have q3 : 65 ≤ x := by omega
        have q4 : x ≤ 90 := by omega
        go_wp2
        all_goals
          refine ⟨⟨k + 1, by go_num, by omega, fun j hj => ?_⟩, by simp [intOf]; omega⟩
          rcases Nat.lt_succ_iff_lt_or_eq.1 hj with h1 | rfl
          · exact hA.out j h1
          · rw [← HX.out]; rw [letB]; simp; omega
      · have q1 : ¬ (97 ≤ x) := by omega
        have q2 : x ≤ 122 := by omega
        have q3 : 65 ≤ x := by omega
        have q4 : ¬ (x ≤ 90) := by omega
        go_wp2
        all_goals first
          | (exfalso; omega)
          | (go_ret; refine ⟨ret_bool ?_, HB.out⟩; rw [nameB_no hlt (by rw [← HX.out]; rw [letB]; simp; omega)])
      · have q1 : 97 ≤ x := by omega
        have q2 : x ≤ 122 := by omega
        have q3 : 65 ≤ x := by omega
        have q4 : ¬ (x ≤ 90) := by omega
        go_wp2
        all_goals
          refine ⟨⟨k + 1, by go_num, by omega, fun j hj => ?_⟩, by simp [intOf]; omega⟩
          rcases Nat.lt_succ_iff_lt_or_eq.1 hj with h1 | rfl
          · exact hA.out j h1
          · rw [← HX.out]; rw [letB]; simp; omega
      · have q1 : 97 ≤ x := by omega
        have q2 : ¬ (x ≤ 122) := by omega
        have q3 : 65 ≤ x := by omega
        have q4 : ¬ (x ≤ 90) := by omega
        go_wp2
        all_goals first
          | (exfalso; omega)
          | (go_ret; refine ⟨ret_bool ?_, HB.out⟩; rw [nameB_no hlt (by rw [← HX.out]; rw [letB]; simp; omega)])
    · go_wp2
      go_ret
      exact ⟨ret_bool (nameB_yes (by omega) (by omega) fun j hj => hA.out j (by omega)).symm, HB.out⟩
end
section
open Go.RowKit

/-- A world in which all that V holds stands as it stood. -/
structure Later (V : World) where
  w : World
  h : Below V.heap.size V w
theorem later_some (V : World) : Nonempty (Later V) := ⟨⟨V, Below.refl _ _⟩⟩
theorem wp_region_later (V : World) {id : Nat} {Q : Exit → Act → World → Prop} {a : Act} {w : World} {l : List Oper} (hm : Tryz.prog.follows .mixedOrders = true) (hB : Region.lexB .any l.toArray = true) (hw : Below V.heap.size V w)
    (h : wpQuiet Tryz.prog l.toArray (fun w' => ∃ W : Later V, w' = W.w) (fun a' => ∀ w', (∃ W : Later V, w' = W.w) → Q .normal a' w') l a) : (Code.region id l.toArray true).wp Tryz.prog Q a w :=
  wp_region_quiet (C := fun w' => ∃ W : Later V, w' = W.w) hm hB ⟨⟨_, hw.drew⟩, rfl⟩ (by simpa using h)
theorem Later.cell {V : World} {p : Addr} {v : Value} (h : V.cell? p = some v) (hp : p.block < V.heap.size) (W : Later V) : W.w.cell? p = some v := (W.h.cell hp).trans h
theorem Bx.at {V : World} {p : Nat} {us : List Value} (h : Bx V p us) (i : Nat) {v : Value} (e : us[i]? = some v) (W : Later V) : W.w.cell? ⟨p, i, none⟩ = some v := (h.later W.h).c i e
theorem Calls.later {V : World} {W : Later V} {f : FuncId} {args : Array Value} {v : Value} (h : Calls Tryz.prog f args W.w fun e w' => e = .returned v ∧ Below W.w.heap.size W.w w') : Calls Tryz.prog f args W.w fun e w'' => e = .returned v ∧ ∃ W' : Later V, w'' = W'.w :=
  h.mono fun _ w2 ⟨he, hb⟩ => ⟨he, ⟨w2, W.h.trans (hb.mono W.h.size)⟩, rfl⟩
theorem Calls.later_same {V : World} {W : Later V} {f : FuncId} {args : Array Value} {v : Value} (h : Calls Tryz.prog f args W.w fun e w' => e = .returned v ∧ w' = W.w) : Calls Tryz.prog f args W.w fun e w'' => e = .returned v ∧ ∃ W' : Later V, w'' = W'.w :=
  h.mono fun _ _ ⟨he, hb⟩ => ⟨he, W, hb⟩
end
section
open Go.RowKit

/-- Two texts are one. -/
def sameT (a b : ByteArray) : Bool := a.toList == b.toList
/-- Texts that are not too long for any machine. -/
def FitN (ts : List LNode) : Prop := ∀ a ∈ ts, a.1.size ≤ 1048576 ∧ a.2.2.2.2.2.2.2.length ≤ 1048576
theorem Tryz.enters84 : ∀ args w, (callFunc 91 args).run Tryz.prog w = .ok (.enter 91 args) w := enters_of Tryz.func91 (by kernel_rfl) rfl
theorem Tryz.enters85 : ∀ args w, (callFunc 92 args).run Tryz.prog w = .ok (.enter 92 args) w := enters_of Tryz.func92 (by kernel_rfl) rfl
set_option maxHeartbeats 1000000 in
theorem hasName1_is (x : LNode) (p : Nat) (nm : ByteArray) (w : World) (hp : p < w.heap.size) (hc : w.cell? ⟨p, 0, none⟩ = some (.string nm)) :
    Calls Tryz.prog 91 #[nodeV x, .pointer (some ⟨p, 0, none⟩)] w fun e w' => e = .returned (.bool (sameT x.1 nm)) ∧ Below w.heap.size w w' := by
  obtain ⟨n2, kd, sa, sb, cp, ⟨nxo, nxc, nx⟩⟩ := x
  unfold nodeV
  dsimp only
  go_enter Tryz.func91, Tryz.ntmps91
  go_wp2
  go_ret
  exact ⟨rfl, below1 _ _⟩
set_option maxHeartbeats 1000000 in
theorem hasName_is (ao : Option Addr) (cap : Nat) (ts : List LNode) (nm : ByteArray) (w : World) (hl : ts.length ≤ 1048576) (hz : hNode.In w.heap.size w ao ts) :
    Calls Tryz.prog 74 #[.slice ao ts.length cap, .string nm] w fun e w' => e = .returned (.bool (ts.any fun x => sameT x.1 nm)) ∧ Below w.heap.size w w' := by
  obtain ⟨V, hV⟩ : ∃ V, V = w.alloc (.cells #[.string nm] 9) := ⟨_, rfl⟩
  have hb : Below w.heap.size w V := by rw [hV]; exact below1 _ _
  have hX : Bx V w.heap.size [.string nm] := by rw [hV]; exact Bx.new [.string nm] _ rfl
  have hcon := containsFuncN_any 91 #[.pointer (some ⟨w.heap.size, 0, none⟩)] Tryz.enters84 ao cap ts (fun x => sameT x.1 nm) V hl (hz.later hb) (fun x W _ hW => hasName1_is x w.heap.size nm W (by have := hW.size; have := hX.size; omega) ((hX.later hW).c 0 rfl))
  have HV := hid hV
  have HB := hid hb
  clear hV hX hz hb
  go_enter Tryz.func74, Tryz.ntmps74
  go_wp2_with fail
  rw [← HV.out]
  refine hcon.mono ?_
  rintro e w1 ⟨rfl, hb1⟩
  have hB1 : Below w.heap.size w w1 := HB.out.trans (hb1.mono HB.out.size)
  clear hb1
  go_wp2
  go_ret
  exact ⟨rfl, hB1⟩
/-- What a node leads to is as it must be. -/
def noneI (m x : Int) : Bool := decide (x < 0) || decide (m ≤ x)
def goodNx (nx : List Int) (m : Int) : Bool := decide ((nx.length : Int) ≤ m) && (!nx.any (noneI m) && onceB nx)
set_option maxHeartbeats 1000000 in
theorem goodNext1_is (x m : Int) (p : Nat) (w : World) (hc : w.cell? ⟨p, 0, none⟩ = some (.int .i64 m)) :
    Calls Tryz.prog 92 #[.int .i64 x, .pointer (some ⟨p, 0, none⟩)] w fun e w' => e = .returned (.bool (noneI m x)) ∧ Below w.heap.size w w' := by
  by_cases h : x < 0
  · have e : noneI m x = true := by simp [noneI, h]
    rw [e]
    go_enter Tryz.func92, Tryz.ntmps92
    go_wp2
    go_ret
    exact ⟨rfl, Below.refl _ _⟩
  · have e : noneI m x = decide (m ≤ x) := by simp [noneI, h]
    rw [e]
    go_enter Tryz.func92, Tryz.ntmps92
    go_wp2
    go_ret
    exact ⟨rfl, Below.refl _ _⟩
set_option maxHeartbeats 2000000 in
theorem goodNext_is (ao : Option Addr) (cap : Nat) (nx : List Int) (m : Int) (w : World) (hl : nx.length ≤ 1048576) (hcap : nx.length ≤ cap) (hz : kI.In w.heap.size w ao nx) :
    Calls Tryz.prog 79 #[.slice ao nx.length cap, .int .i64 m] w fun e w' => e = .returned (.bool (goodNx nx m)) ∧ Below w.heap.size w w' := by
  obtain ⟨V, hV⟩ : ∃ V, V = w.alloc (.cells #[.int .i64 m] 3) := ⟨_, rfl⟩
  have hb : Below w.heap.size w V := by rw [hV]; exact below1 _ _
  have hX : Bx V w.heap.size [.int .i64 m] := by rw [hV]; exact Bx.new [.int .i64 m] _ rfl
  have hcon := containsFuncI_any 92 #[.pointer (some ⟨w.heap.size, 0, none⟩)] Tryz.enters85 ao cap nx (noneI m) V hl (hz.later hb) (fun x W _ hW => goodNext1_is x m w.heap.size W ((hX.later hW).c 0 rfl))
  have c0 := hX.c 0 rfl
  have hs := hX.size
  have HV := hid hV
  have HB := hid hb
  have HZ := hid hz
  clear hV hX hz hb
  by_cases h1 : (nx.length : Int) ≤ m
  · cases h2 : nx.any (noneI m)
    · rw [h2] at hcon
      have e : goodNx nx m = onceB nx := by simp [goodNx, h1, h2]
      rw [e]
      clear e h2
      go_enter Tryz.func79, Tryz.ntmps79
      go_wp2_with fail
      rw [← HV.out]
      refine hcon.mono ?_
      rintro e w1 ⟨rfl, hb1⟩
      have hB1 : Below w.heap.size w w1 := HB.out.trans (hb1.mono HB.out.size)
      clear hb1
      go_wp2_with fail
      refine (noneTwice_is w1.heap.size ao cap nx w1 (onceB nx) hl hcap (HZ.out.later hB1) rfl).mono ?_
      rintro e w2 ⟨rfl, rfl⟩
      go_wp2
      go_ret
      exact ⟨rfl, hB1⟩
    · rw [h2] at hcon
      have e : goodNx nx m = false := by simp [goodNx, h2]
      rw [e]
      clear e h2
      go_enter Tryz.func79, Tryz.ntmps79
      go_wp2_with fail
      rw [← HV.out]
      refine hcon.mono ?_
      rintro e w1 ⟨rfl, hb1⟩
      have hB1 : Below w.heap.size w w1 := HB.out.trans (hb1.mono HB.out.size)
      clear hb1
      go_wp2
      go_ret
      exact ⟨rfl, hB1⟩
  · have e : goodNx nx m = false := by simp [goodNx, h1]
    rw [e]
    clear hcon e
    go_enter Tryz.func79, Tryz.ntmps79
    go_wp2
    go_ret
    exact ⟨rfl, by rw [← HV.out]; exact HB.out⟩
end
section
open Go.RowKit

/-- A graph that lies in memory: its nodes, and a box that holds it. -/
structure GrIn (W : World) (p : Nat) (ao : Option Addr) (cap : Nat) (ts : List LNode) : Prop where
  box : Bx W p [.slice ao ts.length cap]
  rows : DIn dNode W.heap.size W ao ts
theorem GrIn.later {W W' : World} {p : Nat} {ao : Option Addr} {cap : Nat} {ts : List LNode} (h : GrIn W p ao cap ts) (hb : Below W.heap.size W W') : GrIn W' p ao cap ts := ⟨h.box.later hb, h.rows.later dNode_ok hb⟩
/-- Rows whose room holds them. -/
def CapN (ts : List LNode) : Prop := ∀ a ∈ ts, a.2.2.2.2.2.2.2.length ≤ a.2.2.2.2.2.2.1
theorem el_val {ts : List LNode} {k : Nat} (hk : k < ts.length) : el (ts.map valNode) k = valNode (el ts k) := by simp [el, hk]
set_option maxRecDepth 10000 in
set_option maxHeartbeats 4000000 in
theorem rule1_is (p : Nat) (ao : Option Addr) (cap : Nat) (ts : List LNode) (k : Nat) (w : World) (hk : k < ts.length) (_hl : ts.length ≤ 1048576) (hF : FitN ts) (hG : GrIn w p ao cap ts) :
    Calls Tryz.prog 71 #[.int .i64 (k : Int), .pointer (some ⟨p, 0, none⟩)] w fun e w' => e = .returned (.bool (!nameB (el (ts.map valNode) k).1)) ∧ Below w.heap.size w w' := by
  have HG := hid hG
  have hki : (k : Int) < (ts.length : Int) := by omega
  clear hG
  obtain ⟨b, off, rfl, hb, hc⟩ := hNode_at HG.out.rows.1 hk
  have d1 := (hc k hk).1
  have d2 := (hc k hk).2.1
  have d3 := (hc k hk).2.2.1
  have d4 := (hc k hk).2.2.2.1
  have d5 := (hc k hk).2.2.2.2.1
  have d6 := (hc k hk).2.2.2.2.2
  have hfk := hF _ (el_mem hk)
  have hev := el_val hk
  have hin := HG.out.rows.2 k hk
  obtain ⟨⟨nm, kd, sa, sb, cp, ⟨nxo, nxc, nx⟩⟩, ex⟩ : ∃ v, v = el ts k := ⟨_, rfl⟩
  rw [← ex] at d1 d2 d3 d4 d5 d6 hfk hev hin
  have HE : Hid (el (ts.map valNode) k = (nm, kd, sa, sb, cp, nx)) := hev
  have c0 := HG.out.box.c 0 rfl
  clear hc hev
  dsimp only at d1 d2 d3 d4 d5 d6 hfk
  have E1 : Hid ((!nameB (el (ts.map valNode) k).1) = !nameB nm) := by rw [Hid, HE.out]
  go_enter Tryz.func71, Tryz.ntmps71
  go_wp2_with fail
  refine (isName_is nm w (by omega)).mono ?_
  rintro e w1 ⟨rfl, hb1⟩
  go_wp2
  go_ret
  exact ⟨ret_bool E1.out.symm, hb1⟩
set_option maxRecDepth 10000 in
set_option maxHeartbeats 4000000 in
theorem rule3_is (p : Nat) (ao : Option Addr) (cap : Nat) (ts : List LNode) (k : Nat) (w : World) (hk : k < ts.length) (_hl : ts.length ≤ 1048576) (hF : FitN ts) (hG : GrIn w p ao cap ts) :
    Calls Tryz.prog 75 #[.int .i64 (k : Int), .pointer (some ⟨p, 0, none⟩)] w fun e w' => e = .returned (.bool (!goodSt (el (ts.map valNode) k).2.1 (el (ts.map valNode) k).2.2.1 (el (ts.map valNode) k).2.2.2.1)) ∧ Below w.heap.size w w' := by
  have HG := hid hG
  have hki : (k : Int) < (ts.length : Int) := by omega
  clear hG
  obtain ⟨b, off, rfl, hb, hc⟩ := hNode_at HG.out.rows.1 hk
  have d1 := (hc k hk).1
  have d2 := (hc k hk).2.1
  have d3 := (hc k hk).2.2.1
  have d4 := (hc k hk).2.2.2.1
  have d5 := (hc k hk).2.2.2.2.1
  have d6 := (hc k hk).2.2.2.2.2
  have hfk := hF _ (el_mem hk)
  have hev := el_val hk
  have hin := HG.out.rows.2 k hk
  obtain ⟨⟨nm, kd, sa, sb, cp, ⟨nxo, nxc, nx⟩⟩, ex⟩ : ∃ v, v = el ts k := ⟨_, rfl⟩
  rw [← ex] at d1 d2 d3 d4 d5 d6 hfk hev hin
  have HE : Hid (el (ts.map valNode) k = (nm, kd, sa, sb, cp, nx)) := hev
  have c0 := HG.out.box.c 0 rfl
  clear hc hev
  dsimp only at d1 d2 d3 d4 d5 d6 hfk
  have E1 : Hid ((!goodSt (el (ts.map valNode) k).2.1 (el (ts.map valNode) k).2.2.1 (el (ts.map valNode) k).2.2.2.1) = !goodSt kd sa sb) := by rw [Hid, HE.out]
  go_enter Tryz.func75, Tryz.ntmps75
  go_wp2_with fail
  refine (implGood_is kd sa sb w (goodSt kd sa sb) rfl).mono ?_
  rintro e w1 ⟨rfl, hb1⟩
  go_wp2
  go_ret
  exact ⟨ret_bool E1.out.symm, hb1⟩
set_option maxRecDepth 10000 in
set_option maxHeartbeats 4000000 in
theorem rule4_is (p : Nat) (ao : Option Addr) (cap : Nat) (ts : List LNode) (k : Nat) (w : World) (hk : k < ts.length) (_hl : ts.length ≤ 1048576) (hF : FitN ts) (hG : GrIn w p ao cap ts) :
    Calls Tryz.prog 77 #[.int .i64 (k : Int), .pointer (some ⟨p, 0, none⟩)] w fun e w' => e = .returned (.bool (decide ((el (ts.map valNode) k).2.2.2.2.1 < 3) || decide (8 < (el (ts.map valNode) k).2.2.2.2.1))) ∧ Below w.heap.size w w' := by
  have HG := hid hG
  have hki : (k : Int) < (ts.length : Int) := by omega
  clear hG
  obtain ⟨b, off, rfl, hb, hc⟩ := hNode_at HG.out.rows.1 hk
  have d1 := (hc k hk).1
  have d2 := (hc k hk).2.1
  have d3 := (hc k hk).2.2.1
  have d4 := (hc k hk).2.2.2.1
  have d5 := (hc k hk).2.2.2.2.1
  have d6 := (hc k hk).2.2.2.2.2
  have hfk := hF _ (el_mem hk)
  have hev := el_val hk
  have hin := HG.out.rows.2 k hk
  obtain ⟨⟨nm, kd, sa, sb, cp, ⟨nxo, nxc, nx⟩⟩, ex⟩ : ∃ v, v = el ts k := ⟨_, rfl⟩
  rw [← ex] at d1 d2 d3 d4 d5 d6 hfk hev hin
  have HE : Hid (el (ts.map valNode) k = (nm, kd, sa, sb, cp, nx)) := hev
  have c0 := HG.out.box.c 0 rfl
  clear hc hev
  dsimp only at d1 d2 d3 d4 d5 d6 hfk
  have E1 : Hid ((decide ((el (ts.map valNode) k).2.2.2.2.1 < 3) || decide (8 < (el (ts.map valNode) k).2.2.2.2.1)) = (decide (cp < 3) || decide (8 < cp))) := by rw [Hid, HE.out]
  by_cases h : cp < 3
  · go_enter Tryz.func77, Tryz.ntmps77
    go_wp2
    go_ret
    exact ⟨ret_bool (by rw [E1.out]; simp [h]), Below.refl _ _⟩
  · go_enter Tryz.func77, Tryz.ntmps77
    go_wp2
    go_ret
    exact ⟨ret_bool (by rw [E1.out, decide_eq_false (p := cp < 3) (by omega), Bool.false_or]), Below.refl _ _⟩
set_option maxRecDepth 10000 in
set_option maxHeartbeats 4000000 in
theorem rule2_is (p : Nat) (ao : Option Addr) (cap : Nat) (ts : List LNode) (k : Nat) (w : World) (hk : k < ts.length) (_hl : ts.length ≤ 1048576) (hF : FitN ts) (hG : GrIn w p ao cap ts) (hcap : ts.length ≤ cap) :
    Calls Tryz.prog 73 #[.int .i64 (k : Int), .pointer (some ⟨p, 0, none⟩)] w fun e w' => e = .returned (.bool (((ts.map valNode).take k).any fun y => sameT y.1 (el (ts.map valNode) k).1)) ∧ Below w.heap.size w w' := by
  have HG := hid hG
  have hki : (k : Int) < (ts.length : Int) := by omega
  clear hG
  obtain ⟨b, off, rfl, hb, hc⟩ := hNode_at HG.out.rows.1 hk
  have d1 := (hc k hk).1
  have d2 := (hc k hk).2.1
  have d3 := (hc k hk).2.2.1
  have d4 := (hc k hk).2.2.2.1
  have d5 := (hc k hk).2.2.2.2.1
  have d6 := (hc k hk).2.2.2.2.2
  have hfk := hF _ (el_mem hk)
  have hev := el_val hk
  have hin := HG.out.rows.2 k hk
  obtain ⟨⟨nm, kd, sa, sb, cp, ⟨nxo, nxc, nx⟩⟩, ex⟩ : ∃ v, v = el ts k := ⟨_, rfl⟩
  rw [← ex] at d1 d2 d3 d4 d5 d6 hfk hev hin
  have HE : Hid (el (ts.map valNode) k = (nm, kd, sa, sb, cp, nx)) := hev
  have c0 := HG.out.box.c 0 rfl
  clear hc hev
  dsimp only at d1 d2 d3 d4 d5 d6 hfk
  have E1 : Hid (((ts.map valNode).take k).any (fun y => sameT y.1 (el (ts.map valNode) k).1) = (ts.take k).any (fun y => sameT y.1 nm)) := by
    rw [Hid, HE.out, ← List.map_take, List.any_map]; rfl
  have hkc : (k : Int) ≤ (cap : Int) := by omega
  have HN := hid (HG.out.rows.1.take k)
  have hlk : (ts.take k).length = k := by simp; omega
  have hcon := hasName_is (some ⟨b, off, none⟩) cap (ts.take k) nm
  rw [hlk] at hcon
  have mixed : Tryz.prog.follows .mixedOrders = true := by kernel_rfl
  have hNE := later_some w
  have q1 := Later.cell d1 hb; have q0 := Later.cell c0 HG.out.box.size
  clear d1 c0
  go_enter Tryz.func73, Tryz.ntmps73
  go_wp2_with fail
  refine wp_region_later w (by kernel_rfl) (by kernel_rfl) (Below.refl _ _) ?_
  repeat (go_big_quiet_step (first | (go_at_call 74; exact Calls.later (hcon _ (by omega) (by exact (HN.out.later (Later.h _)))))))
  refine wpQuiet_nil ?_
  rintro w4 ⟨⟨w5, hb4⟩, hw5⟩
  obtain rfl : w4 = w5 := hw5
  clear q1 q0 hNE
  go_wp2
  go_ret
  exact ⟨ret_bool E1.out.symm, hb4⟩
set_option maxRecDepth 10000 in
set_option maxHeartbeats 4000000 in
theorem rule5_is (p : Nat) (ao : Option Addr) (cap : Nat) (ts : List LNode) (k : Nat) (w : World) (hk : k < ts.length) (_hl : ts.length ≤ 1048576) (hF : FitN ts) (hG : GrIn w p ao cap ts) (hC : CapN ts) :
    Calls Tryz.prog 78 #[.int .i64 (k : Int), .pointer (some ⟨p, 0, none⟩)] w fun e w' => e = .returned (.bool (!goodNx (el (ts.map valNode) k).2.2.2.2.2 (ts.map valNode).length)) ∧ Below w.heap.size w w' := by
  have HG := hid hG
  have hki : (k : Int) < (ts.length : Int) := by omega
  clear hG
  obtain ⟨b, off, rfl, hb, hc⟩ := hNode_at HG.out.rows.1 hk
  have d1 := (hc k hk).1
  have d2 := (hc k hk).2.1
  have d3 := (hc k hk).2.2.1
  have d4 := (hc k hk).2.2.2.1
  have d5 := (hc k hk).2.2.2.2.1
  have d6 := (hc k hk).2.2.2.2.2
  have hfk := hF _ (el_mem hk)
  have hev := el_val hk
  have hin := HG.out.rows.2 k hk
  obtain ⟨⟨nm, kd, sa, sb, cp, ⟨nxo, nxc, nx⟩⟩, ex⟩ : ∃ v, v = el ts k := ⟨_, rfl⟩
  rw [← ex] at d1 d2 d3 d4 d5 d6 hfk hev hin
  have HE : Hid (el (ts.map valNode) k = (nm, kd, sa, sb, cp, nx)) := hev
  have c0 := HG.out.box.c 0 rfl
  clear hc hev
  dsimp only at d1 d2 d3 d4 d5 d6 hfk
  have E1 : Hid ((!goodNx (el (ts.map valNode) k).2.2.2.2.2 (ts.map valNode).length) = !goodNx nx ts.length) := by rw [Hid, HE.out, List.length_map]
  have HI : Hid (kI.In w.heap.size w nxo nx) := hin
  have hcx := hC _ (el_mem hk)
  rw [← ex] at hcx
  dsimp only at hcx
  have hNE := later_some w
  have q6 := Later.cell d6 hb; have q0 := Later.cell c0 HG.out.box.size
  clear d6 c0 d1 d2 d3 d4 d5
  go_enter Tryz.func78, Tryz.ntmps78
  go_wp2_with fail
  refine wp_region_later w (by kernel_rfl) (by kernel_rfl) (Below.refl _ _) ?_
  repeat (go_big_quiet_step (first | (go_at_call 79; exact Calls.later (goodNext_is nxo nxc nx (ts.length : Int) _ hfk.2 hcx (by exact (HI.out.later (Later.h _)))))))
  refine wpQuiet_nil ?_
  rintro w4 ⟨⟨w5, hb4⟩, hw5⟩
  obtain rfl : w4 = w5 := hw5
  clear q6 q0 hNE
  go_wp2
  go_ret
  exact ⟨ret_bool E1.out.symm, hb4⟩
end
section
open Go.RowKit Go.Shelf

/-- The block b lies as it lay. -/
def SameB (b : Nat) (W W' : World) : Prop := W'.heap[b]? = W.heap[b]?
theorem SameB.cell {b : Nat} {W W' : World} (h : SameB b W W') (o : Nat) : W'.cell? ⟨b, o, none⟩ = W.cell? ⟨b, o, none⟩ := World.cell?_of_block (w := W) (a := ⟨b, o, none⟩) h
theorem SameB.trans {b : Nat} {A B C : World} (h : SameB b A B) (k : SameB b B C) : SameB b A C := Eq.trans k h
theorem sameB_put {b : Nat} {w : World} (hb : b < w.heap.size) (W : World) (l : Nat) (o o' : Obj) (hl : w.heap.size ≤ l) (_ : W.heap[l]? = some o) (_ : o.isCells = false) (_ : o.isWalk = false) : SameB b W (W.putObj l o') :=
  World.putObj_heap_other (by omega)
theorem sameB_set {g : Nat} {W : World} {a : Addr} {u : Value} (h : g ≠ a.block) : SameB g W (W.setCell a u) := Below.heap_setCell W a u g h
theorem grown_alloc (W : World) (o : Obj) : W.grownBy (W.alloc o) none := ⟨rfl, rfl, rfl, by simp, fun k hk _ => Below.heap_alloc W o k hk⟩
section
variable {α : Type} [Inhabited α]
/-- Of what came the elements whose place is not pl. -/
def keepE (ts : List α) (pl : Int) (pre : List Nat) : List α := (pre.filter (fun k : Nat => (k : Int) != pl)).map (el ts)
theorem keepE_snoc (ts : List α) (pl : Int) (pre : List Nat) (x : Nat) : keepE ts pl (pre ++ [x]) = if (x : Int) = pl then keepE ts pl pre else keepE ts pl pre ++ [el ts x] := by
  rw [keepE, List.filter_append]
  by_cases e : (x : Int) = pl <;> simp [keepE, e]
theorem keepE_len (ts : List α) (pl : Int) (pre : List Nat) : (keepE ts pl pre).length ≤ pre.length := by
  rw [keepE, List.length_map]; exact List.length_filter_le _ _
theorem keepE_range (ts : List α) (k : Nat) (hk : k < ts.length) : keepE ts (k : Int) (List.range ts.length) = ts.take k ++ ts.drop (k + 1) := by
  obtain ⟨m, hm⟩ : ∃ m, ts.length = k + (1 + m) := ⟨ts.length - k - 1, by omega⟩
  have e1 : (List.range k).filter (fun j : Nat => (j : Int) != (k : Int)) = List.range k := by
    rw [List.filter_eq_self]; intro j hj; have := List.mem_range.1 hj; simp; omega
  have e2 : ((List.range m).map (fun i => k + (1 + i))).filter (fun j : Nat => (j : Int) != (k : Int)) = (List.range m).map (fun i => k + (1 + i)) := by
    rw [List.filter_eq_self]; intro j hj
    obtain ⟨i, _, rfl⟩ := List.mem_map.1 hj
    simp; omega
  rw [hm, List.range_add, List.range_add, keepE]
  simp only [List.map_append, List.map_map, List.filter_append, Function.comp_def]
  rw [e1, e2]
  have e3 : (List.map (fun x => k + x) (List.range 1)).filter (fun j : Nat => (j : Int) != (k : Int)) = [] := by simp [List.range_succ]
  rw [e3, List.map_nil, List.nil_append]
  congr 1
  · apply List.ext_getElem?
    intro i
    by_cases hi : i < k
    · have : i < ts.length := by omega
      simp [hi, this, el]
    · rw [List.getElem?_eq_none (by simp; omega), List.getElem?_eq_none (by simp; omega)]
  · apply List.ext_getElem?
    intro i
    by_cases hi : i < m
    · have h1 : k + (1 + i) < ts.length := by omega
      have h2 : k + 1 + i < ts.length := by omega
      simp only [List.map_map, List.getElem?_map, List.getElem?_drop, List.getElem?_range hi, Option.map_some, Function.comp_def, el]
      rw [show k + 1 + i = k + (1 + i) from by omega]
      simp [h1]
    · rw [List.getElem?_eq_none (by simp; omega), List.getElem?_eq_none (by simp; omega)]
end
theorem owns_kept {w w' : World} {base : Nat} {e : TypeId} {size : Nat} {v : Value} {n : Nat} {xs : List Value} {row : Option Nat} (h : w.ownsRow base e size v n xs) (hg : w.grownBy w' row) (hr : ∀ r, row = some r → ∃ o : Obj, w.heap[r]? = some o ∧ o.isCells = false) : w'.ownsRow base e size v n xs := by
  obtain ⟨h1, h2⟩ := h
  refine ⟨h1, ?_⟩
  rcases h2 with h2 | ⟨g, cap, cur, hv, hb, hh, r⟩
  · exact Or.inl h2
  · refine Or.inr ⟨g, cap, cur, hv, hb, ?_, r⟩
    rw [hg.block g (Array.getElem?_eq_some_iff.1 hh).1 (fun e => ?_)]
    · exact hh
    · obtain ⟨o, ho, hc⟩ := hr g e.symm
      rw [hh] at ho; cases ho; cases hc
theorem Kind.Fresh.kept {α : Type} {K : Kind α} {lo hi : Nat} {W W' : World} {to : Option Addr} {tc : Nat} {ts : List α} {row : Option Nat} (h : K.Fresh lo hi W to tc ts) (hg : W.grownBy W' row) (hr : ∀ r, row = some r → ∃ o : Obj, W.heap[r]? = some o ∧ o.isCells = false) : K.Fresh lo hi W' to tc ts := by
  rcases h with h | ⟨g, e, hl, ho⟩
  · exact .inl h
  · exact .inr ⟨g, e, hl, owns_kept ho hg hr⟩
theorem own_cells {lo ty sz : Nat} {W : World} {v : Value} {n : Nat} {xs : List Value} (h : W.ownsRow lo ty sz v n xs) : ∀ (j : Nat) (o : Obj), v.ownBlock = some j → W.heap[j]? = some o → o.isCells = true := by
  rcases h.2 with ⟨e, _⟩ | ⟨g, cap, cur, e, hb, hh, _⟩
  · subst e
    exact fun j o h => by simp [Value.ownBlock] at h
  · subst e
    refine fun j o h ho => ?_
    simp [Value.ownBlock] at h
    subst h
    rw [hh] at ho; cases ho; rfl
end
section
open Go.RowKit Go.Shelf

attribute [local go_sem] Oper.semAt_some

/-- An element's value. -/
def tvI (t : Int) : Value := .int .i64 t
set_option maxRecDepth 100000 in
set_option maxHeartbeats 2000000 in
theorem all1I_in (F : Fence) (n : Nat) (hAll : F.fn 100) (hro : F.round = none) (hn : 1 ≤ n) (l Bs b off len cap : Nat) (ts : List (Int)) (hreach : len ≤ 1048576) (J Jx : List Nat → World → Prop) (W : World) (_ : AbidesFrom W.heap.size J)
    (hY : ∀ (pre : List Nat) (x : Nat) (W : World), J pre W → pre.length < len → YieldAt F (n - 1) Tryz.prog l #[.int .i64 (x : Int), tvI (el ts x)] W fun e W' =>
      (e = .returned (.bool true) ∧ J (pre ++ [x]) W' ∧ SameB b W W') ∨ (e = .returned (.bool false) ∧ Jx (pre ++ [x]) W'))
    (hBs : W.cell? ⟨Bs, 0, none⟩ = some (.slice (some ⟨b, off, none⟩) len cap)) (hc : ∀ j, j < len → W.cell? ⟨b, off + j, none⟩ = some (.int .i64 (el ts j))) (h0 : J [] W) :
    CallsIn F n Tryz.prog 100 #[.func (.yield l) #[] #[], .pointer (some ⟨Bs, 0, none⟩)] W fun e W' => (∃ v, e = .returned v) ∧
      ((∃ ys, ys = List.range len ∧ J ys W') ∨ (∃ pre, (∃ k, k ≤ len ∧ pre = List.range k) ∧ Jx pre W')) := by
  refine callsIn_of_wp Tryz.func100 rfl hAll ?_ hro
  simp only [Tryz.ntmps100, List.size_toArray, List.length_cons, List.length_nil, Nat.reduceAdd, Nat.reduceSub, Array.replicate_succ, Array.replicate_zero, List.push_toArray, List.append_toArray, List.nil_append, List.cons_append]
  gi_wp2
  gi_loopw [8] (fun i wr => ∃ k : Nat, k ≤ len ∧ i = .int .i64 k ∧ J (List.range k) wr ∧ Hid (SameB b W wr))
    (fun i _ => len - (intOf i).toNat)
  case atStart => exact ⟨0, Nat.zero_le _, rfl, h0, rfl⟩
  case round =>
    obtain ⟨k, hk, rfl, hJs, hnx⟩ := hrel
    by_cases hlt : k < len
    · have c1 := hc k hlt
      have d1 := (hnx.out.cell (off + k)).trans c1
      obtain ⟨x1, e1⟩ : ∃ x, x = (el ts k) := ⟨_, rfl⟩
      have hJa := hJs
      obtain ⟨fn, tmps, assign, body, hy, hR⟩ := hY _ k _ hJa (by rw [List.length_range]; exact hlt)
      simp only [tvI, ← e1] at hy
      rw [← e1] at d1
      clear c1 hc e1
      gi_wp2
      refine hR.mono ?_
      rintro e W3 (⟨rfl, hJ3, hk3⟩ | ⟨rfl, hJx3⟩)
      · have hk4 : SameB b wr W3 := hk3
        gi_wp2
        go_roundw
        case rel => exact ⟨k + 1, by omega, by simp, by rw [List.range_succ]; exact hJ3, hnx.out.trans hk4⟩
        case measure => simp [intOf]; omega
      · gi_wp2
        refine bodyPost_ret (results_none rfl _ _ _) rfl ?_
        exact ⟨⟨_, rfl⟩, .inr ⟨_, ⟨k + 1, by omega, List.range_succ.symm⟩, hJx3⟩⟩
    · obtain rfl : k = len := by omega
      gi_wp2
      go_end0
      exact ⟨⟨_, rfl⟩, .inl ⟨_, rfl, hJs⟩⟩
set_option maxRecDepth 100000 in
set_option maxHeartbeats 1000000 in
theorem all1I_nil_in (F : Fence) (n : Nat) (hAll : F.fn 100) (hro : F.round = none) (l Bs : Nat) (ao : Option Addr) (cap : Nat) (J : List Nat → World → Prop) (W : World) (hBs : W.cell? ⟨Bs, 0, none⟩ = some (.slice ao 0 cap)) (h0 : J [] W) :
    CallsIn F n Tryz.prog 100 #[.func (.yield l) #[] #[], .pointer (some ⟨Bs, 0, none⟩)] W fun e W' => (∃ v, e = .returned v) ∧ J [] W' := by
  refine callsIn_of_wp Tryz.func100 rfl hAll ?_ hro
  simp only [Tryz.ntmps100, List.size_toArray, List.length_cons, List.length_nil, Nat.reduceAdd, Nat.reduceSub, Array.replicate_succ, Array.replicate_zero, List.push_toArray, List.append_toArray, List.nil_append, List.cons_append]
  gi_wp2
  gi_loopw [8] (fun i wr => i = .int .i64 0 ∧ J [] wr) (fun _ _ => 0)
  case atStart => exact ⟨rfl, h0⟩
  case round =>
    obtain ⟨rfl, hJs⟩ := hrel
    gi_wp2
    go_end0
    exact ⟨⟨_, rfl⟩, hJs⟩
/-- The queue's iterator hands out (0, ts[0]), (1, ts[1]), ..: all, or the first k of them. -/
theorem allI_stops (F : Fence) (n : Nat) (hAll : F.fn 100) (hro : F.round = none) (hn : 1 ≤ n) (Bs b : Nat) (ao : Option Addr) (cap : Nat) (ts : List (Int)) (hreach : ts.length ≤ 1048576) (w : World) (hBs : Bs < w.heap.size)
    (hc : w.cell? ⟨Bs, 0, none⟩ = some (.slice ao ts.length cap)) (hI : ts = [] ∨ ∃ off, ao = some ⟨b, off, none⟩ ∧ b < w.heap.size ∧ ∀ j, j < ts.length → w.cell? ⟨b, off + j, none⟩ = some (.int .i64 (el ts j))) :
    SeqStopsK F n Tryz.prog 100 #[.pointer (some ⟨Bs, 0, none⟩)] (fun x : Nat => #[Value.int .i64 (x : Int), tvI (el ts x)]) (SameB b) (fun ys => ys = List.range ts.length)
      (fun pre => ∃ k, k ≤ ts.length ∧ pre = List.range k) ts.length w := fun l J Jx W hW hJ _ hY h0 => by
  have hc' := (hW.cell (p := ⟨Bs, 0, none⟩) hBs).trans hc
  rcases hI with rfl | ⟨off, rfl, hb, hcs⟩
  · exact (all1I_nil_in F n hAll hro l Bs ao cap J W hc' h0).mono fun e W' ⟨he, hj⟩ => ⟨he, .inl ⟨_, rfl, hj⟩⟩
  · exact all1I_in F n hAll hro hn l Bs b off ts.length cap ts hreach J Jx W hJ hY hc' (fun j hj => (hW.cell (p := ⟨b, off + j, none⟩) hb).trans (hcs j hj)) h0
set_option maxHeartbeats 1000000 in
theorem allI_any (v : Value) (hv : ∃ a n c, v = .slice a n c) (w : World) :
    Calls Tryz.prog 89 #[.agg #[v]] w fun e w' => e = .returned (.func (.func 100) #[] #[.pointer (some ⟨w.heap.size, 0, none⟩)]) ∧ w' = w.alloc (.cells #[v] 94) := by
  obtain ⟨a, n, c, rfl⟩ := hv
  go_enter Tryz.func89, Tryz.ntmps89
  go_wp2
  go_ret
  exact ⟨rfl, rfl⟩
/-- Between two rounds: the box holds a row of its own with what is kept. -/
def DInvI (B : Nat) (ts : List (Int)) (pl : Int) (g : Nat) (pre : List Nat) (W : World) : Prop :=
  W.cell? ⟨B + 1, 0, none⟩ = some (.int .i64 pl) ∧ (W.cell? ⟨B + 1 + 1, 0, none⟩ = some (.slice none 0 0) ∧ W.frozen? ⟨B + 1 + 1, 0, none⟩ = false) ∧ (∃ v, W.cell? ⟨B + 1 + 1 + 1, 0, none⟩ = some v ∧ kI.Own (B + 1 + 1 + 1 + 1) W v (keepE ts pl pre)) ∧ W.frozen? ⟨B + 1 + 1 + 1, 0, none⟩ = false ∧ g < W.heap.size
theorem DInvI.kept {B : Nat} {ts : List (Int)} {pl : Int} {g : Nat} {pre : List Nat} {W W' : World} {row : Option Nat} (h : DInvI B ts pl g pre W) (hg : W.grownBy W' row) (hr : ∀ r, row = some r → ∃ o : Obj, W.heap[r]? = some o ∧ o.isCells = false) : DInvI B ts pl g pre W' := by
  obtain ⟨h2, ⟨h3, h4⟩, ⟨v, h5, h6⟩, h7, h8⟩ := h
  exact ⟨cell_kept h2 hg hr, ⟨cell_kept h3 hg hr, (frozen_kept h3 hg hr).trans h4⟩, ⟨v, cell_kept h5 hg hr, owns_kept h6 hg hr⟩, (frozen_kept h5 hg hr).trans h7, Nat.lt_of_lt_of_le h8 hg.size⟩
set_option maxRecDepth 100000 in
set_option maxHeartbeats 4000000 in
theorem withoutI_any (ao : Option Addr) (cap : Nat) (ts : List (Int)) (pl : Int) (w : World) (hm : ts.length ≤ 1048576) (hq : kI.In w.heap.size w ao ts) (R : List (Int)) (hR : R = keepE ts pl (List.range ts.length)) :
    Calls Tryz.prog 67 #[.agg #[.slice ao ts.length cap], .int .i64 pl] w fun e w' => (∃ go qc, e = .returned (.agg #[.slice go R.length qc]) ∧ kI.Fresh w.heap.size w'.heap.size w' go qc R) ∧ Below w.heap.size w w' := by
  have HR : Hid (R = keepE ts pl (List.range ts.length)) := hR
  clear hR
  refine (callsIn_wide (n := 4)).1 ?_
  have hro : Fence.wide.round = none := rfl
  refine callsIn_of_wp_marks Tryz.func67 rfl trivial ?_ hro
  simp only [Tryz.ntmps67, List.size_toArray, List.length_cons, List.length_nil, Nat.reduceAdd, Nat.reduceSub, Array.replicate_succ, Array.replicate_zero, List.push_toArray, List.append_toArray, List.nil_append, List.cons_append]
  gi_wp2_with fail
  refine ⟨trivial, ?_⟩
  refine (callsIn_wide.2 (allI_any _ ⟨_, _, _, rfl⟩ _)).mono ?_
  rintro e w2 ⟨rfl, rfl⟩
  gi_wp2_with fail
  obtain ⟨g, hgs, hg⟩ : ∃ g, g ≤ w.heap.size ∧ (ts = [] ∨ ∃ off, ao = some ⟨g, off, none⟩ ∧ g < w.heap.size ∧ ∀ j, j < ts.length → w.cell? ⟨g, off + j, none⟩ = some (.int .i64 (el ts j))) := by
    rcases Nat.eq_zero_or_pos ts.length with h | h
    · exact ⟨0, Nat.zero_le _, .inl (List.length_eq_zero_iff.1 h)⟩
    · obtain ⟨b, off, e, hb, hc⟩ := ints_at hq h
      exact ⟨b, Nat.le_of_lt hb, .inr ⟨off, e, hb, hc⟩⟩
  obtain ⟨W0, hW0⟩ : ∃ W0, W0 = ((((w.alloc (Obj.cells #[Value.slice ao ts.length cap] 94)).alloc (Obj.cells #[Value.int IntKind.i64 pl] 3)).alloc (Obj.cells #[Value.slice none 0 0] 94)).alloc (Obj.cells #[Value.slice none 0 0] 26)).alloc (Obj.cells #[Value.slice ao ts.length cap] 94) := ⟨_, rfl⟩
  rw [← hW0]
  have hBW : Below w.heap.size w W0 := by rw [hW0]; exact (((below3 w _ _ _).alloc (by simp; omega) _).alloc (by simp; omega) _)
  have hsW : W0.heap.size = w.heap.size + 1 + 1 + 1 + 1 + 1 := by rw [hW0]; simp
  have cW : W0.cell? ⟨w.heap.size + 1 + 1 + 1 + 1, 0, none⟩ = some (.slice ao ts.length cap) := by rw [hW0]; simp [go_sem]
  have b0 : W0.cell? ⟨w.heap.size + 1, 0, none⟩ = some (.int .i64 pl) := by rw [hW0]; simp [go_sem]
  have r0 : W0.cell? ⟨w.heap.size + 1 + 1, 0, none⟩ = some (.slice none 0 0) := by rw [hW0]; simp [go_sem]
  have r1 : W0.frozen? ⟨w.heap.size + 1 + 1, 0, none⟩ = false := by rw [hW0]; simp [go_sem]
  have r2 : W0.cell? ⟨w.heap.size + 1 + 1 + 1, 0, none⟩ = some (.slice none 0 0) := by rw [hW0]; simp [go_sem]
  have r3 : W0.frozen? ⟨w.heap.size + 1 + 1 + 1, 0, none⟩ = false := by rw [hW0]; simp [go_sem]
  clear hW0
  have hq0 : ts = [] ∨ ∃ off, ao = some ⟨g, off, none⟩ ∧ g < W0.heap.size ∧ ∀ j, j < ts.length → W0.cell? ⟨g, off + j, none⟩ = some (.int .i64 (el ts j)) := by
    rcases hg with h | ⟨off, h1, h3, h4⟩
    · exact .inl h
    · exact .inr ⟨off, h1, by omega, fun j hj => (hBW.cell (p := ⟨g, off + j, none⟩) h3).trans (h4 j hj)⟩
  have hgW : g < W0.heap.size := by omega
  have hinv0 : DInvI w.heap.size ts pl g [] W0 := ⟨b0, ⟨r0, r1⟩, ⟨.slice none 0 0, r2, Kind.Own.nil _ _ _⟩, r3, hgW⟩
  clear b0 r0 r1 r2 r3 hg
  obtain ⟨i0, hi, hz0, hz1, hz2⟩ := info_parts Tryz.info3
  refine wpIn_rangeFunc_ownG hro (by omega) (gf := 100) (lb := #[.pointer (some ⟨w.heap.size + 1 + 1 + 1 + 1, 0, none⟩)]) rfl trivial (enters_of Tryz.func100 (by kernel_rfl) rfl)
    (allI_stops Fence.wide (4 - 1) trivial hro (by omega) (w.heap.size + 1 + 1 + 1 + 1) g ao cap ts (by omega) W0 (by omega) cW hq0) SameB.trans (sameB_put hgW) (Below.refl _ _) (fun _ => rfl)
    (fun pre W => (pre.length ≤ ts.length ∧ DInvI w.heap.size ts pl g pre W) ∧ Below w.heap.size w W)
    (fun _ _ _ => False)
    (OwnFrom.and (Own.from (fun s A B row hs hg hr => ⟨hs.1, hs.2.kept hg hr⟩) _) (ownFrom_below (Nat.le_refl _) (by omega)))
    (fun _ _ _ _ _ hs _ _ => hs)
    ⟨⟨by simp, hinv0⟩, hBW⟩
    (fun x => { tmps := #[Value.agg #[Value.slice ao ts.length cap], Value.int .i64 pl, Value.pointer (some ⟨w.heap.size, 0, none⟩), Value.pointer (some ⟨w.heap.size + 1, 0, none⟩), Value.pointer (some ⟨w.heap.size + 1 + 1, 0, none⟩), Value.pointer (some ⟨w.heap.size + 1 + 1 + 1, 0, none⟩), Value.int .i64 (x : Int), Value.int .i64 (el ts x), Value.agg #[Value.slice ao ts.length cap], Value.func (Fn.func 100) #[] #[Value.pointer (some ⟨w.heap.size + 1 + 1 + 1 + 1, 0, none⟩)], Value.int .i64 (x : Int), Value.int .i64 (el ts x), undef, undef, undef, undef, undef, undef, undef, undef, undef], defers := [] }) ?assign ?body ?done ?stop
  case assign =>
    intro l x W K hK
    simp only [tvI]
    gi_wp2
    exact hK
  case body =>
    rintro l pre x W ⟨⟨hpl, hI⟩, hB⟩ hlen
    have HL : Hid ((pre ++ [x]).length ≤ ts.length) := by simp [Hid]; omega
    have hkl := keepE_len ts pl pre
    have hK1 := keepE_snoc ts pl pre x
    obtain ⟨hb0, ⟨hr0, hr1⟩, ⟨v, hv, hown⟩, hr3, hgW'⟩ := hI
    obtain ⟨go, qc, rfl, _⟩ := hown.fresh
    have hBs := hB.size
    have hsB : w.heap.size + 1 + 1 + 1 < W.heap.size := World.block_lt_of_cell? _ _ hv
    obtain ⟨x1, ex⟩ : ∃ v, v = el ts x := ⟨_, rfl⟩
    rw [← ex] at hK1 ⊢
    clear ex
    have HO : Hid (kI.Own (w.heap.size + 1 + 1 + 1 + 1) W (.slice go (keepE ts pl pre).length qc) (keepE ts pl pre)) := hown
    have HK1 : Hid (keepE ts pl (pre ++ [x]) = if (x : Int) = pl then keepE ts pl pre else keepE ts pl pre ++ [x1]) := hK1
    clear hown hK1
    generalize hF : keepE ts pl pre = F at *
    by_cases hx : (x : Int) = pl
    · have hx' : ((x : Int) != pl) = false := by simpa using hx
      have HE : Hid (keepE ts pl (pre ++ [x]) = F) := by rw [Hid, HK1.out, if_pos hx]
      clear hx hF
      gi_wp2
      exact ⟨KeepsFrom.refl _ _, rfl, ⟨HL.out, hb0, ⟨hr0, hr1⟩, ⟨_, hv, by rw [HE.out]; exact HO.out⟩, hr3, hgW'⟩, hB⟩
    · have hx' : ((x : Int) != pl) = true := by simpa using hx
      have HE : Hid (keepE ts pl (pre ++ [x]) = F ++ [x1]) := by rw [Hid, HK1.out, if_neg hx]
      have HX : Hid (w.heap.size + 1 + 1 + 1 + 1 ≤ (W.alloc (.cells #[.int .i64 x1] 3)).heap.size ∧ (∀ j u, ([.int .i64 x1] : List Value)[j]? = some u → (W.alloc (.cells #[.int .i64 x1] 3)).cell? ((⟨W.heap.size, 0, none⟩ : Addr).add j) = some u) ∧ ∀ u ∈ ([.int .i64 x1] : List Value), u.oneCell' = true) := by
        refine ⟨by simp; omega, fun j u h => ?_, fun u hu => by simp at hu; rcases hu with rfl <;> rfl⟩
        match j, h with
        | 0, h => simp at h; subst h; simp [Addr.add]
      clear hx hF
      gi_wp2_with (gi_at_builtin; refine wpListIn_append_own (W.alloc (.cells #[.int .i64 x1] 3)) rfl (.tmp 15) (.tmp 17) 26 rfl (w.heap.size + 1 + 1 + 1 + 1) 3 i0 (.int .i64 0) 1 8 Tryz.underlying26 hi hz0 hz1 hz2 rfl (by decide) (.slice go F.length qc) F.length (kI.flat F) rfl (HO.out.below (below1 _ _)) ⟨W.heap.size, 0, none⟩ 1 1 [.int .i64 x1] rfl rfl HX.out.2.1 HX.out.2.2 (by unfold maxLen; omega) (by omega) HX.out.1 ?_; intro v' w1 hown' hgrow _; have hob1 := Kind.Own.low (xs := F) (HO.out.below (below1 W (.cells #[.int .i64 x1] 3))); have hob2 := own_cells (HO.out.below (below1 W (.cells #[.int .i64 x1] 3))); have hlow : ∀ k, k < w.heap.size + 1 + 1 + 1 + 1 → w1.heap[k]? = W.heap[k]? := (fun k hk => (hgrow.block k (by simp; omega) (fun e => by have := hob1 k e.symm; omega)).trans (Below.heap_alloc _ _ k (by omega))); have l0 : w1.cell? ⟨w.heap.size + 1 + 1 + 1, 0, none⟩ = some (.slice go F.length qc) := (World.cell?_of_block (a := ⟨w.heap.size + 1 + 1 + 1, 0, none⟩) (hlow _ (by simp))).trans hv; have l1 : w1.frozen? ⟨w.heap.size + 1 + 1 + 1, 0, none⟩ = false := (World.frozen?_of_block (a := ⟨w.heap.size + 1 + 1 + 1, 0, none⟩) (hlow _ (by simp))).trans hr3; have HH : Hid (kI.Own (w.heap.size + 1 + 1 + 1 + 1) w1 v' (F ++ [x1]) ∧ KeepsOthers W w1 ∧ (∀ k, k < w.heap.size + 1 + 1 + 1 + 1 → w1.heap[k]? = W.heap[k]?) ∧ W.heap.size ≤ w1.heap.size ∧ w1.os = W.os ∧ w1.tape = W.tape ∧ w1.output = W.output) := ⟨(by unfold Kind.Own; rw [Kind.flat_app, List.length_append]; exact hown'), (KeepsOthers.alloc _ _).trans (KeepsOthers.of_grownBy hgrow hob2), hlow, (by have := hgrow.size; simp at this; omega), hgrow.os, hgrow.tape, hgrow.output⟩; obtain ⟨go', qc', rfl, _⟩ := HH.out.1.fresh; clear hown' hgrow hob1 hob2 hlow)
      obtain ⟨ho, hk, hlow, hsz, c1, c2, c3⟩ := HH.out
      have hB1 : Below w.heap.size w w1 := hB.trans ⟨c1, c2, c3, hsz, fun k hk => hlow k (by omega)⟩
      refine ⟨(hk.trans (KeepsOthers.setCell _ _ _)).from _, SameB.trans (hlow g (by omega)) (sameB_set (by simp; omega)), ⟨HL.out, ?_, ⟨?_, ?_⟩, ⟨_, World.cell?_setCell_same' _ _ _ (by rw [l0]; rfl), ?_⟩, by rw [World.frozen?_setCell]; exact l1, by simp; omega⟩, hB1.setCell (p := ⟨w.heap.size + 1 + 1 + 1, 0, none⟩) (by simp; omega) _⟩
      · rw [World.cell?_setCell_other _ _ _ _ (by simp)]; exact (World.cell?_of_block (a := ⟨w.heap.size + 1, 0, none⟩) (hlow (w.heap.size + 1) (by omega))).trans hb0
      · rw [World.cell?_setCell_other _ _ _ _ (by simp)]; exact (World.cell?_of_block (a := ⟨w.heap.size + 1 + 1, 0, none⟩) (hlow (w.heap.size + 1 + 1) (by omega))).trans hr0
      · rw [World.frozen?_setCell]; exact (World.frozen?_of_block (a := ⟨w.heap.size + 1 + 1, 0, none⟩) (hlow (w.heap.size + 1 + 1) (by omega))).trans hr1
      · rw [HE.out]
        have h := ho.setBelow (a := ⟨w.heap.size + 1 + 1 + 1, 0, none⟩) (by simp) (.slice go' (F ++ [x1]).length qc')
        simpa using h
  case done =>
    rintro D ys W hD rfl ⟨⟨hpl, hI⟩, hB⟩ hK
    obtain ⟨hb0, ⟨hr0, hr1⟩, ⟨v, hv, hown⟩, hr3, hgW'⟩ := hI
    rw [← HR.out] at hown
    obtain ⟨go, qc, rfl, _, hF⟩ := hown.fresh
    have HF : Hid (kI.Fresh (w.heap.size + 1 + 1 + 1 + 1) W.heap.size W go qc R) := hF
    clear hF hown hpl
    gi_wp2
    have hk1 : KeepsOthers W (W.setCell ⟨w.heap.size + 1 + 1, 0, none⟩ (.slice go R.length qc)) := KeepsOthers.setCell _ _ _
    have hK' := hk1.same D _ hK rfl
    have hX0 : (W.setCell ⟨w.heap.size + 1 + 1, 0, none⟩ (.slice go R.length qc)).cell? ⟨w.heap.size + 1 + 1, 0, none⟩ = some (.slice go R.length qc) := World.cell?_setCell_same' _ _ _ (by rw [hr0]; rfl)
    refine ⟨by simp, .inl ⟨_, _, rfl, run_takeDeferred hK', ?_⟩⟩
    have hc5 := cell_kept hX0 (grownBy_putObj' _ D (.deferred none)) (fun r e => by cases e; exact ⟨_, hK', rfl⟩)
    have hF2 := HF.out.setBelow (a := ⟨w.heap.size + 1 + 1, 0, none⟩) (by simp) (.slice go R.length qc)
    refine ⟨.agg #[.slice go R.length qc], ?_, ⟨go, qc, rfl, ?_⟩, (hB.setCell (p := ⟨w.heap.size + 1 + 1, 0, none⟩) (by simp; omega) _).trans (belowK_b (w := W0) (by omega) _ D _ _ hD hK' rfl rfl)⟩
    · simp [results, Tryz.f67, go_sem, hc5]
    · exact (hF2.kept (grownBy_putObj' _ D (.deferred none)) (fun r e => by cases e; exact ⟨_, hK', rfl⟩)).wide (by omega) (by simp)
  case stop =>
    rintro D c pre W _ _ h _
    exact h.elim
end
end Go.Proofs.YtebnapgcobcilaaGreatDoor
