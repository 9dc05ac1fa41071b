
/- Rows of things that have rows of their own. No conditions but those written. -/
import Derived.Test.YtimkadnnhfllnaaGen
namespace Go.Proofs.Ytimkadnnhfllnaa
open Go.RowKit

/-- The block b is the row's own. -/
def rowOwn {α : Type} (o : Option Addr) (xs : List α) (b : Nat) : Prop := 0 < xs.length ∧ o = some ⟨b, 0, none⟩
section
variable {α : Type} {K : Kind α}
theorem Kind.Fresh.keepB {lo hi : Nat} {W W' : World} {o : Option Addr} {c : Nat} {xs : List α} (h : K.Fresh lo hi W o c xs) (hk : ∀ b, rowOwn o xs b → W'.heap[b]? = W.heap[b]?) : K.Fresh lo hi W' o c xs := by
  rcases h with h | ⟨g, e, hg, ho⟩
  · exact .inl h
  · by_cases h0 : 0 < xs.length
    · exact .inr ⟨g, e, hg, owns_block ho (hk g ⟨h0, e⟩)⟩
    · exact .inl (List.length_eq_zero_iff.1 (by omega))
theorem Kind.Fresh.lt {lo hi : Nat} {W : World} {o : Option Addr} {c : Nat} {xs : List α} (h : K.Fresh lo hi W o c xs) {b : Nat} (hb : rowOwn o xs b) : lo ≤ b ∧ b < hi ∧ b < W.heap.size ∧ ∃ cur, W.heap[b]? = some (.cells cur K.ty (0, 0)) := by
  obtain ⟨h0, e⟩ := hb
  rcases h with h | ⟨g, e2, hg, ho⟩
  · rw [h] at h0; simp at h0
  · rw [e2] at e; simp at e; subst e
    exact ⟨(owns_lt ho).1, hg, (owns_lt ho).2, owns_type ho⟩
theorem only_own {o : Option Addr} {xs : List α} {W W' : World} (h : OnlyAt (eff o xs.length) W W') {b : Nat} (hb : ¬ rowOwn o xs b) : W'.heap[b]? = W.heap[b]? := by
  refine h.block b fun g e eb => ?_
  subst eb
  unfold eff at e
  split at e
  · cases e
  · exact hb ⟨by omega, e⟩
end
/-- Things with a head of cells and rows behind it. -/
structure Deep (A : Type) where
  K : Kind A
  In : Nat → World → A → Prop
  Fr : Nat → Nat → World → A → Prop
  own : A → Nat → Prop
structure Deep.Ok {A : Type} [Inhabited A] (D : Deep A) : Prop where
  kok : D.K.Ok
  below : ∀ {n : Nat} {W W' : World} {a : A}, D.In n W a → Below n W W' → D.In n W' a
  up : ∀ {n m : Nat} {W : World} {a : A}, D.In n W a → n ≤ m → D.In m W a
  fin : ∀ {lo hi : Nat} {W : World} {a : A}, D.Fr lo hi W a → D.In W.heap.size W a
  keep : ∀ {lo hi : Nat} {W W' : World} {a : A}, D.Fr lo hi W a → (∀ b, D.own a b → W'.heap[b]? = W.heap[b]?) → D.Fr lo hi W' a
  wide : ∀ {lo hi lo' hi' : Nat} {W : World} {a : A}, D.Fr lo hi W a → lo' ≤ lo → hi ≤ hi' → D.Fr lo' hi' W a
  lt : ∀ {lo hi : Nat} {W : World} {a : A} {b : Nat}, D.Fr lo hi W a → D.own a b → lo ≤ b ∧ b < hi ∧ b < W.heap.size ∧ ∃ cur t, W.heap[b]? = some (.cells cur t (0, 0)) ∧ t ≠ D.K.ty
section
variable {A : Type} [Inhabited A] {D : Deep A}
/-- The things lie below n, their heads at ao. -/
def DIn (D : Deep A) (n : Nat) (W : World) (ao : Option Addr) (ts : List A) : Prop := D.K.In n W ao ts ∧ ∀ j, j < ts.length → D.In n W (el ts j)
theorem DIn.below (hD : D.Ok) {n : Nat} {W W' : World} {ao : Option Addr} {ts : List A} (h : DIn D n W ao ts) (hb : Below n W W') : DIn D n W' ao ts := ⟨h.1.below hb, fun j hj => hD.below (h.2 j hj) hb⟩
theorem DIn.up (hD : D.Ok) {n m : Nat} {W : World} {ao : Option Addr} {ts : List A} (h : DIn D n W ao ts) (hm : n ≤ m) : DIn D m W ao ts := ⟨h.1.up hm, fun j hj => hD.up (h.2 j hj) hm⟩
theorem DIn.later (hD : D.Ok) {W W' : World} {ao : Option Addr} {ts : List A} (h : DIn D W.heap.size W ao ts) (hb : Below W.heap.size W W') : DIn D W'.heap.size W' ao ts := (h.below hD hb).up hD hb.size
theorem DIn.nil (n : Nat) (W : World) (ao : Option Addr) : DIn D n W ao [] := ⟨.inl rfl, fun j hj => by simp at hj⟩
/-- No two of the things share a block. -/
def Parted (D : Deep A) (ts : List A) : Prop := ∀ i j, i < j → j < ts.length → ∀ b, D.own (el ts i) b → ¬ D.own (el ts j) b
/-- The things are of their own, from lo on and before hi, apart from one another; their heads too. -/
def DFr (D : Deep A) (lo hi : Nat) (W : World) (ao : Option Addr) (c : Nat) (ts : List A) : Prop := D.K.Fresh lo hi W ao c ts ∧ (∀ j, j < ts.length → D.Fr lo hi W (el ts j)) ∧ Parted D ts
variable {lo hi : Nat} {W W' : World} {ao : Option Addr} {c : Nat} {ts : List A}
theorem DFr.in (hD : D.Ok) (h : DFr D lo hi W ao c ts) : DIn D W.heap.size W ao ts := ⟨h.1.in, fun j hj => hD.fin (h.2.1 j hj)⟩
theorem DFr.keep (hD : D.Ok) (h : DFr D lo hi W ao c ts) (hk : ∀ k, lo ≤ k → k < hi → k < W.heap.size → W'.heap[k]? = W.heap[k]?) : DFr D lo hi W' ao c ts :=
  ⟨h.1.keep hk, fun j hj => hD.keep (h.2.1 j hj) fun b hb => by obtain ⟨h1, h2, h3, _⟩ := hD.lt (h.2.1 j hj) hb; exact hk b h1 h2 h3, h.2.2⟩
theorem DFr.later (hD : D.Ok) (h : DFr D lo hi W ao c ts) (hb : Below W.heap.size W W') : DFr D lo hi W' ao c ts := h.keep hD fun k _ _ hk => hb.block k hk
theorem DFr.wide (hD : D.Ok) {lo' hi' : Nat} (h : DFr D lo hi W ao c ts) (h1 : lo' ≤ lo) (h2 : hi ≤ hi') : DFr D lo' hi' W ao c ts := ⟨h.1.wide h1 h2, fun j hj => hD.wide (h.2.1 j hj) h1 h2, h.2.2⟩
theorem DFr.between' (hD : D.Ok) {lo' hi' : Nat} (h : DFr D lo hi W ao c ts) (hb : Between lo' hi' W W') (hd : hi ≤ lo' ∨ hi' ≤ lo) : DFr D lo hi W' ao c ts := h.keep hD fun k h1 h2 h3 => hb.block k h3 (by omega)
theorem DFr.nil (lo hi : Nat) (W : World) (ao : Option Addr) (c : Nat) : DFr D lo hi W ao c [] := ⟨.inl rfl, fun j hj => by simp at hj, fun i j _ hj => by simp at hj⟩
/-- A block of one of the things is no head. -/
theorem DFr.head (hD : D.Ok) (h : DFr D lo hi W ao c ts) {j b : Nat} (hj : j < ts.length) (hb : D.own (el ts j) b) : ¬ rowOwn ao ts b := by
  intro hr
  obtain ⟨_, _, _, cur, t, h1, h2⟩ := hD.lt (h.2.1 j hj) hb
  obtain ⟨_, _, _, cur', h3⟩ := h.1.lt hr
  rw [h1] at h3
  simp at h3
  exact h2 h3.2
/-- The things up to k are laid. -/
structure LaidD (D : Deep A) (lo : Nat) (W : World) (ts : List A) (k : Nat) : Prop where
  len : ts.length = k
  row : ∀ j, j < k → D.Fr lo W.heap.size W (el ts j)
  off : Parted D ts
theorem LaidD.zero (lo : Nat) (W : World) : LaidD D lo W [] 0 := ⟨rfl, fun j hj => by omega, fun i j _ hj => by simp at hj⟩
theorem LaidD.keep (hD : D.Ok) {k : Nat} (h : LaidD D lo W ts k) (hs : W.heap.size ≤ W'.heap.size) (hb : ∀ i, lo ≤ i → i < W.heap.size → W'.heap[i]? = W.heap[i]?) : LaidD D lo W' ts k :=
  ⟨h.len, fun j hj => hD.wide (hD.keep (h.row j hj) fun b ho => by obtain ⟨h1, h2, _⟩ := hD.lt (h.row j hj) ho; exact hb b h1 h2) (Nat.le_refl _) hs, h.off⟩
theorem LaidD.later (hD : D.Ok) {k : Nat} (h : LaidD D lo W ts k) (hb : Below W.heap.size W W') : LaidD D lo W' ts k := h.keep hD hb.size fun i _ hi => hb.block i hi
theorem LaidD.set (hD : D.Ok) {k : Nat} (h : LaidD D lo W ts k) {a : Addr} (ha : a.block < lo) (u : Value) : LaidD D lo (W.setCell a u) ts k := h.keep hD (by simp [World.setCell]) fun i hi _ => Below.heap_setCell W a u i (by omega)
theorem el_snoc_left {α : Type} [Inhabited α] {l : List α} {x : α} {j k : Nat} (hl : l.length = k) (hj : j < k) : el (l ++ [x]) j = el l j := el_app_left (by omega)
theorem el_snoc_right {α : Type} [Inhabited α] {l : List α} {x : α} {k : Nat} (hl : l.length = k) : el (l ++ [x]) k = x := by
  have := el_app_right l [x] 0
  rw [hl, Nat.add_zero, el_zero] at this
  exact this
theorem LaidD.add (hD : D.Ok) {k : Nat} {a : A} (h : LaidD D lo W ts k) (hb : Below W.heap.size W W') (hlo : lo ≤ W.heap.size) (hF : D.Fr W.heap.size W'.heap.size W' a) : LaidD D lo W' (ts ++ [a]) (k + 1) := by
  have h2 := h.later hD hb
  refine ⟨by simp [h.len], fun j hj => ?_, fun i j hij hj b h1 => ?_⟩
  · rcases Nat.lt_succ_iff_lt_or_eq.1 hj with hj | rfl
    · rw [el_snoc_left h.len hj]; exact h2.row j hj
    · rw [el_snoc_right h.len]; exact hD.wide hF hlo (Nat.le_refl _)
  · have hj' : j < k + 1 := by simpa [h.len] using hj
    rcases Nat.lt_succ_iff_lt_or_eq.1 hj' with hj | rfl
    · rw [el_snoc_left h.len (by omega)] at h1
      rw [el_snoc_left h.len hj]
      exact h.off i j hij (by rw [h.len]; exact hj) b h1
    · rw [el_snoc_left h.len hij] at h1
      rw [el_snoc_right h.len]
      intro h3
      have h4 := (hD.lt (h.row i hij) h1).2.1
      have h5 := (hD.lt hF h3).1
      omega
theorem LaidD.fr (hD : D.Ok) {lo' k : Nat} (h : LaidD D lo W ts k) (hlo : lo' ≤ lo) (hF : D.K.Fresh lo' W.heap.size W ao c ts) : DFr D lo' W.heap.size W ao c ts :=
  ⟨hF, fun j hj => hD.wide (h.row j (by rw [← h.len]; exact hj)) hlo (Nat.le_refl _), h.off⟩
end
end Go.Proofs.Ytimkadnnhfllnaa
