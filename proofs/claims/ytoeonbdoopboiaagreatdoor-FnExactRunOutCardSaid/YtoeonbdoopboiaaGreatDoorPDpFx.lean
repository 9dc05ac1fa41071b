/- Rows of things that have rows of their own. No conditions but those written. Nodes and rows of them: sizes, copies, comparisons. No conditions but those written. slices.IndexFunc and ContainsFunc, whatever function they are handed. No conditions but those written. -/
import Derived.Test.YtoeonbdoopboiaaGreatDoorPZwYz
import Derived.Test.YtoeonbdoopboiaaGreatDoorPGenBx
import Derived.Shelf.Abstract
namespace Go.Proofs.YtoeonbdoopboiaaGreatDoor
section
open Go.RowKit

/-- The block b is the row's own. -/
def rowOwn {α : Type} (o : Option Addr) (xs : List α) (b : Nat) : Prop := 0 < xs.length ∧ o = some ⟨b, 0, none⟩
section
variable {α : Type} {K : Kind α}
theorem Kind.Fresh.keepB {lo hi : Nat} {W W' : World} {o : Option Addr} {c : Nat} {xs : List α} (h : K.Fresh lo hi W o c xs) (hk : ∀ b, rowOwn o xs b → W'.heap[b]? = W.heap[b]?) : K.Fresh lo hi W' o c xs := by
  rcases h with h | ⟨g, e, hg, ho⟩
  · exact .inl h
  · by_cases h0 : 0 < xs.length
    · exact .inr ⟨g, e, hg, owns_block ho (hk g ⟨h0, e⟩)⟩
    · exact .inl (List.length_eq_zero_iff.1 (by omega))
theorem Kind.Fresh.lt {lo hi : Nat} {W : World} {o : Option Addr} {c : Nat} {xs : List α} (h : K.Fresh lo hi W o c xs) {b : Nat} (hb : rowOwn o xs b) : lo ≤ b ∧ b < hi ∧ b < W.heap.size ∧ ∃ cur, W.heap[b]? = some (.cells cur K.ty (0, 0)) := by
  obtain ⟨h0, e⟩ := hb
  rcases h with h | ⟨g, e2, hg, ho⟩
  · rw [h] at h0; simp at h0
  · rw [e2] at e; simp at e; subst e
    exact ⟨(owns_lt ho).1, hg, (owns_lt ho).2, owns_type ho⟩
theorem only_own {o : Option Addr} {xs : List α} {W W' : World} (h : OnlyAt (eff o xs.length) W W') {b : Nat} (hb : ¬ rowOwn o xs b) : W'.heap[b]? = W.heap[b]? := by
  refine h.block b fun g e eb => ?_
  subst eb
  unfold eff at e
  split at e
  · cases e
  · exact hb ⟨by omega, e⟩
end
/-- Things with a head of cells and rows behind it. -/
structure Deep (A : Type) where
  K : Kind A
  In : Nat → World → A → Prop
  Fr : Nat → Nat → World → A → Prop
  own : A → Nat → Prop
structure Deep.Ok {A : Type} [Inhabited A] (D : Deep A) : Prop where
  kok : D.K.Ok
  below : ∀ {n : Nat} {W W' : World} {a : A}, D.In n W a → Below n W W' → D.In n W' a
  up : ∀ {n m : Nat} {W : World} {a : A}, D.In n W a → n ≤ m → D.In m W a
  fin : ∀ {lo hi : Nat} {W : World} {a : A}, D.Fr lo hi W a → D.In W.heap.size W a
  keep : ∀ {lo hi : Nat} {W W' : World} {a : A}, D.Fr lo hi W a → (∀ b, D.own a b → W'.heap[b]? = W.heap[b]?) → D.Fr lo hi W' a
  wide : ∀ {lo hi lo' hi' : Nat} {W : World} {a : A}, D.Fr lo hi W a → lo' ≤ lo → hi ≤ hi' → D.Fr lo' hi' W a
  lt : ∀ {lo hi : Nat} {W : World} {a : A} {b : Nat}, D.Fr lo hi W a → D.own a b → lo ≤ b ∧ b < hi ∧ b < W.heap.size ∧ ∃ cur t, W.heap[b]? = some (.cells cur t (0, 0)) ∧ t ≠ D.K.ty
section
variable {A : Type} [Inhabited A] {D : Deep A}
/-- The things lie below n, their heads at ao. -/
def DIn (D : Deep A) (n : Nat) (W : World) (ao : Option Addr) (ts : List A) : Prop := D.K.In n W ao ts ∧ ∀ j, j < ts.length → D.In n W (el ts j)
theorem DIn.below (hD : D.Ok) {n : Nat} {W W' : World} {ao : Option Addr} {ts : List A} (h : DIn D n W ao ts) (hb : Below n W W') : DIn D n W' ao ts := ⟨h.1.below hb, fun j hj => hD.below (h.2 j hj) hb⟩
theorem DIn.up (hD : D.Ok) {n m : Nat} {W : World} {ao : Option Addr} {ts : List A} (h : DIn D n W ao ts) (hm : n ≤ m) : DIn D m W ao ts := ⟨h.1.up hm, fun j hj => hD.up (h.2 j hj) hm⟩
theorem DIn.later (hD : D.Ok) {W W' : World} {ao : Option Addr} {ts : List A} (h : DIn D W.heap.size W ao ts) (hb : Below W.heap.size W W') : DIn D W'.heap.size W' ao ts := (h.below hD hb).up hD hb.size
theorem DIn.nil (n : Nat) (W : World) (ao : Option Addr) : DIn D n W ao [] := ⟨.inl rfl, fun j hj => by simp at hj⟩
/-- No two of the things share a block. -/
def Parted (D : Deep A) (ts : List A) : Prop := ∀ i j, i < j → j < ts.length → ∀ b, D.own (el ts i) b → ¬ D.own (el ts j) b
/-- The things are of their own, from lo on and before hi, apart from one another; their heads too. -/
def DFr (D : Deep A) (lo hi : Nat) (W : World) (ao : Option Addr) (c : Nat) (ts : List A) : Prop := D.K.Fresh lo hi W ao c ts ∧ (∀ j, j < ts.length → D.Fr lo hi W (el ts j)) ∧ Parted D ts
variable {lo hi : Nat} {W W' : World} {ao : Option Addr} {c : Nat} {ts : List A}
theorem DFr.in (hD : D.Ok) (h : DFr D lo hi W ao c ts) : DIn D W.heap.size W ao ts := ⟨h.1.in, fun j hj => hD.fin (h.2.1 j hj)⟩
theorem DFr.keep (hD : D.Ok) (h : DFr D lo hi W ao c ts) (hk : ∀ k, lo ≤ k → k < hi → k < W.heap.size → W'.heap[k]? = W.heap[k]?) : DFr D lo hi W' ao c ts :=
  ⟨h.1.keep hk, fun j hj => hD.keep (h.2.1 j hj) fun b hb => by obtain ⟨h1, h2, h3, _⟩ := hD.lt (h.2.1 j hj) hb; exact hk b h1 h2 h3, h.2.2⟩
theorem DFr.later (hD : D.Ok) (h : DFr D lo hi W ao c ts) (hb : Below W.heap.size W W') : DFr D lo hi W' ao c ts := h.keep hD fun k _ _ hk => hb.block k hk
theorem DFr.wide (hD : D.Ok) {lo' hi' : Nat} (h : DFr D lo hi W ao c ts) (h1 : lo' ≤ lo) (h2 : hi ≤ hi') : DFr D lo' hi' W ao c ts := ⟨h.1.wide h1 h2, fun j hj => hD.wide (h.2.1 j hj) h1 h2, h.2.2⟩
theorem DFr.between' (hD : D.Ok) {lo' hi' : Nat} (h : DFr D lo hi W ao c ts) (hb : Between lo' hi' W W') (hd : hi ≤ lo' ∨ hi' ≤ lo) : DFr D lo hi W' ao c ts := h.keep hD fun k h1 h2 h3 => hb.block k h3 (by omega)
theorem DFr.nil (lo hi : Nat) (W : World) (ao : Option Addr) (c : Nat) : DFr D lo hi W ao c [] := ⟨.inl rfl, fun j hj => by simp at hj, fun i j _ hj => by simp at hj⟩
/-- A block of one of the things is no head. -/
theorem DFr.head (hD : D.Ok) (h : DFr D lo hi W ao c ts) {j b : Nat} (hj : j < ts.length) (hb : D.own (el ts j) b) : ¬ rowOwn ao ts b := by
  intro hr
  obtain ⟨_, _, _, cur, t, h1, h2⟩ := hD.lt (h.2.1 j hj) hb
  obtain ⟨_, _, _, cur', h3⟩ := h.1.lt hr
  rw [h1] at h3
  simp at h3
  exact h2 h3.2
/-- The things up to k are laid. -/
structure LaidD (D : Deep A) (lo : Nat) (W : World) (ts : List A) (k : Nat) : Prop where
  len : ts.length = k
  row : ∀ j, j < k → D.Fr lo W.heap.size W (el ts j)
  off : Parted D ts
theorem LaidD.zero (lo : Nat) (W : World) : LaidD D lo W [] 0 := ⟨rfl, fun j hj => by omega, fun i j _ hj => by simp at hj⟩
theorem LaidD.keep (hD : D.Ok) {k : Nat} (h : LaidD D lo W ts k) (hs : W.heap.size ≤ W'.heap.size) (hb : ∀ i, lo ≤ i → i < W.heap.size → W'.heap[i]? = W.heap[i]?) : LaidD D lo W' ts k :=
  ⟨h.len, fun j hj => hD.wide (hD.keep (h.row j hj) fun b ho => by obtain ⟨h1, h2, _⟩ := hD.lt (h.row j hj) ho; exact hb b h1 h2) (Nat.le_refl _) hs, h.off⟩
theorem LaidD.later (hD : D.Ok) {k : Nat} (h : LaidD D lo W ts k) (hb : Below W.heap.size W W') : LaidD D lo W' ts k := h.keep hD hb.size fun i _ hi => hb.block i hi
theorem LaidD.set (hD : D.Ok) {k : Nat} (h : LaidD D lo W ts k) {a : Addr} (ha : a.block < lo) (u : Value) : LaidD D lo (W.setCell a u) ts k := h.keep hD (by simp [World.setCell]) fun i hi _ => Below.heap_setCell W a u i (by omega)
theorem el_snoc_left {α : Type} [Inhabited α] {l : List α} {x : α} {j k : Nat} (hl : l.length = k) (hj : j < k) : el (l ++ [x]) j = el l j := el_app_left (by omega)
theorem el_snoc_right {α : Type} [Inhabited α] {l : List α} {x : α} {k : Nat} (hl : l.length = k) : el (l ++ [x]) k = x := by
  have := el_app_right l [x] 0
  rw [hl, Nat.add_zero, el_zero] at this
  exact this
theorem LaidD.add (hD : D.Ok) {k : Nat} {a : A} (h : LaidD D lo W ts k) (hb : Below W.heap.size W W') (hlo : lo ≤ W.heap.size) (hF : D.Fr W.heap.size W'.heap.size W' a) : LaidD D lo W' (ts ++ [a]) (k + 1) := by
  have h2 := h.later hD hb
  refine ⟨by simp [h.len], fun j hj => ?_, fun i j hij hj b h1 => ?_⟩
  · rcases Nat.lt_succ_iff_lt_or_eq.1 hj with hj | rfl
    · rw [el_snoc_left h.len hj]; exact h2.row j hj
    · rw [el_snoc_right h.len]; exact hD.wide hF hlo (Nat.le_refl _)
  · have hj' : j < k + 1 := by simpa [h.len] using hj
    rcases Nat.lt_succ_iff_lt_or_eq.1 hj' with hj | rfl
    · rw [el_snoc_left h.len (by omega)] at h1
      rw [el_snoc_left h.len hj]
      exact h.off i j hij (by rw [h.len]; exact hj) b h1
    · rw [el_snoc_left h.len hij] at h1
      rw [el_snoc_right h.len]
      intro h3
      have h4 := (hD.lt (h.row i hij) h1).2.1
      have h5 := (hD.lt hF h3).1
      omega
theorem LaidD.fr (hD : D.Ok) {lo' k : Nat} (h : LaidD D lo W ts k) (hlo : lo' ≤ lo) (hF : D.K.Fresh lo' W.heap.size W ao c ts) : DFr D lo' W.heap.size W ao c ts :=
  ⟨hF, fun j hj => hD.wide (h.row j (by rw [← h.len]; exact hj)) hlo (Nat.le_refl _), h.off⟩
end
end
section
open Go.RowKit

/-- What lies behind a Node. -/
def InNode (n : Nat) (W : World) (nxo : Option Addr) (nx : List (Int)) : Prop := kI.In n W nxo nx
/-- What lies behind a Node, in memory of its own. -/
def FrNode (lo hi : Nat) (W : World) (nxo : Option Addr) (nxc : Nat) (nx : List (Int)) : Prop := kI.Fresh lo hi W nxo nxc nx
theorem InNode.later {W W' : World} {nxo : Option Addr} {nx : List (Int)} (h : InNode W.heap.size W nxo nx) (hb : Below W.heap.size W W') : InNode W'.heap.size W' nxo nx := Kind.In.later h hb
theorem InNode.below {n : Nat} {W W' : World} {nxo : Option Addr} {nx : List (Int)} (h : InNode n W nxo nx) (hb : Below n W W') : InNode n W' nxo nx := Kind.In.below h hb
theorem FrNode.in {lo hi : Nat} {W : World} {nxo : Option Addr} {nxc : Nat} {nx : List (Int)} (h : FrNode lo hi W nxo nxc nx) : InNode W.heap.size W nxo nx := Kind.Fresh.in h
theorem FrNode.later {lo hi : Nat} {W W' : World} {nxo : Option Addr} {nxc : Nat} {nx : List (Int)} (h : FrNode lo hi W nxo nxc nx) (hb : Below W.heap.size W W') : FrNode lo hi W' nxo nxc nx := Kind.Fresh.later h hb
theorem FrNode.keep {lo hi : Nat} {W W' : World} {nxo : Option Addr} {nxc : Nat} {nx : List (Int)} (h : FrNode lo hi W nxo nxc nx) (hk : ∀ k, lo ≤ k → k < hi → k < W.heap.size → W'.heap[k]? = W.heap[k]?) : FrNode lo hi W' nxo nxc nx := Kind.Fresh.keep h hk
theorem FrNode.wide {lo hi lo' hi' : Nat} {W : World} {nxo : Option Addr} {nxc : Nat} {nx : List (Int)} (h : FrNode lo hi W nxo nxc nx) (h1 : lo' ≤ lo) (h2 : hi ≤ hi') : FrNode lo' hi' W nxo nxc nx := Kind.Fresh.wide h h1 h2
theorem FrNode.low {lo hi : Nat} {W : World} {nxo : Option Addr} {nxc : Nat} {nx : List (Int)} (h : FrNode lo hi W nxo nxc nx) {hi' : Nat} (h2 : W.heap.size ≤ hi') : FrNode lo hi' W nxo nxc nx := Kind.Fresh.low h h2
theorem FrNode.setBelow {lo hi : Nat} {W : World} {nxo : Option Addr} {nxc : Nat} {nx : List (Int)} (h : FrNode lo hi W nxo nxc nx) {a : Addr} (ha : a.block < lo) (u : Value) : FrNode lo hi (W.setCell a u) nxo nxc nx := Kind.Fresh.setBelow h ha u
theorem FrNode.setAbove {lo hi : Nat} {W : World} {nxo : Option Addr} {nxc : Nat} {nx : List (Int)} (h : FrNode lo hi W nxo nxc nx) {a : Addr} (ha : hi ≤ a.block) (u : Value) : FrNode lo hi (W.setCell a u) nxo nxc nx := Kind.Fresh.setAbove h ha u
theorem FrNode.setOff {lo hi : Nat} {W : World} {nxo : Option Addr} {nxc : Nat} {nx : List (Int)} (h : FrNode lo hi W nxo nxc nx) {a : Addr} (ha : a.block < lo ∨ hi ≤ a.block) (u : Value) : FrNode lo hi (W.setCell a u) nxo nxc nx := Kind.Fresh.setOff h ha u
theorem FrNode.between' {lo hi lo' hi' : Nat} {W W' : World} {nxo : Option Addr} {nxc : Nat} {nx : List (Int)} (h : FrNode lo hi W nxo nxc nx) (hb : Between lo' hi' W W') (hd : hi ≤ lo' ∨ hi' ≤ lo) : FrNode lo hi W' nxo nxc nx := Kind.Fresh.between' h hb hd
set_option maxHeartbeats 400000 in
theorem toStg_any (x1 x2 x3 : Int) (w : World) :
    Calls Tryz.prog 66 #[.agg #[.int .i64 x1, .int .i64 x2, .int .i64 x3]] w fun e w' => e = .returned (.agg #[.int .i64 x1, .int .i64 x2, .int .i64 x3]) ∧ Below w.heap.size w w' := by
  go_enter Tryz.func66, Tryz.ntmps66
  go_wp2
  exact bodyPost_ret (v := .agg #[.int .i64 x1, .int .i64 x2, .int .i64 x3]) (by simp [results, Tryz.results66, go_sem]) rfl ⟨rfl, below3 _ _ _ _⟩
set_option maxHeartbeats 400000 in
theorem eqStage_same (x1 x2 x3 : Int) (w : World) :
    Calls Tryz.prog 73 #[.agg #[.int .i64 x1, .int .i64 x2, .int .i64 x3], .agg #[.int .i64 x1, .int .i64 x2, .int .i64 x3]] w fun e w' => e = .returned (.bool true) ∧ Below w.heap.size w w' := by
  have h1 : (x1 != x1) = false := by simp
  have h2 : (x2 != x2) = false := by simp
  have h3 : (x3 != x3) = false := by simp
  go_enter Tryz.func73, Tryz.ntmps73
  go_wp2
  go_ret
  exact ⟨rfl, below2 _ _ _⟩
set_option maxRecDepth 10000 in
set_option maxHeartbeats 4000000 in
theorem toNode_any (nm : ByteArray) (kd sa sb cp : Int) (nxo : Option Addr) (nxc : Nat) (nx : List (Int)) (w : World) (hlnx : nx.length ≤ 1048576) (hz : InNode w.heap.size w nxo nx) :
    Calls Tryz.prog 38 #[.agg #[.string nm, .int .i64 kd, .int .i64 sa, .int .i64 sb, .int .i64 cp, .slice nxo nx.length nxc]] w fun e w' => ∃ gnx, e = .returned (.agg #[.string nm, .int .i64 kd, .int .i64 sa, .int .i64 sb, .int .i64 cp, .slice (some ⟨gnx, 0, none⟩) nx.length nx.length]) ∧ FrNode w.heap.size w'.heap.size w' (some ⟨gnx, 0, none⟩) nx.length nx ∧ Below w.heap.size w w' := by
  go_enter Tryz.func38, Tryz.ntmps38
  go_wp2_with fail
  obtain ⟨V0, hV0⟩ : ∃ V0, V0 = (((w.alloc (.cells #[.string nm, .int .i64 kd, .int .i64 sa, .int .i64 sb, .int .i64 cp, .slice nxo nx.length nxc] 63)).alloc (.cells #[.string ⟨#[]⟩, .int .i64 0, .int .i64 0, .int .i64 0, .int .i64 0, .slice none 0 0] 71)).alloc (.cells #[.string nm, .int .i64 0, .int .i64 0, .int .i64 0, .int .i64 0, .slice none 0 0] 71)) := ⟨_, rfl⟩
  rw [← hV0]
  have hs0 : V0.heap.size = w.heap.size + 1 + 1 + 1 := by rw [hV0]; simp
  have hB0 : Below w.heap.size w V0 := by rw [hV0]; exact below3 _ _ _ _
  have A0 : Hid (Bx V0 (w.heap.size) [.string nm, .int .i64 kd, .int .i64 sa, .int .i64 sb, .int .i64 cp, .slice nxo nx.length nxc]) := by rw [hV0]; exact ((Bx.new [.string nm, .int .i64 kd, .int .i64 sa, .int .i64 sb, .int .i64 cp, .slice nxo nx.length nxc] _ rfl).alloc _).alloc _
  have R0 : Hid (Bx V0 (w.heap.size + 1) [.string ⟨#[]⟩, .int .i64 0, .int .i64 0, .int .i64 0, .int .i64 0, .slice none 0 0]) := by rw [hV0]; exact (Bx.new [.string ⟨#[]⟩, .int .i64 0, .int .i64 0, .int .i64 0, .int .i64 0, .slice none 0 0] _ (by simp)).alloc _
  have Q0 : Hid (Bx V0 (w.heap.size + 1 + 1) [.string nm, .int .i64 0, .int .i64 0, .int .i64 0, .int .i64 0, .slice none 0 0]) := by rw [hV0]; exact Bx.new [.string nm, .int .i64 0, .int .i64 0, .int .i64 0, .int .i64 0, .slice none 0 0] _ (by simp)
  clear hV0
  refine (toStg_any kd sa sb V0).mono ?_
  rintro e v1 ⟨rfl, hv1⟩
  have hB1 := hB0.trans (hv1.mono hB0.size)
  have hs1 : w.heap.size + 1 + 1 + 1 ≤ v1.heap.size := by have := hv1.size; omega
  have A1 := hid (A0.out.later hv1)
  have R1 := hid (R0.out.later hv1)
  have Q1 := hid (Q0.out.later hv1)
  clear hv1 A0 R0 Q0 hB0 hs0
  have a0 := A1.out.c 0 rfl
  have o0 := Q1.out.c 0 rfl
  have of0 := Q1.out.f 0 rfl
  have a1 := A1.out.c 1 rfl
  have o1 := Q1.out.c 1 rfl
  have of1 := Q1.out.f 1 rfl
  have a2 := A1.out.c 2 rfl
  have o2 := Q1.out.c 2 rfl
  have of2 := Q1.out.f 2 rfl
  have a3 := A1.out.c 3 rfl
  have o3 := Q1.out.c 3 rfl
  have of3 := Q1.out.f 3 rfl
  have a4 := A1.out.c 4 rfl
  have o4 := Q1.out.c 4 rfl
  have of4 := Q1.out.f 4 rfl
  have a5 := A1.out.c 5 rfl
  have o5 := Q1.out.c 5 rfl
  have of5 := Q1.out.f 5 rfl
  have HS1 := hid hs1
  go_wp2_with fail
  obtain ⟨V2, hV2⟩ : ∃ V2, V2 = ((((v1.setCell ⟨w.heap.size + 1 + 1, 1, none⟩ (.int .i64 kd)).setCell ⟨w.heap.size + 1 + 1, 2, none⟩ (.int .i64 sa)).setCell ⟨w.heap.size + 1 + 1, 3, none⟩ (.int .i64 sb)).setCell ⟨w.heap.size + 1 + 1, 4, none⟩ (.int .i64 cp)) := ⟨_, rfl⟩
  rw [← hV2]
  have hB2 : Below w.heap.size w V2 := by rw [hV2]; exact (((hB1.setCell (p := ⟨w.heap.size + 1 + 1, 1, none⟩) (by simp only; omega) _).setCell (p := ⟨w.heap.size + 1 + 1, 2, none⟩) (by simp only; omega) _).setCell (p := ⟨w.heap.size + 1 + 1, 3, none⟩) (by simp only; omega) _).setCell (p := ⟨w.heap.size + 1 + 1, 4, none⟩) (by simp only; omega) _
  have hs2 : V2.heap.size = v1.heap.size := by rw [hV2]; simp [World.setCell]
  have A2 : Hid (Bx V2 (w.heap.size) [.string nm, .int .i64 kd, .int .i64 sa, .int .i64 sb, .int .i64 cp, .slice nxo nx.length nxc]) := by rw [hV2]; exact (((A1.out.other (a := ⟨w.heap.size + 1 + 1, 1, none⟩) (by simp only; omega) _).other (a := ⟨w.heap.size + 1 + 1, 2, none⟩) (by simp only; omega) _).other (a := ⟨w.heap.size + 1 + 1, 3, none⟩) (by simp only; omega) _).other (a := ⟨w.heap.size + 1 + 1, 4, none⟩) (by simp only; omega) _
  have R2 : Hid (Bx V2 (w.heap.size + 1) [.string ⟨#[]⟩, .int .i64 0, .int .i64 0, .int .i64 0, .int .i64 0, .slice none 0 0]) := by rw [hV2]; exact (((R1.out.other (a := ⟨w.heap.size + 1 + 1, 1, none⟩) (by simp only; omega) _).other (a := ⟨w.heap.size + 1 + 1, 2, none⟩) (by simp only; omega) _).other (a := ⟨w.heap.size + 1 + 1, 3, none⟩) (by simp only; omega) _).other (a := ⟨w.heap.size + 1 + 1, 4, none⟩) (by simp only; omega) _
  have Q2 : Hid (Bx V2 (w.heap.size + 1 + 1) [.string nm, .int .i64 kd, .int .i64 sa, .int .i64 sb, .int .i64 cp, .slice none 0 0]) := by rw [hV2]; exact (((Q1.out.set 1 (.int .i64 kd)).set 2 (.int .i64 sa)).set 3 (.int .i64 sb)).set 4 (.int .i64 cp)
  clear hV2 A1 R1 Q1 a0 o0 of0 a1 o1 of1 a2 o2 of2 a3 o3 of3 a4 o4 of4 a5 o5 of5 hB1
  refine (toIntS_any nxo nxc nx _ hlnx (Kind.In.later hz hB2)).mono ?_
  rintro e w3 ⟨rfl, hT, hb⟩
  obtain ⟨gnx, hg⟩ : ∃ g, g = V2.heap.size := ⟨_, rfl⟩
  rw [← hg] at hT ⊢
  have hgb : w.heap.size + 1 + 1 + 1 ≤ gnx := by omega
  have hB3 := hB2.trans (hb.mono hB2.size)
  have hs3 : w.heap.size + 1 + 1 + 1 ≤ w3.heap.size := by have := hb.size; omega
  have R3 := hid (R2.out.later hb)
  have Q3 := hid (Q2.out.later hb)
  have HT := hid hT
  clear hb hT A2 R2 Q2 hB2 hg hs2 hs1
  have r0 := R3.out.c 0 rfl
  have rf0 := R3.out.f 0 rfl
  have o0 := Q3.out.c 0 rfl
  have of0 := Q3.out.f 0 rfl
  have r1 := R3.out.c 1 rfl
  have rf1 := R3.out.f 1 rfl
  have o1 := Q3.out.c 1 rfl
  have of1 := Q3.out.f 1 rfl
  have r2 := R3.out.c 2 rfl
  have rf2 := R3.out.f 2 rfl
  have o2 := Q3.out.c 2 rfl
  have of2 := Q3.out.f 2 rfl
  have r3 := R3.out.c 3 rfl
  have rf3 := R3.out.f 3 rfl
  have o3 := Q3.out.c 3 rfl
  have of3 := Q3.out.f 3 rfl
  have r4 := R3.out.c 4 rfl
  have rf4 := R3.out.f 4 rfl
  have o4 := Q3.out.c 4 rfl
  have of4 := Q3.out.f 4 rfl
  have r5 := R3.out.c 5 rfl
  have rf5 := R3.out.f 5 rfl
  have o5 := Q3.out.c 5 rfl
  have of5 := Q3.out.f 5 rfl
  go_wp2
  refine bodyPost_ret (v := .agg #[.string nm, .int .i64 kd, .int .i64 sa, .int .i64 sb, .int .i64 cp, .slice (some ⟨gnx, 0, none⟩) nx.length nx.length]) (by simp [results, Tryz.results38, go_sem, r0, r1, r2, r3, r4, r5]) rfl ⟨_, rfl, ?_, ?_⟩
  · exact Kind.Fresh.wide (((((((HT.out.setBelow (a := ⟨w.heap.size + 1 + 1, 5, none⟩) (by simp only; omega) _).setBelow (a := ⟨w.heap.size + 1, 0, none⟩) (by simp only; omega) _).setBelow (a := ⟨w.heap.size + 1, 1, none⟩) (by simp only; omega) _).setBelow (a := ⟨w.heap.size + 1, 2, none⟩) (by simp only; omega) _).setBelow (a := ⟨w.heap.size + 1, 3, none⟩) (by simp only; omega) _).setBelow (a := ⟨w.heap.size + 1, 4, none⟩) (by simp only; omega) _).setBelow (a := ⟨w.heap.size + 1, 5, none⟩) (by simp only; omega) _) (by omega) (by simp [World.setCell])
  · exact (((((((hB3.setCell (p := ⟨w.heap.size + 1 + 1, 5, none⟩) (by simp only; omega) _).setCell (p := ⟨w.heap.size + 1, 0, none⟩) (by simp only; omega) _).setCell (p := ⟨w.heap.size + 1, 1, none⟩) (by simp only; omega) _).setCell (p := ⟨w.heap.size + 1, 2, none⟩) (by simp only; omega) _).setCell (p := ⟨w.heap.size + 1, 3, none⟩) (by simp only; omega) _).setCell (p := ⟨w.heap.size + 1, 4, none⟩) (by simp only; omega) _).setCell (p := ⟨w.heap.size + 1, 5, none⟩) (by simp only; omega) _)
set_option maxHeartbeats 2000000 in
theorem eqNode_same (nm : ByteArray) (kd sa sb cp : Int) (nxo : Option Addr) (nxc : Nat) (nx : List (Int)) (nxo' : Option Addr) (nxc' : Nat) (w : World) (hlnx : nx.length ≤ 1048576) (hz : InNode w.heap.size w nxo nx) (hz' : InNode w.heap.size w nxo' nx) :
    Calls Tryz.prog 44 #[.agg #[.string nm, .int .i64 kd, .int .i64 sa, .int .i64 sb, .int .i64 cp, .slice nxo nx.length nxc], .agg #[.string nm, .int .i64 kd, .int .i64 sa, .int .i64 sb, .int .i64 cp, .slice nxo' nx.length nxc']] w fun e w' => e = .returned (.bool true) ∧ Below w.heap.size w w' := by
  have hnm : (nm.toList != nm.toList) = false := by simp
  have hcp : (cp != cp) = false := by simp
  have hB0 := below2 w (.cells #[.string nm, .int .i64 kd, .int .i64 sa, .int .i64 sb, .int .i64 cp, .slice nxo nx.length nxc] 71) (.cells #[.string nm, .int .i64 kd, .int .i64 sa, .int .i64 sb, .int .i64 cp, .slice nxo' nx.length nxc'] 71)
  have X0 := hid ((Bx.new (w := w) [.string nm, .int .i64 kd, .int .i64 sa, .int .i64 sb, .int .i64 cp, .slice nxo nx.length nxc] 71 rfl).alloc (.cells #[.string nm, .int .i64 kd, .int .i64 sa, .int .i64 sb, .int .i64 cp, .slice nxo' nx.length nxc'] 71))
  have Y0 := hid (Bx.new (w := w.alloc (.cells #[.string nm, .int .i64 kd, .int .i64 sa, .int .i64 sb, .int .i64 cp, .slice nxo nx.length nxc] 71)) (p := w.heap.size + 1) [.string nm, .int .i64 kd, .int .i64 sa, .int .i64 sb, .int .i64 cp, .slice nxo' nx.length nxc'] 71 (by simp))
  go_enter Tryz.func44, Tryz.ntmps44
  go_wp2_with fail
  refine (eqStage_same kd sa sb _).mono ?_
  rintro e w1 ⟨rfl, hb1⟩
  have hB1 := hB0.trans (hb1.mono hB0.size)
  have X1 := hid (X0.out.later hb1)
  have Y1 := hid (Y0.out.later hb1)
  clear hb1 X0 Y0 hB0
  have x0 := X1.out.c 0 rfl
  have y0 := Y1.out.c 0 rfl
  have x1 := X1.out.c 1 rfl
  have y1 := Y1.out.c 1 rfl
  have x2 := X1.out.c 2 rfl
  have y2 := Y1.out.c 2 rfl
  have x3 := X1.out.c 3 rfl
  have y3 := Y1.out.c 3 rfl
  have x4 := X1.out.c 4 rfl
  have y4 := Y1.out.c 4 rfl
  have x5 := X1.out.c 5 rfl
  have y5 := Y1.out.c 5 rfl
  go_wp2_with fail
  refine (eqIntS_same nxo nxo' nxc nxc' nx _ hlnx (Kind.In.later hz hB1) (Kind.In.later hz' hB1)).mono ?_
  rintro e w2 ⟨rfl, hb2⟩
  have hB2 := hB1.trans (hb2.mono hB1.size)
  clear hb2
  go_wp2
  go_ret
  exact ⟨rfl, hB2⟩
/-- A Node in memory: its scalars, and of each row where it begins, its room, what it holds. -/
abbrev LNode := ByteArray × Int × Int × Int × Int × (Option Addr × Nat × List (Int))
/-- What a Node says, wherever it lies. -/
abbrev PNode := ByteArray × Int × Int × Int × Int × List (Int)
def valNode (a : LNode) : PNode := (a.1, a.2.1, a.2.2.1, a.2.2.2.1, a.2.2.2.2.1, a.2.2.2.2.2.2.2)
def hNode : Kind LNode := ⟨71, 34, 6, fun t => [.string t.1, .int .i64 t.2.1, .int .i64 t.2.2.1, .int .i64 t.2.2.2.1, .int .i64 t.2.2.2.2.1, .slice t.2.2.2.2.2.1 t.2.2.2.2.2.2.2.length t.2.2.2.2.2.2.1], fun _ => rfl, fun a v h => by simp at h; rcases h with rfl | rfl | rfl | rfl | rfl | rfl <;> rfl⟩
theorem Tryz.info71 : (Tryz.prog.info? 71).map (fun i => (i.zero, i.size, i.bytes)) = some (some (.agg #[.string ⟨#[]⟩, .int .i64 0, .int .i64 0, .int .i64 0, .int .i64 0, .slice none 0 0]), 6, 72) := by kernel_rfl
theorem hNode_ok : hNode.Ok := kind_ok (K := hNode) Tryz.underlying34 Tryz.info71 rfl (by decide) (by decide)
theorem hNode_at {n : Nat} {W : World} {ao : Option Addr} {ts : List LNode} (h : hNode.In n W ao ts) {k : Nat} (hk : k < ts.length) :
    ∃ b off, ao = some ⟨b, off, none⟩ ∧ b < n ∧ ∀ j, j < ts.length → W.cell? ⟨b, off + j * 6, none⟩ = some (.string (el ts j).1) ∧ W.cell? ⟨b, off + j * 6 + 1, none⟩ = some (.int .i64 (el ts j).2.1) ∧ W.cell? ⟨b, off + j * 6 + 2, none⟩ = some (.int .i64 (el ts j).2.2.1) ∧ W.cell? ⟨b, off + j * 6 + 3, none⟩ = some (.int .i64 (el ts j).2.2.2.1) ∧ W.cell? ⟨b, off + j * 6 + 4, none⟩ = some (.int .i64 (el ts j).2.2.2.2.1) ∧ W.cell? ⟨b, off + j * 6 + 5, none⟩ = some (.slice (el ts j).2.2.2.2.2.1 (el ts j).2.2.2.2.2.2.2.length (el ts j).2.2.2.2.2.2.1) := by
  obtain ⟨b, off, e, hb, hc⟩ := h.pos hk
  exact ⟨b, off, e, hb, fun j hj => ⟨hc j hj 0 (by decide), hc j hj 1 (by decide), hc j hj 2 (by decide), hc j hj 3 (by decide), hc j hj 4 (by decide), hc j hj 5 (by decide)⟩⟩
def dNode : Deep LNode := ⟨hNode, fun n W a => InNode n W (a.2.2.2.2.2).1 (a.2.2.2.2.2).2.2, fun lo hi W a => FrNode lo hi W (a.2.2.2.2.2).1 (a.2.2.2.2.2).2.1 (a.2.2.2.2.2).2.2, fun a b => rowOwn (a.2.2.2.2.2).1 (a.2.2.2.2.2).2.2 b⟩
theorem InNode.up {n m : Nat} {W : World} {nxo : Option Addr} {nx : List (Int)} (h : InNode n W nxo nx) (hm : n ≤ m) : InNode m W nxo nx := Kind.In.up h hm
theorem dNode_ok : dNode.Ok where
  kok := hNode_ok
  below := fun h hb => InNode.below h hb
  up := fun h hm => InNode.up h hm
  fin := fun h => FrNode.in h
  keep := fun {lo hi W W' a} h hk => Kind.Fresh.keepB h fun b hb => hk b (hb)
  wide := fun h h1 h2 => FrNode.wide h h1 h2
  lt := fun {lo hi W a b} h hb => by
    obtain ⟨h1, h2, h3, cur, h4⟩ := Kind.Fresh.lt (h : kI.Fresh _ _ _ _ _ _) hb
    exact ⟨h1, h2, h3, cur, _, h4, by decide⟩
/-- How many there are behind a Node. -/
def sizeNode (a : LNode) : Nat := a.1.size + (a.2.2.2.2.2).2.2.length
def totNode (ts : List LNode) : Nat := (ts.map sizeNode).sum
theorem totNode_take {ts : List LNode} {k : Nat} (h : k < ts.length) : totNode (ts.take (k + 1)) = totNode (ts.take k) + sizeNode (el ts k) := by rw [take_succ_el h]; simp [totNode]
theorem totNode_le (ts : List LNode) (k : Nat) : totNode (ts.take k) ≤ totNode ts := by
  induction ts generalizing k with
  | nil => simp [totNode]
  | cons x r ih =>
    cases k with
    | zero => simp [totNode]
    | succ k => simp only [List.take_succ_cons, totNode, List.map_cons, List.sum_cons]; have := ih k; simp only [totNode] at this; omega
theorem totNode_el {ts : List LNode} {k : Nat} (h : k < ts.length) : totNode (ts.take k) + sizeNode (el ts k) ≤ totNode ts := by rw [← totNode_take h]; exact totNode_le ts _
set_option maxHeartbeats 2000000 in
theorem szgNode_any (nm : ByteArray) (kd : Int) (sa : Int) (sb : Int) (cp : Int) (nxo : Option Addr) (nnx nxc : Nat) (L : Int) (w : World) (hln : nm.size ≤ 9223372036854775807) (h0 : 0 ≤ L) (h1 : L ≤ 1048576) (hlnx : nnx ≤ 9223372036854775807) :
    Calls Tryz.prog 36 #[.agg #[.string nm, .int .i64 kd, .int .i64 sa, .int .i64 sb, .int .i64 cp, .slice nxo nnx nxc], .int .i64 L] w fun e w' => (∃ z : Int, e = .returned (.int .i64 z) ∧ z ≤ 1048576 ∧ ((z < 0) ∨ (z = L - (nm.size + nnx : Nat) ∧ 0 ≤ z))) ∧ Below w.heap.size w w' := by
  have hB0 := below1 w (.cells #[.string nm, .int .i64 kd, .int .i64 sa, .int .i64 sb, .int .i64 cp, .slice nxo nnx nxc] 63)
  go_enter Tryz.func36, Tryz.ntmps36
  by_cases gn : L - (nm.size : Int) < 0
  · go_wp2
    go_ret
    exact ⟨⟨_, rfl, by omega, by omega⟩, hB0⟩
  go_wp2_with fail
  refine (szIntS_any _ _ _ _ _ (by omega) (by omega) hlnx).mono ?_
  rintro e w1 ⟨⟨z0, rfl, hr0, hs0⟩, rfl⟩
  by_cases g0 : z0 < 0
  · go_wp2
    go_ret
    exact ⟨⟨_, rfl, by omega, by omega⟩, hB0⟩
  go_wp2
  go_ret
  exact ⟨⟨_, rfl, by omega, by omega⟩, hB0⟩
set_option maxHeartbeats 2000000 in
theorem szNodeS_any (ao : Option Addr) (cap : Nat) (ts : List LNode) (L : Int) (w : World) (h0 : 0 ≤ L) (h1 : L ≤ 1048576) (hl : ts.length ≤ 9223372036854775807) (hle : ∀ a ∈ ts, a.1.size ≤ 9223372036854775807 ∧ (a.2.2.2.2.2).2.2.length ≤ 9223372036854775807) (hz : hNode.In w.heap.size w ao ts) :
    Calls Tryz.prog 8 #[.slice ao ts.length cap, .int .i64 L] w fun e w' => (∃ r : Int, e = .returned (.int .i64 r) ∧ r ≤ 1048576 ∧ ((r < 0) ∨ (r = L - ts.length - totNode ts ∧ 0 ≤ r))) ∧ Below w.heap.size w w' := by
  by_cases hbig : L - (ts.length : Int) < 0
  · go_enter Tryz.func8, Tryz.ntmps8
    go_wp2
    go_ret
    exact ⟨⟨_, rfl, by omega, by omega⟩, Below.refl _ _⟩
  · have hb' : decide (L - (ts.length : Int) < 0) = false := by simpa using hbig
    go_enter Tryz.func8, Tryz.ntmps8
    go_wp2
    go_loopw [1, 5] (fun v i wr => ∃ (k : Nat), k ≤ ts.length ∧ i = .int .i64 k ∧ v = .int .i64 (L - ts.length - totNode (ts.take k)) ∧ (0 : Int) ≤ L - ts.length - totNode (ts.take k) ∧ Below w.heap.size w wr) (fun _ i _ => ts.length - (intOf i).toNat)
    case atStart => exact ⟨0, Nat.zero_le _, rfl, by simp [totNode], by simp [totNode]; omega, Below.refl _ _⟩
    case round =>
      obtain ⟨k, hk, rfl, rfl, hge, hnx⟩ := hrel
      by_cases hlt : k < ts.length
      · obtain ⟨b, off, rfl, hb, hc⟩ := hNode_at hz hlt
        have d1 := (hnx.cell (p := ⟨b, off + k * 6, none⟩) hb).trans (hc k hlt).1
        have d2 := (hnx.cell (p := ⟨b, off + k * 6 + 1, none⟩) hb).trans (hc k hlt).2.1
        have d3 := (hnx.cell (p := ⟨b, off + k * 6 + 2, none⟩) hb).trans (hc k hlt).2.2.1
        have d4 := (hnx.cell (p := ⟨b, off + k * 6 + 3, none⟩) hb).trans (hc k hlt).2.2.2.1
        have d5 := (hnx.cell (p := ⟨b, off + k * 6 + 4, none⟩) hb).trans (hc k hlt).2.2.2.2.1
        have d6 := (hnx.cell (p := ⟨b, off + k * 6 + 5, none⟩) hb).trans (hc k hlt).2.2.2.2.2
        have hlk := hle _ (el_mem hlt)
        have ht := totNode_take hlt
        unfold sizeNode at ht
        obtain ⟨⟨nm, kd, sa, sb, cp, ⟨nxo, nxc, nx⟩⟩, ex⟩ : ∃ v, v = el ts k := ⟨_, rfl⟩
        rw [← ex] at d1 d2 d3 d4 d5 d6 hlk ht
        clear ex hc
        dsimp only at d1 d2 d3 d4 d5 d6 hlk ht
        go_wp2_with fail
        refine (szgNode_any nm kd sa sb cp nxo nx.length nxc (L - ts.length - totNode (ts.take k)) _ hlk.1 hge (by omega) hlk.2).mono ?_
        rintro e w1 ⟨⟨r, rfl, hr1, hr⟩, hb1⟩
        have hB1 := hnx.trans (hb1.mono hnx.size)
        clear hb1
        rcases hr with hr | ⟨rfl, hr⟩
        · have hr' : decide (r < 0) = true := by simpa using hr
          go_wp2
          go_ret
          exact ⟨⟨_, rfl, by omega, by omega⟩, hB1⟩
        · go_wp2
          go_roundw
          case rel => exact ⟨k + 1, by omega, by go_num, by rw [ht]; push_cast; congr 1; omega, by rw [ht]; push_cast; omega, hB1⟩
          case measure => simp [intOf]; omega
      · obtain rfl : k = ts.length := by omega
        rw [List.take_length] at hge ⊢
        go_wp2
        go_ret
        exact ⟨⟨_, rfl, by omega, by omega⟩, hnx⟩
set_option maxHeartbeats 8000000 in
theorem toNodeS_any (ao : Option Addr) (cap : Nat) (ts : List LNode) (w : World) (hl : ts.length ≤ 1048576) (hle : ∀ a ∈ ts, (a.2.2.2.2.2).2.2.length ≤ 1048576) (hz : DIn dNode w.heap.size w ao ts) :
    Calls Tryz.prog 11 #[.slice ao ts.length cap] w fun e w' => e = .returned (.slice (some ⟨w.heap.size, 0, none⟩) ts.length ts.length) ∧ (∃ lay, lay.map valNode = ts.map valNode ∧ DFr dNode w.heap.size w'.heap.size w' (some ⟨w.heap.size, 0, none⟩) ts.length lay) ∧ Below w.heap.size w w' := by
  obtain ⟨i0, hi, hz0, hz1, hz2⟩ := info_parts Tryz.info71
  go_enter Tryz.func11, Tryz.ntmps11
  go_wp2_with (at_make; refine wpList_make_full _ rfl _ _ 34 rfl w.heap.size 71 i0 (.agg #[.string ⟨#[]⟩, .int .i64 0, .int .i64 0, .int .i64 0, .int .i64 0, .slice none 0 0]) 6 Tryz.underlying34 hi hz0 hz1 .i64 .i64 _ _ ts.length rfl rfl rfl rfl (by rw [hz2]; omega) (by unfold maxLen; omega) (Nat.le_refl _) ?_; intro w1 hown hgrow)
  have hB1 : Below w.heap.size w w1 := (Below.refl _ _).grown hgrow (Nat.le_refl _) (fun k e => by cases e)
  have hs1 : w.heap.size + 1 ≤ w1.heap.size := (owns_lt hown).2
  have HO := show Hid _ from hown
  clear hown hgrow
  go_loopw [4] (fun i wr => ∃ (k : Nat) (xs : List Value) (lay : List LNode), k ≤ ts.length ∧ i = .int .i64 k ∧ Hid (wr.ownsRow w.heap.size 71 6 (.slice (some ⟨w.heap.size, 0, none⟩) ts.length ts.length) ts.length xs ∧ ∀ j, j < k → xs[j * 6]? = some (.string (el lay j).1) ∧ xs[j * 6 + 1]? = some (.int .i64 (el lay j).2.1) ∧ xs[j * 6 + 2]? = some (.int .i64 (el lay j).2.2.1) ∧ xs[j * 6 + 3]? = some (.int .i64 (el lay j).2.2.2.1) ∧ xs[j * 6 + 4]? = some (.int .i64 (el lay j).2.2.2.2.1) ∧ xs[j * 6 + 5]? = some (.slice (el lay j).2.2.2.2.2.1 (el lay j).2.2.2.2.2.2.2.length (el lay j).2.2.2.2.2.2.1)) ∧ Below w.heap.size w wr ∧ Hid (LaidD dNode (w.heap.size + 1) wr lay k) ∧ Hid (lay.map valNode = (ts.take k).map valNode) ∧ w.heap.size + 1 ≤ wr.heap.size) (fun i _ => ts.length - (intOf i).toNat)
  case atStart => exact ⟨0, _, [], Nat.zero_le _, rfl, ⟨HO.out, fun j hj => by omega⟩, hB1, LaidD.zero _ _, rfl, hs1⟩
  case round =>
    obtain ⟨k, xs, lay, hk, rfl, ho, hnx, hL, hV, hsr⟩ := hrel
    by_cases hlt : k < ts.length
    · obtain ⟨b, off, rfl, hb, hc⟩ := hNode_at hz.1 hlt
      have d1 := (hnx.cell (p := ⟨b, off + k * 6, none⟩) hb).trans (hc k hlt).1
      have d2 := (hnx.cell (p := ⟨b, off + k * 6 + 1, none⟩) hb).trans (hc k hlt).2.1
      have d3 := (hnx.cell (p := ⟨b, off + k * 6 + 2, none⟩) hb).trans (hc k hlt).2.2.1
      have d4 := (hnx.cell (p := ⟨b, off + k * 6 + 3, none⟩) hb).trans (hc k hlt).2.2.2.1
      have d5 := (hnx.cell (p := ⟨b, off + k * 6 + 4, none⟩) hb).trans (hc k hlt).2.2.2.2.1
      have d6 := (hnx.cell (p := ⟨b, off + k * 6 + 5, none⟩) hb).trans (hc k hlt).2.2.2.2.2
      have hI := hz.2 k hlt
      have hlk := hle _ (el_mem hlt)
      have HT := hid (take_succ_el hlt)
      obtain ⟨⟨nm, kd, sa, sb, cp, ⟨nxo, nxc, nx⟩⟩, ex⟩ : ∃ v, v = el ts k := ⟨_, rfl⟩
      rw [← ex] at d1 d2 d3 d4 d5 d6 hI hlk HT
      clear ex hc
      dsimp only at d1 d2 d3 d4 d5 d6 hlk
      have HI : Hid (InNode wr.heap.size wr nxo nx) := InNode.up (InNode.below hI hnx) hnx.size
      clear hI
      go_wp2_with fail
      refine (toNode_any nm kd sa sb cp nxo nxc nx wr hlk HI.out).mono ?_
      rintro e w2 ⟨gnx, rfl, hF2, hb2⟩
      have hxl : k * 6 + 5 < xs.length := by rw [ho.out.1.1]; omega
      have ho2 := ownsRow_below ho.out.1 hb2
      have hnb : Below w.heap.size w w2 := hnx.trans (hb2.mono hnx.size)
      have HO2 := hid ho2
      have hst1 : w2.cell? ⟨w.heap.size, k * 6, none⟩ = some xs[k * 6] := (ho2.cellAt (k * 6) (by omega)).trans (by simp)
      have hfr1 : w2.frozen? ⟨w.heap.size, k * 6, none⟩ = false := ho2.frozenAt (k * 6)
      have hst2 : w2.cell? ⟨w.heap.size, k * 6 + 1, none⟩ = some xs[k * 6 + 1] := (ho2.cellAt (k * 6 + 1) (by omega)).trans (by simp)
      have hfr2 : w2.frozen? ⟨w.heap.size, k * 6 + 1, none⟩ = false := ho2.frozenAt (k * 6 + 1)
      have hst3 : w2.cell? ⟨w.heap.size, k * 6 + 2, none⟩ = some xs[k * 6 + 2] := (ho2.cellAt (k * 6 + 2) (by omega)).trans (by simp)
      have hfr3 : w2.frozen? ⟨w.heap.size, k * 6 + 2, none⟩ = false := ho2.frozenAt (k * 6 + 2)
      have hst4 : w2.cell? ⟨w.heap.size, k * 6 + 3, none⟩ = some xs[k * 6 + 3] := (ho2.cellAt (k * 6 + 3) (by omega)).trans (by simp)
      have hfr4 : w2.frozen? ⟨w.heap.size, k * 6 + 3, none⟩ = false := ho2.frozenAt (k * 6 + 3)
      have hst5 : w2.cell? ⟨w.heap.size, k * 6 + 4, none⟩ = some xs[k * 6 + 4] := (ho2.cellAt (k * 6 + 4) (by omega)).trans (by simp)
      have hfr5 : w2.frozen? ⟨w.heap.size, k * 6 + 4, none⟩ = false := ho2.frozenAt (k * 6 + 4)
      have hst6 : w2.cell? ⟨w.heap.size, k * 6 + 5, none⟩ = some xs[k * 6 + 5] := (ho2.cellAt (k * 6 + 5) (by omega)).trans (by simp)
      have hfr6 : w2.frozen? ⟨w.heap.size, k * 6 + 5, none⟩ = false := ho2.frozenAt (k * 6 + 5)
      have hL2 : Hid (LaidD dNode (w.heap.size + 1) w2 (lay ++ [((nm, kd, sa, sb, cp, (some ⟨gnx, 0, none⟩, nx.length, nx)) : LNode)]) (k + 1)) := hL.out.add dNode_ok hb2 hsr hF2
      have hV2 : Hid ((lay ++ [((nm, kd, sa, sb, cp, (some ⟨gnx, 0, none⟩, nx.length, nx)) : LNode)]).map valNode = (ts.take (k + 1)).map valNode) := by rw [Hid, HT.out, List.map_append, List.map_append, hV.out]; rfl
      have hs2 : w.heap.size + 1 ≤ w2.heap.size := Nat.le_trans hsr hb2.size
      have HG := hid hL.out.len
      obtain ⟨W3, hW3⟩ : ∃ W3, W3 = ((((((w2.setCell ⟨w.heap.size, k * 6, none⟩ (.string nm)).setCell ⟨w.heap.size, k * 6 + 1, none⟩ (.int .i64 kd)).setCell ⟨w.heap.size, k * 6 + 2, none⟩ (.int .i64 sa)).setCell ⟨w.heap.size, k * 6 + 3, none⟩ (.int .i64 sb)).setCell ⟨w.heap.size, k * 6 + 4, none⟩ (.int .i64 cp)).setCell ⟨w.heap.size, k * 6 + 5, none⟩ (.slice (some ⟨gnx, 0, none⟩) nx.length nx.length)) := ⟨_, rfl⟩
      have hL3 : Hid (LaidD dNode (w.heap.size + 1) W3 (lay ++ [((nm, kd, sa, sb, cp, (some ⟨gnx, 0, none⟩, nx.length, nx)) : LNode)]) (k + 1)) := by rw [Hid, hW3]; exact ((((((hL2.out.set dNode_ok (a := ⟨w.heap.size, k * 6, none⟩) (by dsimp only; omega) _).set dNode_ok (a := ⟨w.heap.size, k * 6 + 1, none⟩) (by dsimp only; omega) _).set dNode_ok (a := ⟨w.heap.size, k * 6 + 2, none⟩) (by dsimp only; omega) _).set dNode_ok (a := ⟨w.heap.size, k * 6 + 3, none⟩) (by dsimp only; omega) _).set dNode_ok (a := ⟨w.heap.size, k * 6 + 4, none⟩) (by dsimp only; omega) _).set dNode_ok (a := ⟨w.heap.size, k * 6 + 5, none⟩) (by dsimp only; omega) _)
      have HW3 := hid hW3
      clear ho2 hF2 hb2 hL hL2 hW3
      go_wp2
      rw [← HW3.out]
      go_roundw
      case rel => exact ⟨k + 1, ((((((xs.set (k * 6) (.string nm)).set (k * 6 + 1) (.int .i64 kd)).set (k * 6 + 2) (.int .i64 sa)).set (k * 6 + 3) (.int .i64 sb)).set (k * 6 + 4) (.int .i64 cp)).set (k * 6 + 5) (.slice (some ⟨gnx, 0, none⟩) nx.length nx.length)), _, by omega, by go_num, ⟨by rw [HW3.out]; exact ((((((World.ownsRow.stored HO2.out (k * 6) _).1.stored (k * 6 + 1) _).1.stored (k * 6 + 2) _).1.stored (k * 6 + 3) _).1.stored (k * 6 + 4) _).1.stored (k * 6 + 5) _).1, fun j hj => by
          rcases Nat.lt_succ_iff_lt_or_eq.1 hj with h | rfl
          · refine ⟨?_, ?_, ?_, ?_, ?_, ?_⟩
            · rw [set_far (by omega), set_far (by omega), set_far (by omega), set_far (by omega), set_far (by omega), set_far (by omega), el_snoc_left HG.out h]; exact (ho.out.2 j h).1
            · rw [set_far (by omega), set_far (by omega), set_far (by omega), set_far (by omega), set_far (by omega), set_far (by omega), el_snoc_left HG.out h]; exact (ho.out.2 j h).2.1
            · rw [set_far (by omega), set_far (by omega), set_far (by omega), set_far (by omega), set_far (by omega), set_far (by omega), el_snoc_left HG.out h]; exact (ho.out.2 j h).2.2.1
            · rw [set_far (by omega), set_far (by omega), set_far (by omega), set_far (by omega), set_far (by omega), set_far (by omega), el_snoc_left HG.out h]; exact (ho.out.2 j h).2.2.2.1
            · rw [set_far (by omega), set_far (by omega), set_far (by omega), set_far (by omega), set_far (by omega), set_far (by omega), el_snoc_left HG.out h]; exact (ho.out.2 j h).2.2.2.2.1
            · rw [set_far (by omega), set_far (by omega), set_far (by omega), set_far (by omega), set_far (by omega), set_far (by omega), el_snoc_left HG.out h]; exact (ho.out.2 j h).2.2.2.2.2
          · refine ⟨?_, ?_, ?_, ?_, ?_, ?_⟩
            · rw [set_far (by omega), set_far (by omega), set_far (by omega), set_far (by omega), set_far (by omega), set_at (by first | omega | (simp only [List.length_set]; omega)), el_snoc_right HG.out]
            · rw [set_far (by omega), set_far (by omega), set_far (by omega), set_far (by omega), set_at (by first | omega | (simp only [List.length_set]; omega)), el_snoc_right HG.out]
            · rw [set_far (by omega), set_far (by omega), set_far (by omega), set_at (by first | omega | (simp only [List.length_set]; omega)), el_snoc_right HG.out]
            · rw [set_far (by omega), set_far (by omega), set_at (by first | omega | (simp only [List.length_set]; omega)), el_snoc_right HG.out]
            · rw [set_far (by omega), set_at (by first | omega | (simp only [List.length_set]; omega)), el_snoc_right HG.out]
            · rw [set_at (by first | omega | (simp only [List.length_set]; omega)), el_snoc_right HG.out]⟩, by rw [HW3.out]; exact ((((((hnb.setCell (p := ⟨w.heap.size, k * 6, none⟩) (Nat.le_refl _) _).setCell (p := ⟨w.heap.size, k * 6 + 1, none⟩) (Nat.le_refl _) _).setCell (p := ⟨w.heap.size, k * 6 + 2, none⟩) (Nat.le_refl _) _).setCell (p := ⟨w.heap.size, k * 6 + 3, none⟩) (Nat.le_refl _) _).setCell (p := ⟨w.heap.size, k * 6 + 4, none⟩) (Nat.le_refl _) _).setCell (p := ⟨w.heap.size, k * 6 + 5, none⟩) (Nat.le_refl _) _), hL3, hV2, by rw [HW3.out]; simpa [World.setCell] using hs2⟩
      case measure => simp [intOf]; omega
    · obtain rfl : k = ts.length := by omega
      have hgl := hL.out.len
      have hxs : xs = hNode.flat lay := by
        refine hNode.flat_of xs lay (by rw [ho.out.1.1, hgl]; rfl) fun j hj i hi => ?_
        have hi' : i < 6 := hi
        rw [hgl] at hj
        rcases (show i = 0 ∨ i = 1 ∨ i = 2 ∨ i = 3 ∨ i = 4 ∨ i = 5 from by omega) with rfl | rfl | rfl | rfl | rfl | rfl
        · exact (ho.out.2 j hj).1
        · exact (ho.out.2 j hj).2.1
        · exact (ho.out.2 j hj).2.2.1
        · exact (ho.out.2 j hj).2.2.2.1
        · exact (ho.out.2 j hj).2.2.2.2.1
        · exact (ho.out.2 j hj).2.2.2.2.2
      subst hxs
      have HGL := hid hgl
      rw [List.take_length] at hV
      clear hgl
      go_wp2
      go_ret
      refine ⟨rfl, ⟨lay, hV.out, hL.out.fr dNode_ok (by omega) (.inr ⟨_, rfl, (owns_lt ho.out.1).2, ?_⟩)⟩, hnx⟩
      rw [HGL.out]; exact ho.out.1
set_option maxHeartbeats 4000000 in
theorem eqNodeS_same (ao bo : Option Addr) (cap cap' : Nat) (ts us : List LNode) (w : World) (hl : ts.length ≤ 1048576) (hle : ∀ a ∈ ts, (a.2.2.2.2.2).2.2.length ≤ 1048576) (hv : ts.map valNode = us.map valNode) (hz : DIn dNode w.heap.size w ao ts) (hz' : DIn dNode w.heap.size w bo us) :
    Calls Tryz.prog 16 #[.slice ao ts.length cap, .slice bo us.length cap'] w fun e w' => e = .returned (.bool true) ∧ Below w.heap.size w w' := by
  have hlu : us.length = ts.length := by have := congrArg List.length hv; simpa using this.symm
  rw [hlu]
  have HLU := hid hlu
  have HV := hid hv
  clear hlu hv
  have hne : ((ts.length : Int) != (ts.length : Int)) = false := by simp
  go_enter Tryz.func16, Tryz.ntmps16
  go_wp2
  go_loopw [5] (fun i wr => ∃ k : Nat, k ≤ ts.length ∧ i = .int .i64 k ∧ Below w.heap.size w wr) (fun i _ => ts.length - (intOf i).toNat)
  case atStart => exact ⟨0, Nat.zero_le _, rfl, Below.refl _ _⟩
  case round =>
    obtain ⟨k, hk, rfl, hnx⟩ := hrel
    by_cases hlt : k < ts.length
    · obtain ⟨b, off, rfl, hb, hc⟩ := hNode_at hz.1 hlt
      obtain ⟨b', off', rfl, hb', hc'⟩ := hNode_at hz'.1 (k := k) (by rw [HLU.out]; exact hlt)
      have hck1 := (hnx.cell (p := ⟨b, off + k * 6, none⟩) hb).trans (hc k hlt).1
      have hck1' := (hnx.cell (p := ⟨b', off' + k * 6, none⟩) hb').trans (hc' k (by rw [HLU.out]; exact hlt)).1
      have hck2 := (hnx.cell (p := ⟨b, off + k * 6 + 1, none⟩) hb).trans (hc k hlt).2.1
      have hck2' := (hnx.cell (p := ⟨b', off' + k * 6 + 1, none⟩) hb').trans (hc' k (by rw [HLU.out]; exact hlt)).2.1
      have hck3 := (hnx.cell (p := ⟨b, off + k * 6 + 2, none⟩) hb).trans (hc k hlt).2.2.1
      have hck3' := (hnx.cell (p := ⟨b', off' + k * 6 + 2, none⟩) hb').trans (hc' k (by rw [HLU.out]; exact hlt)).2.2.1
      have hck4 := (hnx.cell (p := ⟨b, off + k * 6 + 3, none⟩) hb).trans (hc k hlt).2.2.2.1
      have hck4' := (hnx.cell (p := ⟨b', off' + k * 6 + 3, none⟩) hb').trans (hc' k (by rw [HLU.out]; exact hlt)).2.2.2.1
      have hck5 := (hnx.cell (p := ⟨b, off + k * 6 + 4, none⟩) hb).trans (hc k hlt).2.2.2.2.1
      have hck5' := (hnx.cell (p := ⟨b', off' + k * 6 + 4, none⟩) hb').trans (hc' k (by rw [HLU.out]; exact hlt)).2.2.2.2.1
      have hck6 := (hnx.cell (p := ⟨b, off + k * 6 + 5, none⟩) hb).trans (hc k hlt).2.2.2.2.2
      have hck6' := (hnx.cell (p := ⟨b', off' + k * 6 + 5, none⟩) hb').trans (hc' k (by rw [HLU.out]; exact hlt)).2.2.2.2.2
      have hI := hz.2 k hlt
      have hI' := hz'.2 k (by rw [HLU.out]; exact hlt)
      have hlk := hle _ (el_mem hlt)
      have hvk : valNode (el ts k) = valNode (el us k) := by
        have := congrArg (fun l => el l k) HV.out
        simpa [el, hlt, HLU.out] using this
      obtain ⟨⟨nm, kd, sa, sb, cp, ⟨nxo, nxc, nx⟩⟩, ex⟩ : ∃ v, v = el ts k := ⟨_, rfl⟩
      obtain ⟨⟨nm', kd', sa', sb', cp', ⟨nxo', nxc', nx'⟩⟩, ex'⟩ : ∃ v, v = el us k := ⟨_, rfl⟩
      rw [← ex] at hck1 hck2 hck3 hck4 hck5 hck6 hI hlk hvk
      rw [← ex'] at hck1' hck2' hck3' hck4' hck5' hck6' hI' hvk
      clear ex ex' hc hc'
      simp only [valNode, Prod.mk.injEq] at hvk
      obtain ⟨rfl, rfl, rfl, rfl, rfl, rfl⟩ := hvk
      dsimp only at hck1 hck2 hck3 hck4 hck5 hck6 hck1' hck2' hck3' hck4' hck5' hck6' hlk
      have HI : Hid (InNode wr.heap.size wr nxo nx) := InNode.up (InNode.below hI hnx) hnx.size
      have HI' : Hid (InNode wr.heap.size wr nxo' nx) := InNode.up (InNode.below hI' hnx) hnx.size
      clear hI hI' hz hz'
      go_wp2
      go_region_with (go_at_call 44; refine (eqNode_same nm kd sa sb cp nxo nxc nx nxo' nxc' _ hlk (by exact HI.out) (by exact HI'.out)).mono ?_; rintro e w1 ⟨rfl, hb1⟩)
      all_goals go_wp2
      all_goals
        have hb2 : Below wr.drew.heap.size wr.drew w1 := by assumption
        have hnb : Below w.heap.size w w1 := hnx.drew.trans (hb2.mono hnx.size)
        go_roundw
        case rel => exact ⟨k + 1, by omega, by go_num, hnb⟩
        case measure => simp [intOf]; omega
    · obtain rfl : k = ts.length := by omega
      go_wp2
      go_ret
      exact ⟨rfl, hnx⟩
end
section
open Go.RowKit

/-- The first place at which p holds, or -1. -/
def fidx {α : Type} (p : α → Bool) (l : List α) : Int := match l.findIdx? p with | some k => (k : Int) | none => -1
theorem fidx_hit {α : Type} [Inhabited α] {p : α → Bool} {l : List α} {k : Nat} (hk : k < l.length) (h : p (el l k) = true) (hn : ∀ j, j < k → p (el l j) = false) : fidx p l = (k : Int) := by
  have : l.findIdx? p = some k := by
    rw [List.findIdx?_eq_some_iff_getElem]
    refine ⟨hk, by rw [← el_at hk]; exact h, fun j hj => ?_⟩
    have := hn j hj
    rw [el_at (by omega)] at this
    simp [this]
  rw [fidx, this]
theorem fidx_no {α : Type} [Inhabited α] {p : α → Bool} {l : List α} (h : ∀ j, j < l.length → p (el l j) = false) : fidx p l = -1 := by
  have : l.findIdx? p = none := by
    rw [List.findIdx?_eq_none_iff]
    intro x hx
    obtain ⟨j, hj, rfl⟩ := mem_el hx
    exact h j hj
  rw [fidx, this]
theorem fidx_any {α : Type} (p : α → Bool) (l : List α) : decide (0 ≤ fidx p l) = l.any p := by
  unfold fidx
  cases h : l.findIdx? p with
  | none =>
    rw [List.findIdx?_eq_none_iff] at h
    have : l.any p = false := by rw [List.any_eq_false]; intro x hx; simp [h x hx]
    simp [this]
  | some k =>
    rw [List.findIdx?_eq_some_iff_getElem] at h
    obtain ⟨h1, h2, _⟩ := h
    have : l.any p = true := by rw [List.any_eq_true]; exact ⟨_, List.getElem_mem h1, h2⟩
    simp [this]
set_option maxHeartbeats 4000000 in
theorem indexFuncI_any (g : Nat) (cb : Array Value) (eg : ∀ args w, (callFunc g args).run Tryz.prog w = .ok (.enter g args) w) (ao : Option Addr) (cap : Nat) (zs : List Int) (p : Int → Bool) (w : World) (hl : zs.length ≤ 1048576) (hz : kI.In w.heap.size w ao zs) (hC : ∀ x W, x ∈ zs → Below w.heap.size w W → Calls Tryz.prog g (#[.int .i64 x] ++ cb) W fun e w' => e = .returned (.bool (p x)) ∧ Below W.heap.size W w') :
    Calls Tryz.prog 136 #[.slice ao zs.length cap, .func (.func g) #[] cb] w fun e w' => e = .returned (.int .i64 (fidx p zs)) ∧ Below w.heap.size w w' := by
  have HC := hid hC
  clear hC
  go_enter Tryz.func136, Tryz.ntmps136
  go_wp2
  go_loopw [8] (fun i wr => ∃ k : Nat, i = .int .i64 (k : Int) ∧ k ≤ zs.length ∧ Hid (∀ j, j < k → p (el zs j) = false) ∧ Below w.heap.size w wr) (fun i _ => zs.length - (intOf i).toNat)
  case atStart => exact ⟨0, rfl, Nat.zero_le _, fun j hj => by omega, Below.refl _ _⟩
  case round =>
    obtain ⟨k, rfl, hk, hN, hB⟩ := hrel
    by_cases hlt : k < zs.length
    · obtain ⟨b, off, rfl, hb, hc⟩ := ints_at hz hlt
      have d1 := (hB.cell (p := ⟨b, off + k, none⟩) hb).trans (hc k hlt)
      have hm := el_mem hlt
      have hcall := fun W hW => HC.out (el zs k) W hm hW
      have HE : Hid (∀ y, p (el zs k) = y → p (el zs k) = y) := fun _ h => h
      obtain ⟨y, hy⟩ : ∃ y, p (el zs k) = y := ⟨_, rfl⟩
      have HY := hid hy
      rw [hy] at hcall
      obtain ⟨x, ex⟩ : ∃ v, v = el zs k := ⟨_, rfl⟩
      rw [← ex] at d1 hcall
      clear ex hc hm hy HE
      skip
      skip
      cases y
      · go_wp2_with (go_at_fn g; refine (hcall _ hB).mono ?_; rintro e w1 ⟨rfl, hb1⟩; have hB1 : Below w.heap.size w w1 := hB.trans (hb1.mono hB.size); clear hb1)
        go_roundw
        case rel =>
          refine ⟨k + 1, by go_num, by omega, fun j hj => ?_, hB1⟩
          rcases Nat.lt_succ_iff_lt_or_eq.1 hj with h | rfl
          · exact hN.out j h
          · exact HY.out
        case measure => simp [intOf]; omega
      · go_wp2_with (go_at_fn g; refine (hcall _ hB).mono ?_; rintro e w1 ⟨rfl, hb1⟩; have hB1 : Below w.heap.size w w1 := hB.trans (hb1.mono hB.size); clear hb1)
        go_ret
        exact ⟨ret_int (fidx_hit hlt HY.out hN.out).symm, hB1⟩
    · obtain rfl : k = zs.length := by omega
      go_wp2
      go_ret
      exact ⟨ret_int (fidx_no hN.out).symm, hB⟩
set_option maxHeartbeats 1000000 in
theorem containsFuncI_any (g : Nat) (cb : Array Value) (eg : ∀ args w, (callFunc g args).run Tryz.prog w = .ok (.enter g args) w) (ao : Option Addr) (cap : Nat) (zs : List Int) (p : Int → Bool) (w : World) (hl : zs.length ≤ 1048576) (hz : kI.In w.heap.size w ao zs) (hC : ∀ x W, x ∈ zs → Below w.heap.size w W → Calls Tryz.prog g (#[.int .i64 x] ++ cb) W fun e w' => e = .returned (.bool (p x)) ∧ Below W.heap.size W w') :
    Calls Tryz.prog 138 #[.slice ao zs.length cap, .func (.func g) #[] cb] w fun e w' => e = .returned (.bool (zs.any p)) ∧ Below w.heap.size w w' := by
  rw [← fidx_any]
  have hcon := indexFuncI_any g cb eg ao cap zs p w hl hz hC
  clear hC hz
  go_enter Tryz.func138, Tryz.ntmps138
  go_wp2_with (go_at_call 136; refine hcon.mono ?_; rintro e w1 ⟨rfl, hb1⟩)
  go_ret
  exact ⟨rfl, hb1⟩
/-- A node as a value. -/
def nodeV (x : LNode) : Value := .agg #[.string x.1, .int .i64 x.2.1, .int .i64 x.2.2.1, .int .i64 x.2.2.2.1, .int .i64 x.2.2.2.2.1, .slice x.2.2.2.2.2.1 x.2.2.2.2.2.2.2.length x.2.2.2.2.2.2.1]
set_option maxHeartbeats 4000000 in
theorem indexFuncN_any (g : Nat) (cb : Array Value) (eg : ∀ args w, (callFunc g args).run Tryz.prog w = .ok (.enter g args) w) (ao : Option Addr) (cap : Nat) (zs : List LNode) (p : LNode → Bool) (w : World) (hl : zs.length ≤ 1048576) (hz : hNode.In w.heap.size w ao zs) (hC : ∀ x W, x ∈ zs → Below w.heap.size w W → Calls Tryz.prog g (#[nodeV x] ++ cb) W fun e w' => e = .returned (.bool (p x)) ∧ Below W.heap.size W w') :
    Calls Tryz.prog 155 #[.slice ao zs.length cap, .func (.func g) #[] cb] w fun e w' => e = .returned (.int .i64 (fidx p zs)) ∧ Below w.heap.size w w' := by
  have HC := hid hC
  clear hC
  go_enter Tryz.func155, Tryz.ntmps155
  go_wp2
  go_loopw [8] (fun i wr => ∃ k : Nat, i = .int .i64 (k : Int) ∧ k ≤ zs.length ∧ Hid (∀ j, j < k → p (el zs j) = false) ∧ Below w.heap.size w wr) (fun i _ => zs.length - (intOf i).toNat)
  case atStart => exact ⟨0, rfl, Nat.zero_le _, fun j hj => by omega, Below.refl _ _⟩
  case round =>
    obtain ⟨k, rfl, hk, hN, hB⟩ := hrel
    by_cases hlt : k < zs.length
    · obtain ⟨b, off, rfl, hb, hc⟩ := hNode_at hz hlt
      have d1 := (hB.cell (p := ⟨b, off + k * 6, none⟩) hb).trans (hc k hlt).1
      have d2 := (hB.cell (p := ⟨b, off + k * 6 + 1, none⟩) hb).trans (hc k hlt).2.1
      have d3 := (hB.cell (p := ⟨b, off + k * 6 + 2, none⟩) hb).trans (hc k hlt).2.2.1
      have d4 := (hB.cell (p := ⟨b, off + k * 6 + 3, none⟩) hb).trans (hc k hlt).2.2.2.1
      have d5 := (hB.cell (p := ⟨b, off + k * 6 + 4, none⟩) hb).trans (hc k hlt).2.2.2.2.1
      have d6 := (hB.cell (p := ⟨b, off + k * 6 + 5, none⟩) hb).trans (hc k hlt).2.2.2.2.2
      have hm := el_mem hlt
      have hcall := fun W hW => HC.out (el zs k) W hm hW
      have HE : Hid (∀ y, p (el zs k) = y → p (el zs k) = y) := fun _ h => h
      obtain ⟨y, hy⟩ : ∃ y, p (el zs k) = y := ⟨_, rfl⟩
      have HY := hid hy
      rw [hy] at hcall
      obtain ⟨⟨nm, kd, sa, sb, cp, ⟨nxo, nxc, nx⟩⟩, ex⟩ : ∃ v, v = el zs k := ⟨_, rfl⟩
      rw [← ex] at d1 d2 d3 d4 d5 d6 hcall
      clear ex hc hm hy HE
      dsimp only at d1 d2 d3 d4 d5 d6 hcall
      simp only [nodeV] at hcall
      cases y
      · go_wp2_with (go_at_fn g; refine (hcall _ hB).mono ?_; rintro e w1 ⟨rfl, hb1⟩; have hB1 : Below w.heap.size w w1 := hB.trans (hb1.mono hB.size); clear hb1)
        go_roundw
        case rel =>
          refine ⟨k + 1, by go_num, by omega, fun j hj => ?_, hB1⟩
          rcases Nat.lt_succ_iff_lt_or_eq.1 hj with h | rfl
          · exact hN.out j h
          · exact HY.out
        case measure => simp [intOf]; omega
      · go_wp2_with (go_at_fn g; refine (hcall _ hB).mono ?_; rintro e w1 ⟨rfl, hb1⟩; have hB1 : Below w.heap.size w w1 := hB.trans (hb1.mono hB.size); clear hb1)
        go_ret
        exact ⟨ret_int (fidx_hit hlt HY.out hN.out).symm, hB1⟩
    · obtain rfl : k = zs.length := by omega
      go_wp2
      go_ret
      exact ⟨ret_int (fidx_no hN.out).symm, hB⟩
set_option maxHeartbeats 1000000 in
theorem containsFuncN_any (g : Nat) (cb : Array Value) (eg : ∀ args w, (callFunc g args).run Tryz.prog w = .ok (.enter g args) w) (ao : Option Addr) (cap : Nat) (zs : List LNode) (p : LNode → Bool) (w : World) (hl : zs.length ≤ 1048576) (hz : hNode.In w.heap.size w ao zs) (hC : ∀ x W, x ∈ zs → Below w.heap.size w W → Calls Tryz.prog g (#[nodeV x] ++ cb) W fun e w' => e = .returned (.bool (p x)) ∧ Below W.heap.size W w') :
    Calls Tryz.prog 126 #[.slice ao zs.length cap, .func (.func g) #[] cb] w fun e w' => e = .returned (.bool (zs.any p)) ∧ Below w.heap.size w w' := by
  rw [← fidx_any]
  have hcon := indexFuncN_any g cb eg ao cap zs p w hl hz hC
  clear hC hz
  go_enter Tryz.func126, Tryz.ntmps126
  go_wp2_with (go_at_call 155; refine hcon.mono ?_; rintro e w1 ⟨rfl, hb1⟩)
  go_ret
  exact ⟨rfl, hb1⟩
end
end Go.Proofs.YtoeonbdoopboiaaGreatDoor
