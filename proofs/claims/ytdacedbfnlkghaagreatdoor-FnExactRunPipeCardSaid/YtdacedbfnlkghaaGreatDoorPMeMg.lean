
/- Meanings, plainly: sums, orders, what a node lets through. No conditions but those written. Meanings, plainly: what a value means, and how wide it may be. No conditions but those written. What is kept by moves: of each item what was emitted, what lives and what was lost weigh together what was offered. Plain. No conditions but those written. Meanings, plainly: node by node along an order. No conditions but those written. -/
import Derived.Test.YtdacedbfnlkghaaGreatDoorPYtSpb
import Derived.Test.YtdacedbfnlkghaaGreatDoorPThWp
import Derived.Test.YtdacedbfnlkghaaGreatDoorPSiSk
namespace Go.Proofs.YtdacedbfnlkghaaGreatDoor
section
open Go.RowKit

/-- A sum over a list. -/
def sumI {α : Type} (f : α → Int) : List α → Int
 | [] => 0
 | x :: r => f x + sumI f r
section
variable {α β : Type}
theorem sumI_app (f : α → Int) : ∀ l r : List α, sumI f (l ++ r) = sumI f l + sumI f r
 | [], r => by simp [sumI]
 | x :: l, r => by simp only [List.cons_append, sumI, sumI_app f l r]; omega
theorem sumI_one (f : α → Int) (x : α) : sumI f [x] = f x := by simp [sumI]
theorem sumI_congr {f g : α → Int} : ∀ {l : List α}, (∀ x ∈ l, f x = g x) → sumI f l = sumI g l
 | [], _ => rfl
 | x :: r, h => by simp only [sumI]; rw [h x (by simp), sumI_congr (l := r) fun y hy => h y (by simp [hy])]
theorem sumI_le {f g : α → Int} : ∀ {l : List α}, (∀ x ∈ l, f x ≤ g x) → sumI f l ≤ sumI g l
 | [], _ => Int.le_refl _
 | x :: r, h => by have h1 := h x (by simp); have h2 := sumI_le (l := r) fun y hy => h y (by simp [hy]); simp only [sumI]; omega
theorem sumI_neg (f : α → Int) : ∀ l : List α, sumI (fun x => - f x) l = - sumI f l
 | [] => rfl
 | x :: r => by simp only [sumI, sumI_neg f r]; omega
theorem sumI_add (f g : α → Int) : ∀ l : List α, sumI (fun x => f x + g x) l = sumI f l + sumI g l
 | [] => rfl
 | x :: r => by simp only [sumI, sumI_add f g r]; omega
theorem sumI_zero : ∀ l : List α, sumI (fun _ => 0) l = 0
 | [] => rfl
 | x :: r => by simp only [sumI, sumI_zero r]; omega
theorem sumI_map (f : β → Int) (g : α → β) : ∀ l : List α, sumI f (l.map g) = sumI (fun x => f (g x)) l
 | [] => rfl
 | x :: r => by simp only [List.map_cons, sumI, sumI_map f g r]
theorem sumI_flat (f : β → Int) (g : α → List β) : ∀ l : List α, sumI f (l.flatMap g) = sumI (fun x => sumI f (g x)) l
 | [] => rfl
 | x :: r => by simp only [List.flatMap_cons, sumI, sumI_app, sumI_flat f g r]
theorem sumI_swap (f : α → β → Int) : ∀ (l : List α) (r : List β), sumI (fun x => sumI (f x) r) l = sumI (fun y => sumI (fun x => f x y) l) r
 | [], r => by simp only [sumI]; rw [sumI_zero]
 | x :: l, r => by simp only [sumI]; rw [sumI_swap f l r, sumI_add]
theorem sumI_nn {f : α → Int} {l : List α} (h : ∀ x ∈ l, 0 ≤ f x) : 0 ≤ sumI f l := by
 have := sumI_le (f := fun _ => 0) (g := f) h;rw [sumI_zero] at this; exact this
theorem sumI_ge_len {f : α → Int} : ∀ {l : List α}, (∀ x ∈ l, 1 ≤ f x) → (l.length : Int) ≤ sumI f l
 | [], _ => by simp [sumI]
 | x :: r, h => by have h1 := h x (by simp); have h2 := sumI_ge_len (l := r) fun y hy => h y (by simp [hy]); simp only [sumI, List.length_cons]; omega
theorem sumI_le_len {f : α → Int} {c : Int} : ∀ {l : List α}, (∀ x ∈ l, f x ≤ c) → sumI f l ≤ c * (l.length : Int)
 | [], _ => by simp [sumI]
 | x :: r, h => by
  have h1 := h x (by simp); have h2 := sumI_le_len (c := c) (l := r) fun y hy => h y (by simp [hy])
  simp only [sumI, List.length_cons]; push_cast; rw [Int.mul_add, Int.mul_one]; omega
theorem sumI_mem {f : α → Int} : ∀ {l : List α} {x : α}, x ∈ l → (∀ y ∈ l, 0 ≤ f y) → f x ≤ sumI f l
 | y :: r, x, h, hn => by
  have h2 : 0 ≤ sumI f r := sumI_nn fun z hz => hn z (by simp [hz])
  have h0 := hn y (by simp);simp only [sumI]
  rcases List.mem_cons.1 h with rfl | h
  ·omega
  ·have := sumI_mem h fun z hz => hn z (by simp [hz]); omega
theorem sumI_count [BEq α] [LawfulBEq α] (a : α) : ∀ l : List α, (l.count a : Int) = sumI (fun x => if x == a then 1 else 0) l
 | [] => rfl
 | x :: r => by
  rw [List.count_cons, sumI, ← sumI_count a r]
  by_cases h : (x == a) = true
  ·simp [h]; omega
  ·simp [h]
theorem perm_of_sums [BEq α] [LawfulBEq α] {l r : List α} (h : ∀ f : α → Int, sumI f l = sumI f r) : l.Perm r := by
 rw [List.perm_iff_count];intro a;have := h fun x => if x == a then 1 else 0
 rw [← sumI_count, ← sumI_count] at this
 omega
end
/-- What a node lets through. -/
def outM (gs : List PNode) (k : Nat) (v : Int) : List Int :=
 if (appSt (el gs k).2.1 (el gs k).2.2.1 (el gs k).2.2.2.1 v).2 = true then [v] else (appSt (el gs k).2.1 (el gs k).2.2.1 (el gs k).2.2.2.1 v).1
/-- The nodes' stages are good. -/
def GoodSts (gs : List PNode) : Prop := ∀ k, k < gs.length → goodSt (el gs k).2.1 (el gs k).2.2.1 (el gs k).2.2.2.1 = true
theorem outM_len {gs : List PNode} {k : Nat} (h : goodSt (el gs k).2.1 (el gs k).2.2.1 (el gs k).2.2.2.1 = true) (v : Int) : ((outM gs k v).length : Int) ≤ factI (el gs k).2.1 (el gs k).2.2.1 (el gs k).2.2.2.1 := by
 unfold outM factI
 rw [if_pos h]
 generalize (el gs k).2.1 = kd at *
 generalize (el gs k).2.2.1 = a at *
 generalize (el gs k).2.2.2.1 = b at *
 rcases good_kind h with rfl | rfl | rfl | rfl
 ·simp [appSt]
 ·rw [appSt2]; simp; split <;> simp
 ·have := good3 h;rw [appSt3]; simp [expI_len]; omega
 ·rw [appSt4]; split <;> simp
theorem fact_pos {k a b : Int} (h : goodSt k a b = true) : 1 ≤ factI k a b := by
 unfold factI
 rw [if_pos h]
 split
 ·next e => subst e; exact (good3 h).1
 ·omega
theorem outM_val {gs : List PNode} {k : Nat} (h : goodSt (el gs k).2.1 (el gs k).2.2.1 (el gs k).2.2.2.1 = true) {v : Int} (hv : valB v = true) : ∀ x ∈ outM gs k v, valB x = true := by
 intro x hx
 unfold outM at hx
 split at hx
 ·simp at hx; subst hx; exact hv
 ·exact appSt_val h hv x hx
/-- What comes of a value that comes out of a node. -/
def thenW (gs : List PNode) (φ : Nat → Int → Int) (ψ : Int × Int → Int) (k : Nat) (x : Int) : Int :=
 if (nxP gs k).length = 0 then ψ ((k : Int), x) else sumI (fun y => φ y.toNat x) (nxP gs k)
/-- A weight that does not grow along the graph. -/
def Falls (gs : List PNode) (φ : Nat → Int → Int) (ψ : Int × Int → Int) : Prop := ∀ k v, k < gs.length → sumI (thenW gs φ ψ k) (outM gs k v) ≤ φ k v
/-- An order of the nodes: each once, and none leads to one ahead of it. -/
structure Ordd (gs : List PNode) (R : List Int) : Prop where
 perm : R.Perm (numsI gs.length)
 fwd : R.Pairwise fun a b => a ∉ nxP gs b.toNat
 self : ∀ a ∈ R, a ∉ nxP gs a.toNat
theorem behindP_ord (gs : List PNode) : ∀ (n : Nat) (o l : List Int), (o.Pairwise fun a b => a ∉ nxP gs b.toNat) → (∀ a ∈ o, a ∉ nxP gs a.toNat) → (∀ a ∈ o, ∀ b ∈ l, a ∉ nxP gs b.toNat) →
  ((behindP gs n o l).1.Pairwise fun a b => a ∉ nxP gs b.toNat) ∧ ∀ a ∈ (behindP gs n o l).1, a ∉ nxP gs a.toNat
 | 0, o, l, h1, h2, _ => ⟨h1, h2⟩
 | n + 1, o, l, h1, h2, h3 => by
  rw [behindP]
  cases hp : l.findIdx? (fun b => !ledP gs l b) with
  | none => exact ⟨h1, h2⟩
  | some k =>
   rw [List.findIdx?_eq_some_iff_getElem] at hp;obtain ⟨hk, hb, _⟩ := hp;have hel : el l k = l[k] := el_at hk;have hno : ∀ b ∈ l, el l k ∉ nxP gs b.toNat := fun b hb' hm => by
    rw [← hel] at hb;simp only [ledP, Bool.not_eq_true', List.any_eq_false] at hb;have := hb b hb';simp only [leadsP, hasB, decide_eq_true_eq] at this;exact this hm
   have hkm : el l k ∈ l := el_mem hk;refine behindP_ord gs n _ _ ?_ ?_ ?_
   ·rw [List.pairwise_append];exact ⟨h1, by simp, fun _ ha b hb' => by simp at hb'; subst hb'; exact h3 _ ha _ hkm⟩
   ·intro a ha
    rcases List.mem_append.1 ha with ha | ha
    ·exact h2 a ha
    ·simp at ha; subst ha; exact hno _ hkm
   ·intro a ha b hb';have hb'' := cut_mem hb'
    rcases List.mem_append.1 ha with ha | ha
    ·exact h3 a ha b hb''
    ·simp at ha; subst ha; exact hno b hb''
theorem orderP_ordd {gs : List PNode} (h : ¬ (orderP gs).length < gs.length) : Ordd gs (orderP gs) := by
 have hp := behindP_perm gs gs.length [] (numsI gs.length);have hf := behindP_facts gs gs.length [] (numsI gs.length) (by rw [numsI_len]; exact Nat.le_refl _);have ho := behindP_ord gs gs.length [] (numsI gs.length) (by simp) (by simp) (by simp);have h2 : (behindP gs gs.length [] (numsI gs.length)).2 = [] := by
  have h1 := hf.1;rw [numsI_len] at h1
  unfold orderP at h
  exact List.length_eq_zero_iff.1 (by simp at h1; omega)
 rw [h2, List.append_nil, List.nil_append] at hp;exact ⟨hp, ho.1, ho.2⟩
section
variable {gs : List PNode} {R : List Int}
theorem Ordd.nodup (h : Ordd gs R) : R.Nodup := h.perm.nodup_iff.2 (inc_nodup (numsI_inc _))
theorem Ordd.rng (h : Ordd gs R) : ∀ a ∈ R, ∃ j : Nat, j < gs.length ∧ a = (j : Int) := fun _ ha => numsI_mem (h.perm.subset ha)
theorem Ordd.has (h : Ordd gs R) {k : Nat} (hk : k < gs.length) : (k : Int) ∈ R := h.perm.symm.subset (numsI_has hk)
theorem Ordd.len (h : Ordd gs R) : R.length = gs.length := by rw [h.perm.length_eq, numsI_len]
/-- What a node leads to lies behind it. -/
theorem Ordd.next (h : Ordd gs R) (hE : EdgesIn gs) {t k : Nat} (ht : t < R.length) (ek : el R t = (k : Int)) : ∀ y ∈ nxP gs k, y ∈ R.drop (t + 1) := by
 intro y hy;have hkm : (k : Int) ∈ R := by rw [← ek]; exact el_mem ht
 obtain ⟨k', hk', e⟩ := h.rng _ hkm;obtain rfl : k = k' := by omega
 obtain ⟨j, hj, rfl⟩ := hE.rng k hk' y hy;have hm := h.has hj;have hs : R = R.take t ++ el R t :: R.drop (t + 1) := by rw [el_at ht, List.getElem_cons_drop, List.take_append_drop]
 have hf := h.fwd;rw [hs, ek] at hm hf
 rcases List.mem_append.1 hm with hm | hm
 ·exfalso
  rw [List.pairwise_append] at hf;exact hf.2.2 _ hm (k : Int) (by simp) (by simpa using hy)
 ·rcases List.mem_cons.1 hm with hm | hm
  ·exfalso
   have := h.self _ hkm;simp only [Int.toNat_natCast] at this;rw [hm] at hy;exact this hy
  ·exact hm
end
end
section
open Go.RowKit

/-- What a value at a node means, by so many steps. -/
def meanN (gs : List PNode) : Nat → Nat → Int → List (Int × Int)
 | 0, _, _ => []
 | n + 1, k, v => (outM gs k v).flatMap fun x => if (nxP gs k).length = 0 then [((k : Int), x)] else (nxP gs k).flatMap fun y => meanN gs n y.toNat x
/-- What a value at a node means. -/
def meanG (gs : List PNode) (k : Nat) (v : Int) : List (Int × Int) := meanN gs gs.length k v
/-- How many stand at or behind it. -/
def rk (R : List Int) (k : Nat) : Nat := R.length - R.idxOf (k : Int)
section
variable {gs : List PNode} {R : List Int}
theorem Ordd.at (h : Ordd gs R) {k : Nat} (hk : k < gs.length) : R.idxOf (k : Int) < R.length ∧ el R (R.idxOf (k : Int)) = (k : Int) := by
 have hl : R.idxOf (k : Int) < R.length := List.idxOf_lt_length_of_mem (h.has hk);exact ⟨hl, by rw [el_at hl]; exact List.getElem_idxOf hl⟩
theorem idx_drop {l : List Int} (hn : l.Nodup) {t : Nat} {y : Int} (hy : y ∈ l.drop (t + 1)) : t < l.idxOf y := by
 obtain ⟨j, hj, e⟩ := List.getElem_of_mem hy;rw [List.length_drop] at hj;rw [List.getElem_drop] at e;have hlt : t + 1 + j < l.length := by omega
 have hm : y ∈ l := by rw [← e]; exact List.getElem_mem hlt
 have hi := List.idxOf_lt_length_of_mem hm;have e2 : l[l.idxOf y]'hi = l[t + 1 + j]'hlt := by rw [List.getElem_idxOf hi, e]
 rcases Nat.lt_or_ge t (l.idxOf y) with h | h
 ·exact h
 ·exact absurd e2 (List.pairwise_iff_getElem.1 hn _ _ hi hlt (by omega))
theorem Ordd.rk_next (h : Ordd gs R) (hE : EdgesIn gs) {k : Nat} (hk : k < gs.length) : ∀ y ∈ nxP gs k, ∃ j : Nat, j < gs.length ∧ y = (j : Int) ∧ rk R j < rk R k := by
 intro y hy;obtain ⟨j, hj, rfl⟩ := hE.rng k hk y hy;refine ⟨j, hj, rfl, ?_⟩;have ha := h.at hk;have hn := idx_drop h.nodup (h.next hE ha.1 ha.2 _ hy);have hb := h.at hj
 unfold rk
 omega
theorem Ordd.rk_le (h : Ordd gs R) (k : Nat) : rk R k ≤ gs.length := by have := h.len; unfold rk; omega
theorem Ordd.rk_pos (h : Ordd gs R) {k : Nat} (hk : k < gs.length) : 1 ≤ rk R k := by have := (h.at hk).1; unfold rk; omega
theorem flatMap_congr' {α β : Type} {f g : α → List β} : ∀ {l : List α}, (∀ x ∈ l, f x = g x) → l.flatMap f = l.flatMap g
 | [], _ => rfl
 | x :: r, h => by rw [List.flatMap_cons, List.flatMap_cons, h x (by simp), flatMap_congr' (l := r) fun y hy => h y (by simp [hy])]
theorem meanN_same (h : Ordd gs R) (hE : EdgesIn gs) : ∀ (n m k : Nat) (v : Int), k < gs.length → rk R k ≤ n → rk R k ≤ m → meanN gs n k v = meanN gs m k v
 | 0, _, k, _, hk, hn, _ => by have := h.rk_pos hk; omega
 | _ + 1, 0, k, _, hk, _, hm => by have := h.rk_pos hk; omega
 | n + 1, m + 1, k, v, hk, hn, hm => by
  rw [meanN, meanN];refine flatMap_congr' fun x _ => ?_
  split
  ·rfl
  ·refine flatMap_congr' fun y hy => ?_
   obtain ⟨j, hj, rfl, hr⟩ := h.rk_next hE hk y hy;rw [Int.toNat_natCast];exact meanN_same h hE n m j x hj (by omega) (by omega)
theorem meanG_eq (h : Ordd gs R) (hE : EdgesIn gs) {k : Nat} (hk : k < gs.length) (v : Int) :
  meanG gs k v = (outM gs k v).flatMap fun x => if (nxP gs k).length = 0 then [((k : Int), x)] else (nxP gs k).flatMap fun y => meanG gs y.toNat x := by
 obtain ⟨n, hn⟩ : ∃ n, gs.length = n + 1 := ⟨gs.length - 1, by omega⟩;have h1 : meanG gs k v = meanN gs (n + 1) k v := by rw [meanG, hn]
 rw [h1, meanN];refine flatMap_congr' fun x _ => ?_
 split
 ·rfl
 ·refine flatMap_congr' fun y hy => ?_
  obtain ⟨j, hj, rfl, hr⟩ := h.rk_next hE hk y hy;have := h.rk_le k;rw [Int.toNat_natCast, meanG];exact meanN_same h hE n gs.length j x hj (by omega) (h.rk_le j)
/-- A weight of what is emitted, as a weight of values at nodes. -/
theorem mean_weight (h : Ordd gs R) (hE : EdgesIn gs) (ψ : Int × Int → Int) {k : Nat} (hk : k < gs.length) (v : Int) :
  sumI ψ (meanG gs k v) = sumI (thenW gs (fun j x => sumI ψ (meanG gs j x)) ψ k) (outM gs k v) := by
 rw [meanG_eq h hE hk, sumI_flat];refine sumI_congr fun x _ => ?_
 unfold thenW
 split
 ·exact sumI_one _ _
 ·rw [sumI_flat]
/-- How wide a node may be. -/
def wdP (gs : List PNode) (R : List Int) (k : Nat) : Int := el (wdAt gs R.reverse R.length) k
theorem sumW_sumI (wd : List Int) : ∀ nx : List Int, sumW wd nx = sumI (fun y => el wd y.toNat) nx
 | [] => rfl
 | x :: r => by
  have := sumW_sumI wd r;simp only [sumW, List.map_cons, List.sum_cons, sumI] at this ⊢;rw [this]
theorem Ordd.nx_take (h : Ordd gs R) (hE : EdgesIn gs) {t k : Nat} (ht : t < R.reverse.length) (ek : el R.reverse t = (k : Int)) : ∀ y ∈ nxP gs k, y ∈ R.reverse.take t := by
 intro y hy;have htl : t < R.length := by rw [List.length_reverse] at ht; exact ht
 rw [el_reverse htl] at ek;have := h.next hE (t := R.length - 1 - t) (by omega) ek y hy;rw [List.take_reverse, List.mem_reverse, show R.length - t = R.length - 1 - t + 1 by omega];exact this
theorem wNew_congr {wd wd' : List Int} {k : Nat} (h : ∀ y ∈ nxP gs k, el wd y.toNat = el wd' y.toNat) : wNew gs wd k = wNew gs wd' k := by
 unfold wNew
 rw [sumW_sumI, sumW_sumI, sumI_congr h]
theorem wd_done (h : Ordd gs R) (hE : EdgesIn gs) : ∀ t, t ≤ R.reverse.length → ∀ k : Nat, k < gs.length → (k : Int) ∈ R.reverse.take t → el (wdAt gs R.reverse t) k = wNew gs (wdAt gs R.reverse t) k
 | 0, _, k, _, hm => by simp at hm
 | t + 1, ht, k, hk, hm => by
  have hlt : t < R.reverse.length := by omega
  obtain ⟨j, hj, ej⟩ : ∃ j : Nat, j < gs.length ∧ el R.reverse t = (j : Int) := h.rng _ (List.mem_reverse.1 (el_mem hlt));have hnd : R.reverse.Nodup := by
   have := h.nodup;rw [List.Nodup, List.pairwise_reverse]; exact List.Pairwise.imp Ne.symm this
  have hout := nodup_take hlt hnd;rw [ej] at hout;have hset : ∀ x : Nat, el (wdAt gs R.reverse (t + 1)) x = if x = j then wNew gs (wdAt gs R.reverse t) j else el (wdAt gs R.reverse t) x := fun x => by
   rw [wdAt, ej, Int.toNat_natCast, el_setI (by rw [wdAt_len]; exact hj)]
  have hsame : ∀ i : Nat, i < gs.length → (∀ y ∈ nxP gs i, y ∈ R.reverse.take t) → wNew gs (wdAt gs R.reverse (t + 1)) i = wNew gs (wdAt gs R.reverse t) i := fun i hi hn => by
   refine wNew_congr fun y hy => ?_
   obtain ⟨b, hb, rfl⟩ := hE.rng i hi y hy;rw [Int.toNat_natCast, hset, if_neg];intro e;subst e;exact hout (hn _ hy)
  have hcl := h.nx_take hE hlt ej;rw [take_succ_el hlt, ej] at hm
  by_cases e : k = j
  ·subst e;rw [hset, if_pos rfl, hsame k hk hcl]
  ·have hm2 : (k : Int) ∈ R.reverse.take t := by
    rcases List.mem_append.1 hm with hm | hm
    ·exact hm
    ·rw [List.mem_singleton] at hm; omega
   have ih := wd_done h hE t (by omega) k hk hm2;rw [hset, if_neg e, ih, hsame k hk];intro y hy;obtain ⟨i, hi, ei⟩ := mem_el hm2;rw [List.length_take] at hi;have hit : i < t := by omega
   have eit : el R.reverse i = (k : Int) := by rw [← ei]; exact (el_take hit).symm
   have := h.nx_take hE (t := i) (by omega) eit y hy;have hsub : R.reverse.take i = (R.reverse.take t).take i := by rw [List.take_take, Nat.min_eq_left (by omega)]
   rw [hsub] at this;exact List.mem_of_mem_take this
theorem wdP_eq (h : Ordd gs R) (hE : EdgesIn gs) {k : Nat} (hk : k < gs.length) : wdP gs R k = factI (el gs k).2.1 (el gs k).2.2.1 (el gs k).2.2.2.1 * (if (nxP gs k).length = 0 then 1 else sumI (fun y => wdP gs R y.toNat) (nxP gs k)) := by
 have hl : R.reverse.length = R.length := List.length_reverse;have := wd_done h hE R.reverse.length (Nat.le_refl _) k hk (by rw [List.take_length, List.mem_reverse]; exact h.has hk);rw [hl] at this;rw [wdP, this, wNew, sumW_sumI]; rfl
theorem wdP_pos (h : Ordd gs R) (hE : EdgesIn gs) (hS : GoodSts gs) : ∀ (n k : Nat), k < gs.length → rk R k ≤ n → 1 ≤ wdP gs R k
 | 0, k, hk, hn => by have := h.rk_pos hk; omega
 | n + 1, k, hk, hn => by
  have hf := fact_pos (hS k hk);rw [wdP_eq h hE hk];have hz : 1 ≤ (if (nxP gs k).length = 0 then 1 else sumI (fun y => wdP gs R y.toNat) (nxP gs k)) := by
   split
   ·omega
   ·next hne =>
    have hge := sumI_ge_len (f := fun y : Int => wdP gs R y.toNat) (l := nxP gs k) fun y hy => by
     obtain ⟨j, hj, rfl, hr⟩ := h.rk_next hE hk y hy;rw [Int.toNat_natCast];exact wdP_pos h hE hS n j hj (by omega)
    omega
  have := Int.mul_le_mul_of_nonneg_left hz (show 0 ≤ factI (el gs k).2.1 (el gs k).2.2.1 (el gs k).2.2.2.1 by omega)
  omega
theorem wdP_one (h : Ordd gs R) (hE : EdgesIn gs) (hS : GoodSts gs) {k : Nat} (hk : k < gs.length) : 1 ≤ wdP gs R k := wdP_pos h hE hS _ k hk (Nat.le_refl _)
/-- The widths do not grow along the graph. -/
theorem wdP_falls (h : Ordd gs R) (hE : EdgesIn gs) (hS : GoodSts gs) : Falls gs (fun k _ => wdP gs R k) fun _ => 1 := by
 intro k v hk;have hle := outM_len (hS k hk) v;have hc : ∀ x, thenW gs (fun k _ => wdP gs R k) (fun _ => 1) k x = (if (nxP gs k).length = 0 then 1 else sumI (fun y => wdP gs R y.toNat) (nxP gs k)) := fun x => by unfold thenW; split <;> rfl
 have hz : 0 ≤ (if (nxP gs k).length = 0 then 1 else sumI (fun y => wdP gs R y.toNat) (nxP gs k)) := by
  split
  ·omega
  ·refine sumI_nn fun y hy => ?_
   obtain ⟨j, hj, rfl, _⟩ := h.rk_next hE hk y hy;have := wdP_one h hE hS hj;rw [Int.toNat_natCast]; omega
 show _ ≤ wdP gs R k
 rw [sumI_congr (fun x _ => hc x), wdP_eq h hE hk];refine Int.le_trans (sumI_le_len (c := (if (nxP gs k).length = 0 then 1 else sumI (fun y => wdP gs R y.toNat) (nxP gs k))) fun _ _ => Int.le_refl _) ?_;rw [Int.mul_comm];exact Int.mul_le_mul_of_nonneg_right hle hz
theorem maxL_ge : ∀ {l : List Int} {k : Nat}, k < l.length → el l k ≤ maxL l
 | [], _, h => by simp at h
 | x :: r, 0, _ => by rw [el_zero, maxL]; omega
 | x :: r, k + 1, h => by
  have := maxL_ge (l := r) (k := k) (by simpa using h);rw [el_cons, maxL]; omega
end
theorem wdP_le {gs : List PNode} {k : Nat} (hk : k < gs.length) : wdP gs (orderP gs) k ≤ widP gs := maxL_ge (by rw [wdAt_len]; exact hk)
/-- A value means no more than its node is wide. -/
theorem mean_len {gs : List PNode} {R : List Int} (h : Ordd gs R) (hE : EdgesIn gs) (hS : GoodSts gs) : ∀ (n k : Nat) (v : Int), k < gs.length → rk R k ≤ n → ((meanG gs k v).length : Int) ≤ wdP gs R k
 | 0, k, _, hk, hn => by have := h.rk_pos hk; omega
 | n + 1, k, v, hk, hn => by
  have hf := wdP_falls h hE hS k v hk;refine Int.le_trans ?_ hf;have e : ((meanG gs k v).length : Int) = sumI (fun _ => 1) (meanG gs k v) := by
   have : ∀ l : List (Int × Int), (l.length : Int) = sumI (fun _ => 1) l := fun l => by
    induction l with
    | nil => rfl
    | cons x r ih => simp only [List.length_cons, sumI]; omega
   exact this _
  rw [e, mean_weight h hE _ hk];refine sumI_le fun x _ => ?_
  unfold thenW
  split
  ·exact Int.le_refl _
  ·refine sumI_le fun y hy => ?_
   obtain ⟨j, hj, rfl, hr⟩ := h.rk_next hE hk y hy;rw [Int.toNat_natCast];have ih := mean_len h hE hS n j x hj (by omega);have e2 : sumI (fun _ : Int × Int => 1) (meanG gs j x) = ((meanG gs j x).length : Int) := by
    have : ∀ l : List (Int × Int), sumI (fun _ => 1) l = (l.length : Int) := fun l => by
     induction l with
     | nil => rfl
     | cons x r ih => simp only [List.length_cons, sumI]; omega
    exact this _
   show sumI (fun _ : Int × Int => 1) (meanG gs j x) ≤ wdP gs R j
   rw [e2]; exact ih
end
section
open Go.RowKit

section
variable {φ : Nat → Int → Int} {ψ : Int × Int → Int} {i : Int}
theorem sum_at {f g : Nat → Int} {k : Nat} (h : ∀ j, j ≠ k → f j = g j) : ∀ n, sumI f (List.range n) = sumI g (List.range n) + (if k < n then f k - g k else 0)
 | 0 => by simp [sumI]
 | n + 1 => by
  rw [List.range_succ, sumI_app, sumI_app, sumI_one, sumI_one, sum_at h n]
  by_cases e : n = k
  ·subst e;rw [if_neg (by omega), if_pos (by omega)]; omega
  ·rw [h n e]
   by_cases hk : k < n
   ·rw [if_pos hk, if_pos (by omega)]; omega
   ·rw [if_neg hk, if_neg (by omega)]; omega
end
theorem outM_of {gs : List PNode} {k : Nat} {v : Int} (hg : goodSt (el gs k).2.1 (el gs k).2.2.1 (el gs k).2.2.2.1 = true) (hv : valB v = true) (hf : ¬ (stApp gs k v).2.1 = true) : outM gs k v = (stApp gs k v).1 := by
 rw [stApp, appR_yes hg hv] at hf ⊢
 unfold outM
 rw [if_neg hf]
end
section
open Go.RowKit

theorem el_setG {α : Type} [Inhabited α] {L : List α} {k x : Nat} {v : α} (hk : k < L.length) : el (L.set k v) x = if x = k then v else el L x := by
 unfold el
 rw [List.getElem?_set]
 by_cases h : k = x
 ·subst h; simp [hk]
 ·rw [if_neg h, if_neg (fun e => h e.symm)]
/-- What comes out goes into each of these. -/
def intoAll (out : List Int) : List Int → List (List Int) → List (List Int)
 | [], I => I
 | y :: r, I => intoAll out r (I.set y.toNat (el I y.toNat ++ out))
theorem intoAll_len (out : List Int) : ∀ (nx : List Int) (I : List (List Int)), (intoAll out nx I).length = I.length
 | [], _ => rfl
 | y :: r, I => by rw [intoAll, intoAll_len out r]; simp
theorem intoAll_app (out : List Int) : ∀ (l r : List Int) (I : List (List Int)), intoAll out (l ++ r) I = intoAll out r (intoAll out l I)
 | [], _, _ => rfl
 | y :: l, r, I => by rw [List.cons_append, intoAll, intoAll_app out l r]; rfl
theorem intoAll_succ (out : List Int) {nx : List Int} {m : Nat} (hm : m < nx.length) (I : List (List Int)) : intoAll out (nx.take (m + 1)) I = (intoAll out (nx.take m) I).set (el nx m).toNat (el (intoAll out (nx.take m) I) (el nx m).toNat ++ out) := by
 rw [take_succ_el hm, intoAll_app]; rfl
/-- The numbers are places in a row of rows. -/
def Places (n : Nat) (nx : List Int) : Prop := ∀ y ∈ nx, ∃ j : Nat, j < n ∧ y = (j : Int)
theorem intoAll_other (out : List Int) : ∀ (nx : List Int) (I : List (List Int)) (k : Nat), Places I.length nx → (k : Int) ∉ nx → el (intoAll out nx I) k = el I k
 | [], _, _, _, _ => rfl
 | y :: r, I, k, hp, hk => by
  obtain ⟨j, hj, rfl⟩ := hp y (by simp);have hne : k ≠ j := fun e => hk (by simp [e])
  rw [intoAll, Int.toNat_natCast, intoAll_other out r _ k (fun z hz => by rw [List.length_set]; exact hp z (by simp [hz])) (fun h => hk (by simp [h])), el_setG hj, if_neg hne]
theorem intoAll_grows (out : List Int) : ∀ (nx : List Int) (I : List (List Int)) (k : Nat), Places I.length nx → (el I k).length ≤ (el (intoAll out nx I) k).length
 | [], _, _, _ => Nat.le_refl _
 | y :: r, I, k, hp => by
  obtain ⟨j, hj, rfl⟩ := hp y (by simp);rw [intoAll, Int.toNat_natCast];refine Nat.le_trans ?_ (intoAll_grows out r _ k (fun z hz => by rw [List.length_set]; exact hp z (by simp [hz])));rw [el_setG hj]
  split
  ·next e => subst e; simp
  ·exact Nat.le_refl _
/-- A state: what has come into each node, and what was emitted. -/
abbrev ES := List (List Int) × List (Int × Int)
/-- One value passes a node. -/
def stepV (gs : List PNode) (k : Nat) (s : ES) (v : Int) : ES :=
 (intoAll (outM gs k v) (nxP gs k) s.1, if (nxP gs k).length = 0 then s.2 ++ (outM gs k v).map fun x => ((k : Int), x) else s.2)
/-- All that came into a node passes it. -/
def stepN (gs : List PNode) (s : ES) (k : Nat) : ES := (el s.1 k).foldl (stepV gs k) s
def emitAt (gs : List PNode) (rest : List Int) (s : ES) : ES := rest.foldl (fun s a => stepN gs s a.toNat) s
def emit0 (n k : Nat) (v : Int) : ES := ((List.replicate n []).set k [v], [])
/-- What is emitted in all, node by node. -/
def emitP (gs : List PNode) (k : Nat) (v : Int) : List (Int × Int) := (emitAt gs (orderP gs) (emit0 gs.length k v)).2
theorem stepV_len (gs : List PNode) (k : Nat) (s : ES) (v : Int) : (stepV gs k s v).1.length = s.1.length := intoAll_len _ _ _
theorem fold_len (gs : List PNode) (k : Nat) : ∀ (vs : List Int) (s : ES), (vs.foldl (stepV gs k) s).1.length = s.1.length
 | [], _ => rfl
 | v :: r, s => by rw [List.foldl_cons, fold_len gs k r, stepV_len]
theorem stepN_len (gs : List PNode) (s : ES) (k : Nat) : (stepN gs s k).1.length = s.1.length := fold_len gs k _ _
theorem emitAt_len (gs : List PNode) : ∀ (rest : List Int) (s : ES), (emitAt gs rest s).1.length = s.1.length
 | [], _ => rfl
 | a :: r, s => by
  have := emitAt_len gs r (stepN gs s a.toNat);rw [stepN_len] at this;exact this
theorem emitAt_cons (gs : List PNode) (a : Int) (r : List Int) (s : ES) : emitAt gs (a :: r) s = emitAt gs r (stepN gs s a.toNat) := rfl
theorem emitAt_app (gs : List PNode) (l r : List Int) (s : ES) : emitAt gs (l ++ r) s = emitAt gs r (emitAt gs l s) := by rw [emitAt, List.foldl_append]; rfl
/-- The weight of what is still to pass. -/
def wRows (φ : Nat → Int → Int) (I : List (List Int)) (rest : List Int) : Int := sumI (fun a => sumI (φ a.toNat) (el I a.toNat)) rest
theorem wRows_off (φ : Nat → Int → Int) {I : List (List Int)} {j : Nat} {l : List Int} (hj : j < I.length) {rest : List Int} (hp : Places I.length rest) (hn : (j : Int) ∉ rest) : wRows φ (I.set j l) rest = wRows φ I rest := by
 refine sumI_congr fun a ha => ?_
 obtain ⟨i, hi, rfl⟩ := hp a ha;have hne : i ≠ j := fun e => hn (by rw [← e]; exact ha)
 rw [Int.toNat_natCast, el_setG hj, if_neg hne]
theorem wRows_set (φ : Nat → Int → Int) {I : List (List Int)} {j : Nat} (out : List Int) (hj : j < I.length) : ∀ {rest : List Int}, rest.Nodup → Places I.length rest → (j : Int) ∈ rest → wRows φ (I.set j (el I j ++ out)) rest = wRows φ I rest + sumI (φ j) out
 | a :: r, hn, hp, hm => by
  rw [List.nodup_cons] at hn;obtain ⟨i, hi, rfl⟩ := hp a (by simp);have hpr : Places I.length r := fun y hy => hp y (by simp [hy])
  by_cases e : i = j
  ·subst e;have h1 := wRows_off φ (l := el I i ++ out) hi hpr hn.1
   unfold wRows at h1 ⊢
   simp only [sumI];rw [h1, Int.toNat_natCast, el_setG hi, if_pos rfl, sumI_app]
   omega
  ·have hm2 : (j : Int) ∈ r := by
    rcases List.mem_cons.1 hm with h | h
    ·omega
    ·exact h
   have ih := wRows_set φ out hj hn.2 hpr hm2
   unfold wRows at ih ⊢
   simp only [sumI];rw [ih, Int.toNat_natCast, el_setG hj, if_neg e]
   omega
theorem wRows_into (φ : Nat → Int → Int) (out : List Int) {rest : List Int} (hn : rest.Nodup) : ∀ (nx : List Int) (I : List (List Int)), Places I.length rest → (∀ y ∈ nx, y ∈ rest) → wRows φ (intoAll out nx I) rest = wRows φ I rest + sumI (fun y => sumI (φ y.toNat) out) nx
 | [], I, _, _ => by simp [intoAll, sumI]
 | y :: r, I, hp, hs => by
  obtain ⟨j, hj, rfl⟩ := hp y (hs y (by simp));have ih := wRows_into φ out hn r (I.set j (el I j ++ out)) (fun z hz => by rw [List.length_set]; exact hp z hz) fun z hz => hs z (by simp [hz])
  rw [intoAll, Int.toNat_natCast, ih, wRows_set φ out hj hn hp (hs _ (by simp))];simp only [sumI, Int.toNat_natCast]
  omega
section
variable {gs : List PNode} {R : List Int} {φ : Nat → Int → Int} {ψ : Int × Int → Int}
theorem stepV_w (hF : Falls gs φ ψ) {k : Nat} (hk : k < gs.length) {rest : List Int} (hn : rest.Nodup) (s : ES) (v : Int) (hp : Places s.1.length rest) (hx : ∀ y ∈ nxP gs k, y ∈ rest) :
  sumI ψ (stepV gs k s v).2 + wRows φ (stepV gs k s v).1 rest ≤ sumI ψ s.2 + φ k v + wRows φ s.1 rest := by
 have h := hF k v hk
 unfold stepV
 dsimp only;rw [wRows_into φ _ hn _ _ hp hx]
 by_cases h0 : (nxP gs k).length = 0
 ·have e : nxP gs k = [] := List.length_eq_zero_iff.1 h0;have e2 : sumI ψ ((outM gs k v).map fun x => ((k : Int), x)) = sumI (fun x => ψ ((k : Int), x)) (outM gs k v) := sumI_map _ _ _;have hc : sumI (thenW gs φ ψ k) (outM gs k v) = sumI (fun x => ψ ((k : Int), x)) (outM gs k v) := sumI_congr fun x _ => by rw [thenW, if_pos h0]
  have e3 : sumI (fun y : Int => sumI (φ y.toNat) (outM gs k v)) [] = 0 := rfl;rw [if_pos h0, sumI_app, e2, e, e3]
  omega
 ·rw [if_neg h0];have hc : sumI (thenW gs φ ψ k) (outM gs k v) = sumI (fun x => sumI (fun y : Int => φ y.toNat x) (nxP gs k)) (outM gs k v) := sumI_congr fun x _ => by rw [thenW, if_neg h0]
  have hs : sumI (fun y : Int => sumI (φ y.toNat) (outM gs k v)) (nxP gs k) = sumI (fun x => sumI (fun y : Int => φ y.toNat x) (nxP gs k)) (outM gs k v) := sumI_swap (fun (y : Int) (x : Int) => φ y.toNat x) _ _
  omega
theorem fold_w (hF : Falls gs φ ψ) {k : Nat} (hk : k < gs.length) {rest : List Int} (hn : rest.Nodup) (hx : ∀ y ∈ nxP gs k, y ∈ rest) : ∀ (vs : List Int) (s : ES), Places s.1.length rest →
  sumI ψ (vs.foldl (stepV gs k) s).2 + wRows φ (vs.foldl (stepV gs k) s).1 rest ≤ sumI ψ s.2 + sumI (φ k) vs + wRows φ s.1 rest
 | [], s, _ => by simp only [List.foldl_nil, sumI]; omega
 | v :: r, s, hp => by
  have h1 := stepV_w hF hk hn s v hp hx;have h2 := fold_w hF hk hn hx r (stepV gs k s v) (by rw [stepV_len]; exact hp);rw [List.foldl_cons];simp only [sumI]
  omega
theorem Ordd.places (h : Ordd gs R) {t : Nat} : Places gs.length (R.drop t) := fun y hy => h.rng y (List.mem_of_mem_drop hy)
theorem Ordd.drop_nodup (h : Ordd gs R) (t : Nat) : (R.drop t).Nodup := (List.drop_sublist t R).nodup h.nodup
/-- Node by node the weight does not grow. -/
theorem part_w (h : Ordd gs R) (hE : EdgesIn gs) (hF : Falls gs φ ψ) (s : ES) (hl : s.1.length = gs.length) : ∀ t, t ≤ R.length →
  sumI ψ (emitAt gs (R.take t) s).2 + wRows φ (emitAt gs (R.take t) s).1 (R.drop t) ≤ sumI ψ s.2 + wRows φ s.1 R
 | 0, _ => by rw [List.take_zero, List.drop_zero]; exact Int.le_refl _
 | t + 1, ht => by
  have hlt : t < R.length := by omega
  have ih := part_w h hE hF s hl t (by omega);obtain ⟨k, hk, ek⟩ := h.rng _ (el_mem hlt);have hd : R.drop t = (k : Int) :: R.drop (t + 1) := by rw [← ek, el_at hlt, List.getElem_cons_drop]
  rw [take_succ_el hlt, ek, emitAt_app, emitAt_cons, Int.toNat_natCast];have hlen : (emitAt gs (R.take t) s).1.length = gs.length := by rw [emitAt_len, hl]
  have hf := fold_w hF hk (h.drop_nodup (t + 1)) (h.next hE hlt ek) (el (emitAt gs (R.take t) s).1 k) (emitAt gs (R.take t) s) (by rw [hlen]; exact h.places);rw [hd] at ih;have e : wRows φ (emitAt gs (R.take t) s).1 ((k : Int) :: R.drop (t + 1)) = sumI (φ k) (el (emitAt gs (R.take t) s).1 k) + wRows φ (emitAt gs (R.take t) s).1 (R.drop (t + 1)) := by
   unfold wRows; simp only [sumI, Int.toNat_natCast]
  rw [e] at ih
  show sumI ψ (stepN gs (emitAt gs (R.take t) s) k).2 + wRows φ (stepN gs (emitAt gs (R.take t) s) k).1 (R.drop (t + 1)) ≤ _
  unfold stepN
  omega
theorem start_w (h : Ordd gs R) {k : Nat} (hk : k < gs.length) (v : Int) : wRows φ (emit0 gs.length k v).1 R = φ k v := by
 have hlr : (List.replicate gs.length ([] : List Int)).length = gs.length := List.length_replicate;have hz : wRows φ (List.replicate gs.length []) R = 0 := by
  have : wRows φ (List.replicate gs.length []) R = sumI (fun _ => 0) R := sumI_congr fun a ha => by
   obtain ⟨j, hj, rfl⟩ := h.rng a ha;have : el (List.replicate gs.length ([] : List Int)) ((j : Int)).toNat = [] := by simp [el, hj]
   rw [this]; rfl
  rw [this, sumI_zero]
 have hs := wRows_set φ (I := List.replicate gs.length []) (j := k) [v] (by rw [hlr]; exact hk) h.nodup (fun y hy => by rw [hlr]; exact h.rng y hy) (h.has hk);have he : el (List.replicate gs.length ([] : List Int)) k = [] := by simp [el, hk]
 rw [he, List.nil_append, hz, sumI_one] at hs
 unfold emit0
 rw [hs]; omega
theorem emit0_len (n k : Nat) (v : Int) : (emit0 n k v).1.length = n := by simp [emit0]
/-- The weight of all that is emitted. -/
theorem emit_le (h : Ordd gs R) (hE : EdgesIn gs) (hF : Falls gs φ ψ) {k : Nat} (hk : k < gs.length) (v : Int) : sumI ψ (emitAt gs R (emit0 gs.length k v)).2 ≤ φ k v := by
 have := part_w h hE hF (emit0 gs.length k v) (emit0_len _ _ _) R.length (Nat.le_refl _);rw [List.take_length, List.drop_length, start_w h hk] at this;have e0 : sumI ψ (emit0 gs.length k v).2 = 0 := rfl;have e1 : wRows φ (emitAt gs R (emit0 gs.length k v)).1 [] = 0 := rfl
 omega
theorem falls_mean (h : Ordd gs R) (hE : EdgesIn gs) (ψ : Int × Int → Int) : Falls gs (fun k v => sumI ψ (meanG gs k v)) ψ := fun k v hk => by
 show _ ≤ sumI ψ (meanG gs k v)
 rw [mean_weight h hE ψ hk v]; exact Int.le_refl _
theorem emit_sum (h : Ordd gs R) (hE : EdgesIn gs) (ψ : Int × Int → Int) {k : Nat} (hk : k < gs.length) (v : Int) : sumI ψ (emitAt gs R (emit0 gs.length k v)).2 = sumI ψ (meanG gs k v) := by
 have h1 := emit_le h hE (falls_mean h hE ψ) hk v;have h2 := emit_le h hE (falls_mean h hE fun e => - ψ e) hk v;simp only [sumI_neg] at h2
 omega
/-- Node by node, or each value for itself: the same is emitted. -/
theorem emit_perm (h : Ordd gs R) (hE : EdgesIn gs) {k : Nat} (hk : k < gs.length) (v : Int) : (emitAt gs R (emit0 gs.length k v)).2.Perm (meanG gs k v) := perm_of_sums fun ψ => emit_sum h hE ψ hk v
end
end
end Go.Proofs.YtdacedbfnlkghaaGreatDoor
