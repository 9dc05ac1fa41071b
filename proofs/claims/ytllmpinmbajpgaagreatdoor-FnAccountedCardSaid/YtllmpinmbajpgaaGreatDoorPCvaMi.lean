
/- What is kept by moves: of each item what was emitted, what lives and what was lost weigh together what was offered. Plain. No conditions but those written. Meanings, plainly: node by node along an order. No conditions but those written. Of each item the account is what it means: kept by moves. Plain. No conditions but those written. Rows of emits: the small functions over them. No conditions but those written. What a node lets through, and what a value means: the specification's. No conditions but those written. -/
import Derived.Test.YtllmpinmbajpgaaGreatDoorPDppMf
import Derived.Test.YtllmpinmbajpgaaGreatDoorPGenFq
import Derived.Test.YtllmpinmbajpgaaGreatDoorPSlTa
namespace Go.Proofs.YtllmpinmbajpgaaGreatDoor
section
open Go.RowKit

section
variable {φ : Nat → Int → Int} {ψ : Int × Int → Int} {i : Int}
/-- What a token of item i weighs at node k. -/
def tokW (φ : Nat → Int → Int) (i : Int) (k : Nat) (t : Int × Int × Int) : Int := if t.1 = i then φ k t.2.1 else 0
def boxW (φ : Nat → Int → Int) (i : Int) (k : Nat) (l : List (Int × Int × Int)) : Int := sumI (tokW φ i k) l
def bxsW (φ : Nat → Int → Int) (i : Int) (bx : List (List (Int × Int × Int))) : Int := sumI (fun k => boxW φ i k (el bx k)) (List.range bx.length)
def emW (ψ : Int × Int → Int) (i : Int) (em : List (Int × Int × Int)) : Int := sumI (fun e => if e.1 = i then ψ (e.2.1, e.2.2) else 0) em
def faW (φ : Nat → Int → Int) (i : Int) (fa : List (Int × Int × Int × Int)) : Int := sumI (fun e => if e.1 = i then φ e.2.1.toNat e.2.2.1 else 0) fa
/-- What item i weighs in a pipe. -/
def accW (φ : Nat → Int → Int) (ψ : Int × Int → Int) (i : Int) (s : PP) : Int := emW ψ i s.em + bxsW φ i s.bx + faW φ i s.fa
theorem boxW_cons (k : Nat) (t : Int × Int × Int) (l : List (Int × Int × Int)) : boxW φ i k (t :: l) = tokW φ i k t + boxW φ i k l := rfl
theorem boxW_snoc (k : Nat) (l : List (Int × Int × Int)) (t : Int × Int × Int) : boxW φ i k (l ++ [t]) = boxW φ i k l + tokW φ i k t := by rw [boxW, sumI_app, sumI_one]; rfl
theorem sum_at {f g : Nat → Int} {k : Nat} (h : ∀ j, j ≠ k → f j = g j) : ∀ n, sumI f (List.range n) = sumI g (List.range n) + (if k < n then f k - g k else 0)
 | 0 => by simp [sumI]
 | n + 1 => by
  rw [List.range_succ, sumI_app, sumI_app, sumI_one, sumI_one, sum_at h n]
  by_cases e : n = k
  ·subst e;rw [if_neg (by omega), if_pos (by omega)]; omega
  ·rw [h n e]
   by_cases hk : k < n
   ·rw [if_pos hk, if_pos (by omega)]; omega
   ·rw [if_neg hk, if_neg (by omega)]; omega
theorem bxsW_set {bx : List (List (Int × Int × Int))} {k : Nat} (hk : k < bx.length) (x : List (Int × Int × Int)) : bxsW φ i (bx.set k x) = bxsW φ i bx - boxW φ i k (el bx k) + boxW φ i k x := by
 unfold bxsW
 rw [List.length_set];have h := sum_at (f := fun j => boxW φ i j (el (bx.set k x) j)) (g := fun j => boxW φ i j (el bx j)) (k := k) (fun j hj => by show boxW φ i j (el (bx.set k x) j) = _; rw [el_set_far hj]) bx.length;rw [if_pos hk] at h
 try dsimp only at h
 rw [el_set_same hk] at h
 omega
theorem bxsW_put {bx : List (List (Int × Int × Int))} {k : Nat} (hk : k < bx.length) (t : Int × Int × Int) : bxsW φ i (bx.set k (el bx k ++ [t])) = bxsW φ i bx + tokW φ i k t := by
 rw [bxsW_set hk, boxW_snoc]; omega
theorem bxsW_clr (bx : List (List (Int × Int × Int))) : bxsW φ i (clr bx bx.length) = 0 := by
 unfold bxsW
 rw [sumI_congr (g := fun _ => 0) (fun k _ => by show boxW φ i k (el (clr bx bx.length) k) = 0; rw [el_clr]; rfl)];exact sumI_zero _
theorem faW_app (a b : List (Int × Int × Int × Int)) : faW φ i (a ++ b) = faW φ i a + faW φ i b := sumI_app _ _ _
theorem faW_one (e : Int × Int × Int × Int) : faW φ i [e] = if e.1 = i then φ e.2.1.toNat e.2.2.1 else 0 := sumI_one _ _
theorem faW_lostB (k : Nat) : ∀ l : List (Int × Int × Int), faW φ i (lostB k l) = boxW φ i k l
 | [] => rfl
 | (t1, t2, t3) :: r => by
  rw [lostB_cons, boxW_cons, ← faW_lostB k r]
  show (if t1 = i then φ (k : Int).toNat t2 else 0) + _ = _
  rw [Int.toNat_natCast]; rfl
theorem faW_lostTo (bx : List (List (Int × Int × Int))) : ∀ j, faW φ i (lostTo bx j) = sumI (fun k => boxW φ i k (el bx k)) (List.range j)
 | 0 => rfl
 | j + 1 => by rw [lostTo, faW_app, faW_lostTo bx j, faW_lostB, List.range_succ, sumI_app, sumI_one]
theorem emW_snoc (em : List (Int × Int × Int)) (e : Int × Int × Int) : emW ψ i (em ++ [e]) = emW ψ i em + (if e.1 = i then ψ (e.2.1, e.2.2) else 0) := by rw [emW, sumI_app, sumI_one]; rfl
theorem acc_abort (s : PP) : accW φ ψ i (abortP s) = accW φ ψ i s := by
 show emW ψ i s.em + bxsW φ i (clr s.bx s.bx.length) + faW φ i (s.fa ++ lostTo s.bx s.bx.length) = emW ψ i s.em + bxsW φ i s.bx + faW φ i s.fa
 rw [bxsW_clr, faW_app, faW_lostTo]
 show _ = emW ψ i s.em + sumI (fun k => boxW φ i k (el s.bx k)) (List.range s.bx.length) + faW φ i s.fa
 omega
theorem acc_failT (s : PP) : accW φ ψ i (failT s) = accW φ ψ i s := by
 unfold failT
 split
 ·exact acc_abort s
 ·rfl
theorem acc_fail {s : PP} {k : Nat} {t1 t2 t3 : Int} {r : List (Int × Int × Int)} (hk : k < s.bx.length) (hr : el s.bx k = (t1, t2, t3) :: r) : accW φ ψ i (failP s k t1 t2 t3 r) = accW φ ψ i s := by
 unfold failP
 rw [acc_failT]
 split
 ·show emW ψ i s.em + bxsW φ i (s.bx.set k r) + faW φ i (s.fa ++ [(t1, (k : Int), t2, 1)]) = emW ψ i s.em + bxsW φ i s.bx + faW φ i s.fa
  rw [bxsW_set hk, hr, boxW_cons, faW_app, faW_one];dsimp only;rw [Int.toNat_natCast]
  show emW ψ i s.em + (bxsW φ i s.bx - (tokW φ i k (t1, t2, t3) + boxW φ i k r) + boxW φ i k r) + (faW φ i s.fa + tokW φ i k (t1, t2, t3)) = _
  omega
 ·show emW ψ i s.em + bxsW φ i (s.bx.set k ((t1, t2, t3 + 1) :: r)) + faW φ i s.fa = emW ψ i s.em + bxsW φ i s.bx + faW φ i s.fa
  rw [bxsW_set hk, hr, boxW_cons, boxW_cons]
  show emW ψ i s.em + (bxsW φ i s.bx - (tokW φ i k (t1, t2, t3) + _) + (tokW φ i k (t1, t2, t3) + _)) + faW φ i s.fa = _
  omega
theorem bxsW_puts (it v : Int) : ∀ (l : List Int) (bx : List (List (Int × Int × Int))), (∀ x ∈ l, ∃ j : Nat, j < bx.length ∧ x = (j : Int)) → bxsW φ i (putsTo (it, v, 0) bx l) = bxsW φ i bx + (if it = i then sumI (fun y => φ y.toNat v) l else 0)
 | [], bx, _ => by show bxsW φ i bx = bxsW φ i bx + (if it = i then 0 else 0); split <;> omega
 | y :: r, bx, h => by
  obtain ⟨j, hj, rfl⟩ := h y (by simp);rw [putsTo, bxsW_puts it v r _ (fun x hx => by rw [List.length_set]; exact h x (List.mem_cons_of_mem _ hx)), Int.toNat_natCast, bxsW_put hj]
  show _ + (if it = i then φ j v else 0) + _ = _ + (if it = i then φ (j : Int).toNat v + sumI (fun y => φ y.toNat v) r else 0)
  rw [Int.toNat_natCast]
  split <;> omega
theorem acc_lead {gs : List PNode} (hE : EdgesIn gs) {s : PP} (hn : s.bx.length = gs.length) {k : Nat} (hk : k < gs.length) (it v : Int) : accW φ ψ i (leadR gs s k it v) = accW φ ψ i s + (if it = i then thenW gs φ ψ k v else 0) := by
 unfold leadR thenW
 by_cases h0 : (nxP gs k).length = 0
 ·rw [if_pos h0, if_pos h0]
  show emW ψ i (s.em ++ [(it, (k : Int), v)]) + bxsW φ i s.bx + faW φ i s.fa = _
  rw [emW_snoc]
  show emW ψ i s.em + (if it = i then ψ ((k : Int), v) else 0) + bxsW φ i s.bx + faW φ i s.fa = emW ψ i s.em + bxsW φ i s.bx + faW φ i s.fa + _
  split <;> omega
 ·rw [if_neg h0, if_neg h0]
  show emW ψ i s.em + bxsW φ i (putsTo (it, v, 0) s.bx (nxP gs k)) + faW φ i s.fa = _
  rw [bxsW_puts it v _ _ (fun x hx => by obtain ⟨j, hj, e⟩ := hE.rng k hk x hx; exact ⟨j, by omega, e⟩)]
  show emW ψ i s.em + (bxsW φ i s.bx + _) + faW φ i s.fa = emW ψ i s.em + bxsW φ i s.bx + faW φ i s.fa + _
  omega
theorem acc_leadAll {gs : List PNode} (hE : EdgesIn gs) {k : Nat} (hk : k < gs.length) (it : Int) : ∀ (l : List Int) (s : PP), s.bx.length = gs.length → accW φ ψ i (leadAll gs k it l s) = accW φ ψ i s + (if it = i then sumI (thenW gs φ ψ k) l else 0)
 | [], s, _ => by show accW φ ψ i s = accW φ ψ i s + (if it = i then 0 else 0); split <;> omega
 | v :: r, s, hn => by
  rw [leadAll, acc_leadAll hE hk it r _ (by rw [leadR_len]; exact hn), acc_lead hE hn hk]
  show _ = _ + (if it = i then thenW gs φ ψ k v + sumI (thenW gs φ ψ k) r else 0)
  split <;> omega
end
theorem outM_of {gs : List PNode} {k : Nat} {v : Int} (hg : goodSt (el gs k).2.1 (el gs k).2.2.1 (el gs k).2.2.2.1 = true) (hv : valB v = true) (hf : ¬ (stApp gs k v).2.1 = true) : outM gs k v = (stApp gs k v).1 := by
 rw [stApp, appR_yes hg hv] at hf ⊢
 unfold outM
 rw [if_neg hf]
/-- A step keeps what an item weighs. -/
theorem acc_step {φ : Nat → Int → Int} {ψ : Int × Int → Int} {i : Int} {gs : List PNode} (hG : GoodE gs) (hφ : ∀ k v, k < gs.length → φ k v = sumI (thenW gs φ ψ k) (outM gs k v)) {s : PP} (hI : InvS gs s) (hn : s.bx.length = gs.length) (m : Int) : accW φ ψ i (stepR gs s m).2 = accW φ ψ i s := by
 unfold stepR
 split
 ·rename_i hin;have hk : m.toNat < s.bx.length := by omega
  have hkg : m.toNat < gs.length := by omega
  split
  ·rfl
  ·rename_i t r hr;obtain ⟨t1, t2, t3⟩ := t;have hv := hI.val m.toNat (t1, t2, t3) (by rw [hr]; simp);dsimp only at hv
   split
   ·exact acc_fail hk hr
   ·rename_i hf
    split
    ·rfl
    ·have ho := outM_of (hG.st _ hkg) hv hf;have hw := hφ m.toNat t2 hkg;rw [ho] at hw;dsimp only;rw [acc_leadAll hG.edg hkg t1 _ _ ((List.length_set ..).trans hn), ← hw]
     show emW ψ i s.em + bxsW φ i (s.bx.set m.toNat r) + faW φ i s.fa + _ = emW ψ i s.em + bxsW φ i s.bx + faW φ i s.fa
     rw [bxsW_set hk, hr, boxW_cons]
     show _ + (_ - ((if t1 = i then φ m.toNat t2 else 0) + _) + _) + _ + _ = _
     omega
 ·rfl
theorem took_it {gs : List PNode} {src : List Int} {s : PP} {m2 m3 : Int} (h : (offerR gs src s m2 m3).1 = 0) : hasB src m2 = true ∧ valB m3 = true ∧ (offerR gs src s m2 m3).2 = { s with bx := s.bx.set m2.toNat (el s.bx m2.toNat ++ [(s.it, m3, 0)]), it := s.it + 1 } := by
 unfold offerR at h ⊢
 by_cases h1 : hasB src m2 = true ∧ valB m3 = true
 ·rw [if_pos h1] at h ⊢
  by_cases h2 : s.cl = true
  ·rw [if_pos h2] at h; exact absurd (show (3 : Int) = 0 from h) (by decide)
  ·rw [if_neg h2] at h ⊢
   by_cases h3 : capP gs m2.toNat - ((el s.bx m2.toNat).length : Int) < 1
   ·rw [if_pos h3] at h; exact absurd (show (4 : Int) = 0 from h) (by decide)
   ·rw [if_neg h3]; exact ⟨h1.1, h1.2, rfl⟩
 ·rw [if_neg h1] at h; exact absurd (show (2 : Int) = 0 from h) (by decide)
theorem offer_no {gs : List PNode} {src : List Int} {s : PP} {m2 m3 : Int} (h : (offerR gs src s m2 m3).1 ≠ 0) : (offerR gs src s m2 m3).2 = s := by
 unfold offerR at h ⊢
 by_cases h1 : hasB src m2 = true ∧ valB m3 = true
 ·rw [if_pos h1] at h ⊢
  by_cases h2 : s.cl = true
  ·rw [if_pos h2]
  ·rw [if_neg h2] at h ⊢
   by_cases h3 : capP gs m2.toNat - ((el s.bx m2.toNat).length : Int) < 1
   ·rw [if_pos h3]
   ·rw [if_neg h3] at h; exact absurd rfl h
 ·rw [if_neg h1]
/-- What a move does to what item i weighs. -/
theorem acc_move {φ : Nat → Int → Int} {ψ : Int × Int → Int} {i : Int} {gs : List PNode} {src : List Int} (hG : GoodE gs) (hφ : ∀ k v, k < gs.length → φ k v = sumI (thenW gs φ ψ k) (outM gs k v)) (hsrc : ∀ x ∈ src, ∃ j : Nat, j < gs.length ∧ x = (j : Int)) {s : PP} (hI : InvS gs s) (hn : s.bx.length = gs.length) (m1 m2 m3 : Int) :
  accW φ ψ i (doR gs src s m1 m2 m3).2 = accW φ ψ i s + (if m1 = 1 ∧ (doR gs src s m1 m2 m3).1 = 0 then (if s.it = i then φ m2.toNat m3 else 0) else 0) := by
 by_cases k1 : m1 = 1
 ·have e : doR gs src s m1 m2 m3 = offerR gs src s m2 m3 := by rw [doR, if_pos k1]
  rw [e]
  by_cases hc : (offerR gs src s m2 m3).1 = 0
  ·rw [if_pos ⟨k1, hc⟩];obtain ⟨h1, h2, h3⟩ := took_it hc;obtain ⟨j, hj, rfl⟩ := hsrc m2 (by simpa [hasB] using h1);rw [h3]
   show emW ψ i s.em + bxsW φ i (s.bx.set (j : Int).toNat (el s.bx (j : Int).toNat ++ [(s.it, m3, 0)])) + faW φ i s.fa = emW ψ i s.em + bxsW φ i s.bx + faW φ i s.fa + _
   rw [Int.toNat_natCast, bxsW_put (by omega)]
   show _ + (_ + (if s.it = i then φ j m3 else 0)) + _ = _
   omega
  ·rw [if_neg (fun h => hc h.2), offer_no hc]; omega
 ·rw [if_neg (fun h => k1 h.1), doR, if_neg k1]
  split
  ·rw [acc_step hG hφ hI hn]; omega
  ·split
   ·unfold faultR
    split
    ·rename_i hin
     split
     ·dsimp only; omega
     ·rename_i t r hr;rw [acc_fail (by omega) hr]; omega
    ·dsimp only; omega
   ·split
    ·unfold tickR
     split
     ·dsimp only; omega
     ·split
      ·dsimp only; omega
      ·show accW φ ψ i s = _; omega
    ·split
     ·unfold drainR
      split
      ·dsimp only; omega
      ·show accW φ ψ i s = _; omega
     ·split
      ·unfold abortR
       split
       ·dsimp only; omega
       ·rw [acc_abort]; omega
      ·dsimp only; omega
end
section
open Go.RowKit

theorem el_setG {α : Type} [Inhabited α] {L : List α} {k x : Nat} {v : α} (hk : k < L.length) : el (L.set k v) x = if x = k then v else el L x := by
 unfold el
 rw [List.getElem?_set]
 by_cases h : k = x
 ·subst h; simp [hk]
 ·rw [if_neg h, if_neg (fun e => h e.symm)]
/-- What comes out goes into each of these. -/
def intoAll (out : List Int) : List Int → List (List Int) → List (List Int)
 | [], I => I
 | y :: r, I => intoAll out r (I.set y.toNat (el I y.toNat ++ out))
theorem intoAll_len (out : List Int) : ∀ (nx : List Int) (I : List (List Int)), (intoAll out nx I).length = I.length
 | [], _ => rfl
 | y :: r, I => by rw [intoAll, intoAll_len out r]; simp
theorem intoAll_app (out : List Int) : ∀ (l r : List Int) (I : List (List Int)), intoAll out (l ++ r) I = intoAll out r (intoAll out l I)
 | [], _, _ => rfl
 | y :: l, r, I => by rw [List.cons_append, intoAll, intoAll_app out l r]; rfl
theorem intoAll_succ (out : List Int) {nx : List Int} {m : Nat} (hm : m < nx.length) (I : List (List Int)) : intoAll out (nx.take (m + 1)) I = (intoAll out (nx.take m) I).set (el nx m).toNat (el (intoAll out (nx.take m) I) (el nx m).toNat ++ out) := by
 rw [take_succ_el hm, intoAll_app]; rfl
/-- The numbers are places in a row of rows. -/
def Places (n : Nat) (nx : List Int) : Prop := ∀ y ∈ nx, ∃ j : Nat, j < n ∧ y = (j : Int)
theorem intoAll_other (out : List Int) : ∀ (nx : List Int) (I : List (List Int)) (k : Nat), Places I.length nx → (k : Int) ∉ nx → el (intoAll out nx I) k = el I k
 | [], _, _, _, _ => rfl
 | y :: r, I, k, hp, hk => by
  obtain ⟨j, hj, rfl⟩ := hp y (by simp);have hne : k ≠ j := fun e => hk (by simp [e])
  rw [intoAll, Int.toNat_natCast, intoAll_other out r _ k (fun z hz => by rw [List.length_set]; exact hp z (by simp [hz])) (fun h => hk (by simp [h])), el_setG hj, if_neg hne]
theorem intoAll_grows (out : List Int) : ∀ (nx : List Int) (I : List (List Int)) (k : Nat), Places I.length nx → (el I k).length ≤ (el (intoAll out nx I) k).length
 | [], _, _, _ => Nat.le_refl _
 | y :: r, I, k, hp => by
  obtain ⟨j, hj, rfl⟩ := hp y (by simp);rw [intoAll, Int.toNat_natCast];refine Nat.le_trans ?_ (intoAll_grows out r _ k (fun z hz => by rw [List.length_set]; exact hp z (by simp [hz])));rw [el_setG hj]
  split
  ·next e => subst e; simp
  ·exact Nat.le_refl _
/-- A state: what has come into each node, and what was emitted. -/
abbrev ES := List (List Int) × List (Int × Int)
/-- One value passes a node. -/
def stepV (gs : List PNode) (k : Nat) (s : ES) (v : Int) : ES :=
 (intoAll (outM gs k v) (nxP gs k) s.1, if (nxP gs k).length = 0 then s.2 ++ (outM gs k v).map fun x => ((k : Int), x) else s.2)
/-- All that came into a node passes it. -/
def stepN (gs : List PNode) (s : ES) (k : Nat) : ES := (el s.1 k).foldl (stepV gs k) s
def emitAt (gs : List PNode) (rest : List Int) (s : ES) : ES := rest.foldl (fun s a => stepN gs s a.toNat) s
def emit0 (n k : Nat) (v : Int) : ES := ((List.replicate n []).set k [v], [])
/-- What is emitted in all, node by node. -/
def emitP (gs : List PNode) (k : Nat) (v : Int) : List (Int × Int) := (emitAt gs (orderP gs) (emit0 gs.length k v)).2
theorem stepV_len (gs : List PNode) (k : Nat) (s : ES) (v : Int) : (stepV gs k s v).1.length = s.1.length := intoAll_len _ _ _
theorem fold_len (gs : List PNode) (k : Nat) : ∀ (vs : List Int) (s : ES), (vs.foldl (stepV gs k) s).1.length = s.1.length
 | [], _ => rfl
 | v :: r, s => by rw [List.foldl_cons, fold_len gs k r, stepV_len]
theorem stepN_len (gs : List PNode) (s : ES) (k : Nat) : (stepN gs s k).1.length = s.1.length := fold_len gs k _ _
theorem emitAt_len (gs : List PNode) : ∀ (rest : List Int) (s : ES), (emitAt gs rest s).1.length = s.1.length
 | [], _ => rfl
 | a :: r, s => by
  have := emitAt_len gs r (stepN gs s a.toNat);rw [stepN_len] at this;exact this
theorem emitAt_cons (gs : List PNode) (a : Int) (r : List Int) (s : ES) : emitAt gs (a :: r) s = emitAt gs r (stepN gs s a.toNat) := rfl
theorem emitAt_app (gs : List PNode) (l r : List Int) (s : ES) : emitAt gs (l ++ r) s = emitAt gs r (emitAt gs l s) := by rw [emitAt, List.foldl_append]; rfl
/-- The weight of what is still to pass. -/
def wRows (φ : Nat → Int → Int) (I : List (List Int)) (rest : List Int) : Int := sumI (fun a => sumI (φ a.toNat) (el I a.toNat)) rest
theorem wRows_off (φ : Nat → Int → Int) {I : List (List Int)} {j : Nat} {l : List Int} (hj : j < I.length) {rest : List Int} (hp : Places I.length rest) (hn : (j : Int) ∉ rest) : wRows φ (I.set j l) rest = wRows φ I rest := by
 refine sumI_congr fun a ha => ?_
 obtain ⟨i, hi, rfl⟩ := hp a ha;have hne : i ≠ j := fun e => hn (by rw [← e]; exact ha)
 rw [Int.toNat_natCast, el_setG hj, if_neg hne]
theorem wRows_set (φ : Nat → Int → Int) {I : List (List Int)} {j : Nat} (out : List Int) (hj : j < I.length) : ∀ {rest : List Int}, rest.Nodup → Places I.length rest → (j : Int) ∈ rest → wRows φ (I.set j (el I j ++ out)) rest = wRows φ I rest + sumI (φ j) out
 | a :: r, hn, hp, hm => by
  rw [List.nodup_cons] at hn;obtain ⟨i, hi, rfl⟩ := hp a (by simp);have hpr : Places I.length r := fun y hy => hp y (by simp [hy])
  by_cases e : i = j
  ·subst e;have h1 := wRows_off φ (l := el I i ++ out) hi hpr hn.1
   unfold wRows at h1 ⊢
   simp only [sumI];rw [h1, Int.toNat_natCast, el_setG hi, if_pos rfl, sumI_app]
   omega
  ·have hm2 : (j : Int) ∈ r := by
    rcases List.mem_cons.1 hm with h | h
    ·omega
    ·exact h
   have ih := wRows_set φ out hj hn.2 hpr hm2
   unfold wRows at ih ⊢
   simp only [sumI];rw [ih, Int.toNat_natCast, el_setG hj, if_neg e]
   omega
theorem wRows_into (φ : Nat → Int → Int) (out : List Int) {rest : List Int} (hn : rest.Nodup) : ∀ (nx : List Int) (I : List (List Int)), Places I.length rest → (∀ y ∈ nx, y ∈ rest) → wRows φ (intoAll out nx I) rest = wRows φ I rest + sumI (fun y => sumI (φ y.toNat) out) nx
 | [], I, _, _ => by simp [intoAll, sumI]
 | y :: r, I, hp, hs => by
  obtain ⟨j, hj, rfl⟩ := hp y (hs y (by simp));have ih := wRows_into φ out hn r (I.set j (el I j ++ out)) (fun z hz => by rw [List.length_set]; exact hp z hz) fun z hz => hs z (by simp [hz])
  rw [intoAll, Int.toNat_natCast, ih, wRows_set φ out hj hn hp (hs _ (by simp))];simp only [sumI, Int.toNat_natCast]
  omega
section
variable {gs : List PNode} {R : List Int} {φ : Nat → Int → Int} {ψ : Int × Int → Int}
theorem stepV_w (hF : Falls gs φ ψ) {k : Nat} (hk : k < gs.length) {rest : List Int} (hn : rest.Nodup) (s : ES) (v : Int) (hp : Places s.1.length rest) (hx : ∀ y ∈ nxP gs k, y ∈ rest) :
  sumI ψ (stepV gs k s v).2 + wRows φ (stepV gs k s v).1 rest ≤ sumI ψ s.2 + φ k v + wRows φ s.1 rest := by
 have h := hF k v hk
 unfold stepV
 dsimp only;rw [wRows_into φ _ hn _ _ hp hx]
 by_cases h0 : (nxP gs k).length = 0
 ·have e : nxP gs k = [] := List.length_eq_zero_iff.1 h0;have e2 : sumI ψ ((outM gs k v).map fun x => ((k : Int), x)) = sumI (fun x => ψ ((k : Int), x)) (outM gs k v) := sumI_map _ _ _;have hc : sumI (thenW gs φ ψ k) (outM gs k v) = sumI (fun x => ψ ((k : Int), x)) (outM gs k v) := sumI_congr fun x _ => by rw [thenW, if_pos h0]
  have e3 : sumI (fun y : Int => sumI (φ y.toNat) (outM gs k v)) [] = 0 := rfl;rw [if_pos h0, sumI_app, e2, e, e3]
  omega
 ·rw [if_neg h0];have hc : sumI (thenW gs φ ψ k) (outM gs k v) = sumI (fun x => sumI (fun y : Int => φ y.toNat x) (nxP gs k)) (outM gs k v) := sumI_congr fun x _ => by rw [thenW, if_neg h0]
  have hs : sumI (fun y : Int => sumI (φ y.toNat) (outM gs k v)) (nxP gs k) = sumI (fun x => sumI (fun y : Int => φ y.toNat x) (nxP gs k)) (outM gs k v) := sumI_swap (fun (y : Int) (x : Int) => φ y.toNat x) _ _
  omega
theorem fold_w (hF : Falls gs φ ψ) {k : Nat} (hk : k < gs.length) {rest : List Int} (hn : rest.Nodup) (hx : ∀ y ∈ nxP gs k, y ∈ rest) : ∀ (vs : List Int) (s : ES), Places s.1.length rest →
  sumI ψ (vs.foldl (stepV gs k) s).2 + wRows φ (vs.foldl (stepV gs k) s).1 rest ≤ sumI ψ s.2 + sumI (φ k) vs + wRows φ s.1 rest
 | [], s, _ => by simp only [List.foldl_nil, sumI]; omega
 | v :: r, s, hp => by
  have h1 := stepV_w hF hk hn s v hp hx;have h2 := fold_w hF hk hn hx r (stepV gs k s v) (by rw [stepV_len]; exact hp);rw [List.foldl_cons];simp only [sumI]
  omega
theorem Ordd.places (h : Ordd gs R) {t : Nat} : Places gs.length (R.drop t) := fun y hy => h.rng y (List.mem_of_mem_drop hy)
theorem Ordd.drop_nodup (h : Ordd gs R) (t : Nat) : (R.drop t).Nodup := (List.drop_sublist t R).nodup h.nodup
/-- Node by node the weight does not grow. -/
theorem part_w (h : Ordd gs R) (hE : EdgesIn gs) (hF : Falls gs φ ψ) (s : ES) (hl : s.1.length = gs.length) : ∀ t, t ≤ R.length →
  sumI ψ (emitAt gs (R.take t) s).2 + wRows φ (emitAt gs (R.take t) s).1 (R.drop t) ≤ sumI ψ s.2 + wRows φ s.1 R
 | 0, _ => by rw [List.take_zero, List.drop_zero]; exact Int.le_refl _
 | t + 1, ht => by
  have hlt : t < R.length := by omega
  have ih := part_w h hE hF s hl t (by omega);obtain ⟨k, hk, ek⟩ := h.rng _ (el_mem hlt);have hd : R.drop t = (k : Int) :: R.drop (t + 1) := by rw [← ek, el_at hlt, List.getElem_cons_drop]
  rw [take_succ_el hlt, ek, emitAt_app, emitAt_cons, Int.toNat_natCast];have hlen : (emitAt gs (R.take t) s).1.length = gs.length := by rw [emitAt_len, hl]
  have hf := fold_w hF hk (h.drop_nodup (t + 1)) (h.next hE hlt ek) (el (emitAt gs (R.take t) s).1 k) (emitAt gs (R.take t) s) (by rw [hlen]; exact h.places);rw [hd] at ih;have e : wRows φ (emitAt gs (R.take t) s).1 ((k : Int) :: R.drop (t + 1)) = sumI (φ k) (el (emitAt gs (R.take t) s).1 k) + wRows φ (emitAt gs (R.take t) s).1 (R.drop (t + 1)) := by
   unfold wRows; simp only [sumI, Int.toNat_natCast]
  rw [e] at ih
  show sumI ψ (stepN gs (emitAt gs (R.take t) s) k).2 + wRows φ (stepN gs (emitAt gs (R.take t) s) k).1 (R.drop (t + 1)) ≤ _
  unfold stepN
  omega
theorem start_w (h : Ordd gs R) {k : Nat} (hk : k < gs.length) (v : Int) : wRows φ (emit0 gs.length k v).1 R = φ k v := by
 have hlr : (List.replicate gs.length ([] : List Int)).length = gs.length := List.length_replicate;have hz : wRows φ (List.replicate gs.length []) R = 0 := by
  have : wRows φ (List.replicate gs.length []) R = sumI (fun _ => 0) R := sumI_congr fun a ha => by
   obtain ⟨j, hj, rfl⟩ := h.rng a ha;have : el (List.replicate gs.length ([] : List Int)) ((j : Int)).toNat = [] := by simp [el, hj]
   rw [this]; rfl
  rw [this, sumI_zero]
 have hs := wRows_set φ (I := List.replicate gs.length []) (j := k) [v] (by rw [hlr]; exact hk) h.nodup (fun y hy => by rw [hlr]; exact h.rng y hy) (h.has hk);have he : el (List.replicate gs.length ([] : List Int)) k = [] := by simp [el, hk]
 rw [he, List.nil_append, hz, sumI_one] at hs
 unfold emit0
 rw [hs]; omega
theorem emit0_len (n k : Nat) (v : Int) : (emit0 n k v).1.length = n := by simp [emit0]
/-- The weight of all that is emitted. -/
theorem emit_le (h : Ordd gs R) (hE : EdgesIn gs) (hF : Falls gs φ ψ) {k : Nat} (hk : k < gs.length) (v : Int) : sumI ψ (emitAt gs R (emit0 gs.length k v)).2 ≤ φ k v := by
 have := part_w h hE hF (emit0 gs.length k v) (emit0_len _ _ _) R.length (Nat.le_refl _);rw [List.take_length, List.drop_length, start_w h hk] at this;have e0 : sumI ψ (emit0 gs.length k v).2 = 0 := rfl;have e1 : wRows φ (emitAt gs R (emit0 gs.length k v)).1 [] = 0 := rfl
 omega
theorem falls_mean (h : Ordd gs R) (hE : EdgesIn gs) (ψ : Int × Int → Int) : Falls gs (fun k v => sumI ψ (meanG gs k v)) ψ := fun k v hk => by
 show _ ≤ sumI ψ (meanG gs k v)
 rw [mean_weight h hE ψ hk v]; exact Int.le_refl _
theorem emit_sum (h : Ordd gs R) (hE : EdgesIn gs) (ψ : Int × Int → Int) {k : Nat} (hk : k < gs.length) (v : Int) : sumI ψ (emitAt gs R (emit0 gs.length k v)).2 = sumI ψ (meanG gs k v) := by
 have h1 := emit_le h hE (falls_mean h hE ψ) hk v;have h2 := emit_le h hE (falls_mean h hE fun e => - ψ e) hk v;simp only [sumI_neg] at h2
 omega
/-- Node by node, or each value for itself: the same is emitted. -/
theorem emit_perm (h : Ordd gs R) (hE : EdgesIn gs) {k : Nat} (hk : k < gs.length) (v : Int) : (emitAt gs R (emit0 gs.length k v)).2.Perm (meanG gs k v) := perm_of_sums fun ψ => emit_sum h hE ψ hk v
end
end
section
open Go.RowKit

/-- What stands behind moves: how many items, what each weighs, and where the lost ones lie. -/
structure AccI (gs : List PNode) (of : List (Int × Int)) (s : PP) : Prop where
 it : s.it = (of.length : Int)
 off : ∀ p ∈ of, (∃ j : Nat, j < gs.length ∧ p.1 = (j : Int)) ∧ valB p.2 = true
 acc : ∀ (ψ : Int × Int → Int) (i : Int), accW (fun k v => sumI ψ (meanG gs k v)) ψ i s = if 0 ≤ i ∧ i < (of.length : Int) then sumI ψ (meanG gs (el of i.toNat).1.toNat (el of i.toNat).2) else 0
 lost : ∀ e ∈ s.fa, (∃ j : Nat, j < gs.length ∧ e.2.1 = (j : Int)) ∧ valB e.2.2.1 = true
theorem lostTo_mem {bx : List (List (Int × Int × Int))} : ∀ {j : Nat} {e : Int × Int × Int × Int}, e ∈ lostTo bx j → ∃ k t, k < j ∧ t ∈ el bx k ∧ e = (t.1, (k : Int), t.2.1, 2)
 | 0, _, h => by cases h
 | j + 1, e, h => by
  rw [lostTo] at h
  rcases List.mem_append.1 h with h1 | h1
  ·obtain ⟨k, t, hk, ht, he⟩ := lostTo_mem h1;exact ⟨k, t, by omega, ht, he⟩
  ·obtain ⟨t, ht, rfl⟩ := List.mem_map.1 h1;exact ⟨j, t, by omega, ht, rfl⟩
/-- Where the lost ones lie. -/
def LostI (gs : List PNode) (fa : List (Int × Int × Int × Int)) : Prop := ∀ e ∈ fa, (∃ j : Nat, j < gs.length ∧ e.2.1 = (j : Int)) ∧ valB e.2.2.1 = true
theorem lost_abort {gs : List PNode} {s : PP} (h : LostI gs s.fa) (hI : InvS gs s) (hn : s.bx.length = gs.length) : LostI gs (abortP s).fa := fun e he => by
 rcases List.mem_append.1 (show e ∈ s.fa ++ lostTo s.bx s.bx.length from he) with h1 | h1
 ·exact h e h1
 ·obtain ⟨k, t, hk, ht, rfl⟩ := lostTo_mem h1;exact ⟨⟨k, by omega, rfl⟩, hI.val k t ht⟩
theorem lost_failT {gs : List PNode} {s : PP} (h : LostI gs s.fa) (hI : InvS gs s) (hn : s.bx.length = gs.length) : LostI gs (failT s).fa := by
 unfold failT
 split
 ·exact lost_abort h hI hn
 ·exact h
theorem lost_fail {gs : List PNode} {s : PP} (h : LostI gs s.fa) (hI : InvS gs s) (hn : s.bx.length = gs.length) {k : Nat} {t1 t2 t3 : Int} {r : List (Int × Int × Int)} (hk : k < gs.length) (hr : el s.bx k = (t1, t2, t3) :: r) : LostI gs (failP s k t1 t2 t3 r).fa := by
 have hv := hI.val k (t1, t2, t3) (by rw [hr]; simp);have hrr : ∀ t ∈ r, valB t.2.1 = true := fun t ht => hI.val k t (by rw [hr]; exact List.mem_cons_of_mem _ ht)
 have hc := hI.cap k hk;rw [hr] at hc;simp only [List.length_cons] at hc
 unfold failP
 split
 ·refine lost_failT (fun e he => ?_) ⟨hI.cap.set k (by omega), hI.val.set k hrr⟩ ((List.length_set ..).trans hn)
  rcases List.mem_append.1 he with h1 | h1
  ·exact h e h1
  ·rw [List.mem_singleton.1 h1]; exact ⟨⟨k, hk, rfl⟩, hv⟩
 ·refine lost_failT h ⟨hI.cap.set k (by simp only [List.length_cons]; exact hc), hI.val.set k fun t ht => ?_⟩ ((List.length_set ..).trans hn)
  rcases List.mem_cons.1 ht with rfl | h1
  ·exact hv
  ·exact hrr t h1
theorem lost_move {gs : List PNode} {src : List Int} {s : PP} (h : LostI gs s.fa) (hI : InvS gs s) (hn : s.bx.length = gs.length) (m1 m2 m3 : Int) : LostI gs (doR gs src s m1 m2 m3).2.fa := by
 unfold doR
 split
 ·unfold offerR
  repeat' split
  all_goals exact h
 ·split
  ·unfold stepR
   split
   ·rename_i hin
    split
    ·exact h
    ·rename_i t r hr;obtain ⟨t1, t2, t3⟩ := t
     split
     ·exact lost_fail h hI hn (by omega) hr
     ·split
      ·exact h
      ·dsimp only;rw [(leadAll_same gs m2.toNat t1 _ _).1];exact h
   ·exact h
  ·split
   ·unfold faultR
    split
    ·rename_i hin
     split
     ·exact h
     ·rename_i t r hr;exact lost_fail h hI hn (by omega) hr
    ·exact h
   ·split
    ·unfold tickR
     repeat' split
     all_goals exact h
    ·split
     ·unfold drainR
      split <;> exact h
     ·split
      ·unfold abortR
       split
       ·exact h
       ·exact lost_abort h hI hn
      ·exact h
theorem failT_it (s : PP) : (failT s).it = s.it := by unfold failT; split <;> rfl
theorem failP_it (s : PP) (k : Nat) (t1 t2 t3 : Int) (r : List (Int × Int × Int)) : (failP s k t1 t2 t3 r).it = s.it := by unfold failP; rw [failT_it]; split <;> rfl
theorem it_move {gs : List PNode} {src : List Int} (s : PP) (m1 m2 m3 : Int) : (doR gs src s m1 m2 m3).2.it = if m1 = 1 ∧ (doR gs src s m1 m2 m3).1 = 0 then s.it + 1 else s.it := by
 by_cases k1 : m1 = 1
 ·have e : doR gs src s m1 m2 m3 = offerR gs src s m2 m3 := by rw [doR, if_pos k1]
  rw [e]
  by_cases hc : (offerR gs src s m2 m3).1 = 0
  ·rw [if_pos ⟨k1, hc⟩, (took_it hc).2.2]
  ·rw [if_neg (fun h => hc h.2), offer_no hc]
 ·rw [if_neg (fun h => k1 h.1), doR, if_neg k1]
  split
  ·unfold stepR
   split
   ·split
    ·rfl
    ·split
     ·exact failP_it _ _ _ _ _ _
     ·split
      ·rfl
      ·exact (leadAll_same gs _ _ _ _).2.2.2.1
   ·rfl
  ·split
   ·unfold faultR
    split
    ·split
     ·rfl
     ·exact failP_it _ _ _ _ _ _
    ·rfl
   ·split
    ·unfold tickR
     repeat' split
     all_goals rfl
    ·split
     ·unfold drainR
      split <;> rfl
     ·split
      ·unfold abortR
       split <;> rfl
      ·rfl
/-- The offers that were taken, behind one more move. -/
def offMore (of : List (Int × Int)) (m1 c m2 m3 : Int) : List (Int × Int) := if m1 = 1 ∧ c = 0 then of ++ [(m2, m3)] else of
theorem AccI.move {gs : List PNode} {src : List Int} {of : List (Int × Int)} {s : PP} (hG : GoodE gs) (hR : Ordd gs (orderP gs)) (hsrc : ∀ x ∈ src, ∃ j : Nat, j < gs.length ∧ x = (j : Int)) (h : AccI gs of s) (hI : InvS gs s) (hn : s.bx.length = gs.length) (m1 m2 m3 : Int) :
  AccI gs (offMore of m1 (doR gs src s m1 m2 m3).1 m2 m3) (doR gs src s m1 m2 m3).2 := by
 have hit := it_move (gs := gs) (src := src) s m1 m2 m3;have hl := lost_move (src := src) h.lost hI hn m1 m2 m3;have hacc := fun (ψ : Int × Int → Int) (i : Int) => acc_move (φ := fun k v => sumI ψ (meanG gs k v)) (ψ := ψ) (i := i) hG (fun k v hk => mean_weight hR hG.edg ψ hk v) hsrc hI hn m1 m2 m3
 unfold offMore
 by_cases hc : m1 = 1 ∧ (doR gs src s m1 m2 m3).1 = 0
 ·rw [if_pos hc] at hit ⊢;have e : doR gs src s m1 m2 m3 = offerR gs src s m2 m3 := by rw [doR, if_pos hc.1]
  have hc2 : (offerR gs src s m2 m3).1 = 0 := by rw [← e]; exact hc.2
  obtain ⟨h1, h2, _⟩ := took_it hc2;refine ⟨by rw [hit, h.it, List.length_append, List.length_singleton]; omega, fun p hp => ?_, fun ψ i => ?_, hl⟩
  ·rcases List.mem_append.1 hp with hp | hp
   ·exact h.off p hp
   ·rw [List.mem_singleton.1 hp]; exact ⟨hsrc m2 (by simpa [hasB] using h1), h2⟩
  ·rw [hacc, if_pos hc, h.acc, h.it, List.length_append, List.length_singleton]
   by_cases hi : 0 ≤ i ∧ i < (of.length : Int)
   ·rw [if_pos hi, if_neg (by omega), if_pos (by omega), el_app_left (by omega)]; omega
   ·rw [if_neg hi]
    by_cases hi2 : (of.length : Int) = i
    ·rw [if_pos hi2, if_pos (by omega)];have e2 : i.toNat = of.length + 0 := by omega
     rw [e2, el_app_right, el_zero];dsimp only
     omega
    ·rw [if_neg hi2, if_neg (by omega)]; omega
 ·rw [if_neg hc] at hit ⊢;refine ⟨hit.trans h.it, h.off, fun ψ i => ?_, hl⟩;rw [hacc, if_neg hc, h.acc]; omega
theorem pp0_acc (gs : List PNode) : AccI gs [] (pp0 gs.length) := by
 have e : ∀ k, el (List.replicate gs.length ([] : List (Int × Int × Int))) k = [] := fun k => by
  by_cases hk : k < gs.length
  ·simp [el, hk]
  ·simp [el, hk]; rfl
 refine ⟨rfl, (fun p hp => by cases hp), (fun ψ i => ?_), (fun e he => by cases he)⟩;rw [if_neg (by simp)]
 show 0 + sumI (fun k => boxW _ i k (el (List.replicate gs.length ([] : List (Int × Int × Int))) k)) _ + 0 = 0
 rw [sumI_congr (g := fun _ => 0) (fun k _ => by show boxW _ i k (el (List.replicate gs.length ([] : List (Int × Int × Int))) k) = 0; rw [e]; rfl), sumI_zero]
 rfl
/-- The offers that were taken among the first moves: where and what. -/
def offQ (ms : List (Int × Int × Int)) (cs : List Int) : Nat → List (Int × Int)
 | 0 => []
 | m + 1 => offMore (offQ ms cs m) (el ms m).1 (el cs m) (el ms m).2.1 (el ms m).2.2
theorem playP_code {gs : List PNode} {src : List Int} (l : List (Int × Int × Int)) (s : PP) {n : Nat} : ∀ {k : Nat}, n < k → k ≤ l.length → el (playP gs src (l.take k) s).1 n = (doR gs src (playP gs src (l.take n) s).2 (el l n).1 (el l n).2.1 (el l n).2.2).1
 | 0, h, _ => by omega
 | k + 1, h, hk => by
  rw [take_succ_el (by omega), playP_snoc];dsimp only;have hl := playP_len gs src l s k (by omega)
  by_cases e : n = k
  ·subst e;have h0 := el_app_right (playP gs src (l.take n) s).1 [(doR gs src (playP gs src (l.take n) s).2 (el l n).1 (el l n).2.1 (el l n).2.2).1] 0;rw [hl, Nat.add_zero, el_zero] at h0;exact h0
  ·rw [el_app_left (by omega)];exact playP_code l s (by omega) (by omega)
theorem playP_acc {gs : List PNode} {src : List Int} (hG : GoodE gs) (hR : Ordd gs (orderP gs)) (hsrc : ∀ x ∈ src, ∃ j : Nat, j < gs.length ∧ x = (j : Int)) (l : List (Int × Int × Int)) : ∀ n, n ≤ l.length → AccI gs (offQ l (playP gs src l (pp0 gs.length)).1 n) (playP gs src (l.take n) (pp0 gs.length)).2
 | 0, _ => pp0_acc gs
 | n + 1, hn => by
  have hc := playP_code (gs := gs) (src := src) l (pp0 gs.length) (n := n) (k := l.length) (by omega) (Nat.le_refl _);rw [List.take_length] at hc;rw [take_succ_el (by omega), playP_snoc, offQ, hc];exact (playP_acc hG hR hsrc l n (by omega)).move hG hR hsrc (playP_inv src hG l (pp0_inv hG) (pp0_bnd _) n (by omega)) ((playP_bnd src hG.edg l (pp0_bnd _) n (by omega)).len) _ _ _
section
variable {E : Nat → Int → List (Int × Int)} {i : Int}
/-- The account of an item: what was emitted, then what those that live and those that were lost mean by E. -/
def emL (i : Int) (em : List (Int × Int × Int)) : List (Int × Int) := em.flatMap fun e => if e.1 = i then [(e.2.1, e.2.2)] else []
def boxL (E : Nat → Int → List (Int × Int)) (i : Int) (k : Nat) (l : List (Int × Int × Int)) : List (Int × Int) := l.flatMap fun t => if t.1 = i then E k t.2.1 else []
def bxsL (E : Nat → Int → List (Int × Int)) (i : Int) (bx : List (List (Int × Int × Int))) (n : Nat) : List (Int × Int) := (List.range n).flatMap fun k => boxL E i k (el bx k)
def faL (E : Nat → Int → List (Int × Int)) (i : Int) (fa : List (Int × Int × Int × Int)) : List (Int × Int) := fa.flatMap fun e => if e.1 = i then E e.2.1.toNat e.2.2.1 else []
def accL (E : Nat → Int → List (Int × Int)) (i : Int) (s : PP) : List (Int × Int) := emL i s.em ++ bxsL E i s.bx s.bx.length ++ faL E i s.fa
theorem accL_sum (ψ : Int × Int → Int) (s : PP) : sumI ψ (accL E i s) = accW (fun k v => sumI ψ (E k v)) ψ i s := by
 unfold accL accW
 rw [sumI_app, sumI_app]
 congr 1
 ·congr 1
  ·rw [emL, sumI_flat];refine sumI_congr fun e _ => ?_
   split
   ·exact sumI_one _ _
   ·rfl
  ·rw [bxsL, sumI_flat];refine sumI_congr fun k _ => ?_
   rw [boxL, sumI_flat];refine sumI_congr fun t _ => ?_
   show _ = if t.1 = i then sumI ψ (E k t.2.1) else 0
   split <;> rfl
 ·rw [faL, sumI_flat];refine sumI_congr fun e _ => ?_
  split <;> rfl
theorem accW_congr {φ φ' : Nat → Int → Int} {ψ : Int × Int → Int} {gs : List PNode} {s : PP} (hn : s.bx.length = gs.length) (hl : LostI gs s.fa) (h : ∀ k v, k < gs.length → φ k v = φ' k v) : accW φ ψ i s = accW φ' ψ i s := by
 unfold accW
 congr 1
 ·congr 1
  refine sumI_congr fun k hk => ?_
  have hk2 := List.mem_range.1 hk;refine sumI_congr fun t _ => ?_
  unfold tokW
  rw [h k _ (by omega)]
 ·refine sumI_congr fun e he => ?_
  obtain ⟨⟨j, hj, e2⟩, _⟩ := hl e he;rw [e2, Int.toNat_natCast, h j _ hj]
end
/-- The account is what the item means, whichever way it is told. -/
theorem account_perm {gs : List PNode} {of : List (Int × Int)} {s : PP} (h : AccI gs of s) (hn : s.bx.length = gs.length) {E : Nat → Int → List (Int × Int)} (hE : ∀ ψ k v, k < gs.length → sumI ψ (E k v) = sumI ψ (meanG gs k v)) {i : Int} (h0 : 0 ≤ i) (h1 : i < s.it) :
  (accL E i s).Perm (meanG gs (el of i.toNat).1.toNat (el of i.toNat).2) := perm_of_sums fun ψ => by
 rw [accL_sum, accW_congr hn h.lost (fun k v hk => hE ψ k v hk), h.acc, if_pos ⟨h0, by rw [← h.it]; exact h1⟩]
theorem account_len {gs : List PNode} (hG : GoodE gs) (hR : Ordd gs (orderP gs)) (hw : widP gs ≤ 400) {of : List (Int × Int)} {s : PP} (h : AccI gs of s) (hn : s.bx.length = gs.length) {E : Nat → Int → List (Int × Int)} (hE : ∀ ψ k v, k < gs.length → sumI ψ (E k v) = sumI ψ (meanG gs k v)) {i : Int} (h0 : 0 ≤ i) (h1 : i < s.it) :
  (accL E i s).length ≤ 400 := by
 have hp := (account_perm h hn hE h0 h1).length_eq;have hit := h.it;have hm : el of i.toNat ∈ of := el_mem (by omega);obtain ⟨⟨j, hj, e⟩, _⟩ := h.off _ hm;rw [e, Int.toNat_natCast] at hp;have h2 := mean_len hR hG.edg hG.st _ j (el of i.toNat).2 hj (Nat.le_refl _);have h3 := wdP_le (gs := gs) hj
 omega
end
section
open Go.RowKit

/-- A row of Emit. -/
def kE : Kind (Int × Int) := ⟨55, 43, 2, fun t => [.int .i64 t.1, .int .i64 t.2], fun _ => rfl, fun a v h => by simp at h; rcases h with rfl | rfl <;> rfl⟩
theorem Tryz.info55 : (Tryz.prog.info? 55).map (fun i => (i.zero, i.size, i.bytes)) = some (some (.agg #[.int .i64 0, .int .i64 0]), 2, 16) := by kernel_rfl
theorem kE_ok : kE.Ok := kind_ok (K := kE) Tryz.underlying43 Tryz.info55 rfl (by decide) (by decide)
theorem kE_at {n : Nat} {W : World} {ao : Option Addr} {ts : List (Int × Int)} (h : kE.In n W ao ts) {k : Nat} (hk : k < ts.length) :
  ∃ b off, ao = some ⟨b, off, none⟩ ∧ b < n ∧ ∀ j, j < ts.length → W.cell? ⟨b, off + j * 2, none⟩ = some (.int .i64 (el ts j).1) ∧ W.cell? ⟨b, off + j * 2 + 1, none⟩ = some (.int .i64 (el ts j).2) := by
 obtain ⟨b, off, e, hb, hc⟩ := h.pos hk;exact ⟨b, off, e, hb, fun j hj => ⟨hc j hj 0 (by decide), hc j hj 1 (by decide)⟩⟩
set_option maxHeartbeats 1000000 in
theorem copyListE_any (ao : Option Addr) (cap : Nat) (ts : List (Int × Int)) (w : World) (hl : ts.length ≤ 1048576) (hz : kE.In w.heap.size w ao ts) :
  Calls Tryz.prog 72 #[.slice ao ts.length cap] w fun e w' => (∃ t9, e = .returned (.slice t9 ts.length ts.length) ∧ kE.Fresh w.heap.size w'.heap.size w' t9 ts.length ts) ∧ Below w.heap.size w w' := by
 by_cases h0 : ts.length = 0
 ·obtain rfl : ts = [] := List.length_eq_zero_iff.1 h0;go_enter Tryz.func72, Tryz.ntmps72;go_wp2;go_ret;exact ⟨⟨none, rfl, .inl rfl⟩, Below.refl _ _⟩
 ·have h0' : ((ts.length : Int) == 0) = false := (len1 h0).1;obtain ⟨i0, z0, hi, hz0, hz1, hz2, hz3⟩ := kE_ok.info;have HZ : Hid (kE.In w.heap.size w ao ts) := hz;have hby : i0.bytes * ts.length ≤ 281474976710656 := by have : i0.bytes * ts.length ≤ 4096 * 1048576 := Nat.mul_le_mul hz3 hl; omega
  clear hz;go_enter Tryz.func72, Tryz.ntmps72;go_wp2_with (at_make; refine wpList_make_full _ rfl _ _ kE.st rfl w.heap.size kE.ty i0 z0 kE.sz kE_ok.und hi hz0 hz1 .i64 .i64 _ _ ts.length rfl rfl rfl rfl hby (by unfold maxLen; omega) (Nat.le_refl _) ?_; intro w1 hown hgrow; obtain ⟨cur, hcur, hcl, _⟩ := owns_open hown; have hB1 : Below w.heap.size w w1 := (Below.refl _ _).grown hgrow (Nat.le_refl _) (fun k e => by cases e); obtain ⟨w2, hrun, hh, hO⟩ := Kind.run_copy (n := ts.length) (cap := cap) (ty := 3) kE_ok hcur hcl (Nat.le_refl _) HZ.out hB1; have hB2 : Below w.heap.size w w2 := hB1.trans (hO.below (Nat.le_refl _)); have HH := show Hid (_ ∧ _) from And.intro hcl hh; unfold kE at hrun; dsimp only at hrun; clear hown hgrow hcur hh hO hcl);go_ret;have e : cur.drop (ts.length * kE.sz) = [] := List.drop_eq_nil_of_le (by rw [HH.out.1]; exact Nat.le_refl _);have hh := HH.out.2;rw [e, List.append_nil] at hh;exact ⟨⟨_, rfl, .inr ⟨w.heap.size, rfl, (Array.getElem?_eq_some_iff.1 hh).1, Kind.own_of_heap hh rfl (Nat.le_refl _) (by omega)⟩⟩, hB2⟩
end
section
open Go.RowKit

/-- What a stage lets through. -/
def outS (k a b v : Int) : List Int := if (appSt k a b v).2 = true then [v] else (appSt k a b v).1
theorem outM_S (gs : List PNode) (k : Nat) (v : Int) : outM gs k v = outS (el gs k).2.1 (el gs k).2.2.1 (el gs k).2.2.2.1 v := rfl
/-- A row of ints of its own, or nil, is answered. -/
def AnsJ (w : World) (q : List Int) (e : Ending) (w' : World) : Prop := (∃ go qc, e = .returned (.slice go q.length qc) ∧ (go = none → qc = 0) ∧ kI.Fresh w.heap.size w'.heap.size w' go qc q) ∧ Below w.heap.size w w'
set_option maxHeartbeats 1000000 in
theorem l11Out_is (k a b v : Int) (w : World) (hg : goodSt k a b = true) (hv : valB v = true) :
  Calls Tryz.prog 70 #[.agg #[.int .i64 k, .int .i64 a, .int .i64 b], .int .i64 v] w (AnsJ w (outS k a b v)) := by
 have hB0 := below1 w (.cells #[.int .i64 k, .int .i64 a, .int .i64 b] 82);have HA := hid (l7Apply_any k a b v (w.alloc (.cells #[.int .i64 k, .int .i64 a, .int .i64 b] 82)) hg hv)
 unfold outS
 generalize appSt k a b v = r at HA
 obtain ⟨l, f⟩ := r;dsimp only at HA ⊢;clear hg hv
 cases f
 ·rw [if_neg (by simp)];go_enter Tryz.func70, Tryz.ntmps70;go_wp2_with fail;refine HA.out.mono ?_;rintro e w1 ⟨⟨o, c, rfl, hno, hF⟩, hb1⟩;have hB1 := hB0.trans (hb1.mono hB0.size);dsimp only at hF ⊢;have HF := hid (hF.wide hB0.size (Nat.le_refl _));clear hF;go_wp2;go_ret;exact ⟨⟨o, c, rfl, hno, HF.out⟩, hB1⟩
 ·rw [if_pos rfl];go_enter Tryz.func70, Tryz.ntmps70;go_wp2_with fail;refine HA.out.mono ?_;rintro e w1 ⟨⟨o, c, rfl, hno, hF⟩, hb1⟩;have hB1 := hB0.trans (hb1.mono hB0.size);dsimp only at hF ⊢;clear hF;go_wp2;go_ret;exact ⟨⟨_, _, rfl, (fun h => by cases h), fresh_one hB1.size⟩, Below.allocS hB1 _⟩
set_option maxHeartbeats 1000000 in
theorem letThrough_is (k a b v : Int) (w : World) (hg : goodSt k a b = true) (hv : valB v = true) :
  Calls Tryz.prog 60 #[.agg #[.int .i64 k, .int .i64 a, .int .i64 b], .int .i64 v] w (AnsJ w (outS k a b v)) := by
 have hB0 := below1 w (.cells #[.int .i64 k, .int .i64 a, .int .i64 b] 82);have HA := hid (implApp_any k a b v (w.alloc (.cells #[.int .i64 k, .int .i64 a, .int .i64 b] 82)));rw [appR_yes hg hv] at HA
 unfold outS
 generalize appSt k a b v = r at HA
 obtain ⟨l, f⟩ := r;dsimp only at HA ⊢;clear hg hv
 cases f
 ·rw [if_neg (by simp)];go_enter Tryz.func60, Tryz.ntmps60;go_wp2_with fail;refine HA.out.mono ?_;rintro e w1 ⟨⟨o, c, rfl, hno, hF⟩, hb1⟩;have hB1 := hB0.trans (hb1.mono hB0.size);dsimp only at hF ⊢;have HF := hid (hF.wide hB0.size (Nat.le_refl _));clear hF;go_wp2;go_ret;exact ⟨⟨o, c, rfl, hno, HF.out⟩, hB1⟩
 ·rw [if_pos rfl];go_enter Tryz.func60, Tryz.ntmps60;go_wp2_with fail;refine HA.out.mono ?_;rintro e w1 ⟨⟨o, c, rfl, hno, hF⟩, hb1⟩;have hB1 := hB0.trans (hb1.mono hB0.size);dsimp only at hF ⊢;clear hF;go_wp2;go_ret;exact ⟨⟨_, _, rfl, (fun h => by cases h), fresh_one hB1.size⟩, Below.allocS hB1 _⟩
/-- What was there and what came to it; or a part of it that is too much already. -/
def Tr (out m r : List (Int × Int)) : Prop := r = out ++ m ∨ (400 < r.length ∧ r.length ≤ out.length + m.length)
theorem Tr.trans {out m1 r1 m2 r2 : List (Int × Int)} (h1 : Tr out m1 r1) (h2 : Tr r1 m2 r2) : Tr out (m1 ++ m2) r2 := by
 rcases h1 with rfl | ⟨h1, h1'⟩
 ·rcases h2 with rfl | ⟨h2, h2'⟩
  ·exact .inl (by simp)
  ·exact .inr ⟨h2, by simp at h2' ⊢; omega⟩
 ·rcases h2 with rfl | ⟨h2, h2'⟩
  ·exact .inr ⟨by simp; omega, by simp; omega⟩
  ·exact .inr ⟨h2, by simp; omega⟩
theorem Tr.refl (out : List (Int × Int)) : Tr out [] out := .inl (by simp)
theorem Tr.len {out m r : List (Int × Int)} (h : Tr out m r) : r.length ≤ out.length + m.length := by
 rcases h with rfl | ⟨_, h⟩
 ·simp
 ·exact h
theorem emits_mk {n : Nat} {W : World} {p : Nat} {x y : Int} (hp : p < n) (h0 : W.cell? ⟨p, 0, none⟩ = some (.int .i64 x)) (h1 : W.cell? ⟨p, 1, none⟩ = some (.int .i64 y)) : kE.In n W (some ⟨p, 0, none⟩) [(x, y)] := by
 refine .inr ⟨p, 0, rfl, hp, fun j hj i hi => ?_⟩;have hj0 : j = 0 := by simp at hj; exact hj
 subst hj0;have hi2 : i < 2 := hi
 rcases (show i = 0 ∨ i = 1 from by omega) with rfl | rfl
 ·simpa [kE, el] using h0
 ·simpa [kE, el] using h1
end
end Go.Proofs.YtllmpinmbajpgaaGreatDoor
