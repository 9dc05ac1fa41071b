/- Of each item the account is what it means: kept by moves. Plain. No conditions but those written. Running out, plainly: each step makes a measure fall, and behind the last step all boxes are empty. No conditions but those written. Running out ends, plainly. No conditions but those written. Running out: the specification. No conditions but those written. -/
import Derived.Test.YtoeonbdoopboiaaGreatDoorPMeMg
import Derived.Test.YtoeonbdoopboiaaGreatDoorPSpiMvr
namespace Go.Proofs.YtoeonbdoopboiaaGreatDoor
section
open Go.RowKit

/-- What stands behind moves: how many items, what each weighs, and where the lost ones lie. -/
structure AccI (gs : List PNode) (of : List (Int × Int)) (s : PP) : Prop where
  it : s.it = (of.length : Int)
  off : ∀ p ∈ of, (∃ j : Nat, j < gs.length ∧ p.1 = (j : Int)) ∧ valB p.2 = true
  acc : ∀ (ψ : Int × Int → Int) (i : Int), accW (fun k v => sumI ψ (meanG gs k v)) ψ i s = if 0 ≤ i ∧ i < (of.length : Int) then sumI ψ (meanG gs (el of i.toNat).1.toNat (el of i.toNat).2) else 0
  lost : ∀ e ∈ s.fa, (∃ j : Nat, j < gs.length ∧ e.2.1 = (j : Int)) ∧ valB e.2.2.1 = true
theorem lostTo_mem {bx : List (List (Int × Int × Int))} : ∀ {j : Nat} {e : Int × Int × Int × Int}, e ∈ lostTo bx j → ∃ k t, k < j ∧ t ∈ el bx k ∧ e = (t.1, (k : Int), t.2.1, 2)
  | 0, _, h => by cases h
  | j + 1, e, h => by
    rw [lostTo] at h
    rcases List.mem_append.1 h with h1 | h1
    · obtain ⟨k, t, hk, ht, he⟩ := lostTo_mem h1
      exact ⟨k, t, by omega, ht, he⟩
    · obtain ⟨t, ht, rfl⟩ := List.mem_map.1 h1
      exact ⟨j, t, by omega, ht, rfl⟩
/-- Where the lost ones lie. -/
def LostI (gs : List PNode) (fa : List (Int × Int × Int × Int)) : Prop := ∀ e ∈ fa, (∃ j : Nat, j < gs.length ∧ e.2.1 = (j : Int)) ∧ valB e.2.2.1 = true
theorem lost_abort {gs : List PNode} {s : PP} (h : LostI gs s.fa) (hI : InvS gs s) (hn : s.bx.length = gs.length) : LostI gs (abortP s).fa := fun e he => by
  rcases List.mem_append.1 (show e ∈ s.fa ++ lostTo s.bx s.bx.length from he) with h1 | h1
  · exact h e h1
  · obtain ⟨k, t, hk, ht, rfl⟩ := lostTo_mem h1
    exact ⟨⟨k, by omega, rfl⟩, hI.val k t ht⟩
theorem lost_failT {gs : List PNode} {s : PP} (h : LostI gs s.fa) (hI : InvS gs s) (hn : s.bx.length = gs.length) : LostI gs (failT s).fa := by
  unfold failT
  split
  · exact lost_abort h hI hn
  · exact h
theorem lost_fail {gs : List PNode} {s : PP} (h : LostI gs s.fa) (hI : InvS gs s) (hn : s.bx.length = gs.length) {k : Nat} {t1 t2 t3 : Int} {r : List (Int × Int × Int)} (hk : k < gs.length) (hr : el s.bx k = (t1, t2, t3) :: r) : LostI gs (failP s k t1 t2 t3 r).fa := by
  have hv := hI.val k (t1, t2, t3) (by rw [hr]; simp)
  have hrr : ∀ t ∈ r, valB t.2.1 = true := fun t ht => hI.val k t (by rw [hr]; exact List.mem_cons_of_mem _ ht)
  have hc := hI.cap k hk
  rw [hr] at hc
  simp only [List.length_cons] at hc
  unfold failP
  split
  · refine lost_failT (fun e he => ?_) ⟨hI.cap.set k (by omega), hI.val.set k hrr⟩ ((List.length_set ..).trans hn)
    rcases List.mem_append.1 he with h1 | h1
    · exact h e h1
    · rw [List.mem_singleton.1 h1]; exact ⟨⟨k, hk, rfl⟩, hv⟩
  · refine lost_failT h ⟨hI.cap.set k (by simp only [List.length_cons]; exact hc), hI.val.set k fun t ht => ?_⟩ ((List.length_set ..).trans hn)
    rcases List.mem_cons.1 ht with rfl | h1
    · exact hv
    · exact hrr t h1
theorem lost_move {gs : List PNode} {src : List Int} {s : PP} (h : LostI gs s.fa) (hI : InvS gs s) (hn : s.bx.length = gs.length) (m1 m2 m3 : Int) : LostI gs (doR gs src s m1 m2 m3).2.fa := by
  unfold doR
  split
  · unfold offerR
    repeat' split
    all_goals exact h
  · split
    · unfold stepR
      split
      · rename_i hin
        split
        · exact h
        · rename_i t r hr
          obtain ⟨t1, t2, t3⟩ := t
          split
          · exact lost_fail h hI hn (by omega) hr
          · split
            · exact h
            · dsimp only
              rw [(leadAll_same gs m2.toNat t1 _ _).1]
              exact h
      · exact h
    · split
      · unfold faultR
        split
        · rename_i hin
          split
          · exact h
          · rename_i t r hr
            exact lost_fail h hI hn (by omega) hr
        · exact h
      · split
        · unfold tickR
          repeat' split
          all_goals exact h
        · split
          · unfold drainR
            split <;> exact h
          · split
            · unfold abortR
              split
              · exact h
              · exact lost_abort h hI hn
            · exact h
theorem failT_it (s : PP) : (failT s).it = s.it := by unfold failT; split <;> rfl
theorem failP_it (s : PP) (k : Nat) (t1 t2 t3 : Int) (r : List (Int × Int × Int)) : (failP s k t1 t2 t3 r).it = s.it := by unfold failP; rw [failT_it]; split <;> rfl
theorem it_move {gs : List PNode} {src : List Int} (s : PP) (m1 m2 m3 : Int) : (doR gs src s m1 m2 m3).2.it = if m1 = 1 ∧ (doR gs src s m1 m2 m3).1 = 0 then s.it + 1 else s.it := by
  by_cases k1 : m1 = 1
  · have e : doR gs src s m1 m2 m3 = offerR gs src s m2 m3 := by rw [doR, if_pos k1]
    rw [e]
    by_cases hc : (offerR gs src s m2 m3).1 = 0
    · rw [if_pos ⟨k1, hc⟩, (took_it hc).2.2]
    · rw [if_neg (fun h => hc h.2), offer_no hc]
  · rw [if_neg (fun h => k1 h.1), doR, if_neg k1]
    split
    · unfold stepR
      split
      · split
        · rfl
        · split
          · exact failP_it _ _ _ _ _ _
          · split
            · rfl
            · exact (leadAll_same gs _ _ _ _).2.2.2.1
      · rfl
    · split
      · unfold faultR
        split
        · split
          · rfl
          · exact failP_it _ _ _ _ _ _
        · rfl
      · split
        · unfold tickR
          repeat' split
          all_goals rfl
        · split
          · unfold drainR
            split <;> rfl
          · split
            · unfold abortR
              split <;> rfl
            · rfl
/-- The offers that were taken, behind one more move. -/
def offMore (of : List (Int × Int)) (m1 c m2 m3 : Int) : List (Int × Int) := if m1 = 1 ∧ c = 0 then of ++ [(m2, m3)] else of
theorem AccI.move {gs : List PNode} {src : List Int} {of : List (Int × Int)} {s : PP} (hG : GoodE gs) (hR : Ordd gs (orderP gs)) (hsrc : ∀ x ∈ src, ∃ j : Nat, j < gs.length ∧ x = (j : Int)) (h : AccI gs of s) (hI : InvS gs s) (hn : s.bx.length = gs.length) (m1 m2 m3 : Int) :
    AccI gs (offMore of m1 (doR gs src s m1 m2 m3).1 m2 m3) (doR gs src s m1 m2 m3).2 := by
  have hit := it_move (gs := gs) (src := src) s m1 m2 m3
  have hl := lost_move (src := src) h.lost hI hn m1 m2 m3
  have hacc := fun (ψ : Int × Int → Int) (i : Int) => acc_move (φ := fun k v => sumI ψ (meanG gs k v)) (ψ := ψ) (i := i) hG (fun k v hk => mean_weight hR hG.edg ψ hk v) hsrc hI hn m1 m2 m3
  unfold offMore
  by_cases hc : m1 = 1 ∧ (doR gs src s m1 m2 m3).1 = 0
  · rw [if_pos hc] at hit ⊢
    have e : doR gs src s m1 m2 m3 = offerR gs src s m2 m3 := by rw [doR, if_pos hc.1]
    have hc2 : (offerR gs src s m2 m3).1 = 0 := by rw [← e]; exact hc.2
    obtain ⟨h1, h2, _⟩ := took_it hc2
    refine ⟨by rw [hit, h.it, List.length_append, List.length_singleton]; omega, fun p hp => ?_, fun ψ i => ?_, hl⟩
    · rcases List.mem_append.1 hp with hp | hp
      · exact h.off p hp
      · rw [List.mem_singleton.1 hp]; exact ⟨hsrc m2 (by simpa [hasB] using h1), h2⟩
    · rw [hacc, if_pos hc, h.acc, h.it, List.length_append, List.length_singleton]
      by_cases hi : 0 ≤ i ∧ i < (of.length : Int)
      · rw [if_pos hi, if_neg (by omega), if_pos (by omega), el_app_left (by omega)]; omega
      · rw [if_neg hi]
        by_cases hi2 : (of.length : Int) = i
        · rw [if_pos hi2, if_pos (by omega)]
          have e2 : i.toNat = of.length + 0 := by omega
          rw [e2, el_app_right, el_zero]
          dsimp only
          omega
        · rw [if_neg hi2, if_neg (by omega)]; omega
  · rw [if_neg hc] at hit ⊢
    refine ⟨hit.trans h.it, h.off, fun ψ i => ?_, hl⟩
    rw [hacc, if_neg hc, h.acc]; omega
theorem pp0_acc (gs : List PNode) : AccI gs [] (pp0 gs.length) := by
  have e : ∀ k, el (List.replicate gs.length ([] : List (Int × Int × Int))) k = [] := fun k => by
    by_cases hk : k < gs.length
    · simp [el, hk]
    · simp [el, hk]; rfl
  refine ⟨rfl, (fun p hp => by cases hp), (fun ψ i => ?_), (fun e he => by cases he)⟩
  rw [if_neg (by simp)]
  show 0 + sumI (fun k => boxW _ i k (el (List.replicate gs.length ([] : List (Int × Int × Int))) k)) _ + 0 = 0
  rw [sumI_congr (g := fun _ => 0) (fun k _ => by show boxW _ i k (el (List.replicate gs.length ([] : List (Int × Int × Int))) k) = 0; rw [e]; rfl), sumI_zero]
  rfl
/-- The offers that were taken among the first moves: where and what. -/
def offQ (ms : List (Int × Int × Int)) (cs : List Int) : Nat → List (Int × Int)
  | 0 => []
  | m + 1 => offMore (offQ ms cs m) (el ms m).1 (el cs m) (el ms m).2.1 (el ms m).2.2
theorem playP_code {gs : List PNode} {src : List Int} (l : List (Int × Int × Int)) (s : PP) {n : Nat} : ∀ {k : Nat}, n < k → k ≤ l.length → el (playP gs src (l.take k) s).1 n = (doR gs src (playP gs src (l.take n) s).2 (el l n).1 (el l n).2.1 (el l n).2.2).1
  | 0, h, _ => by omega
  | k + 1, h, hk => by
    rw [take_succ_el (by omega), playP_snoc]
    dsimp only
    have hl := playP_len gs src l s k (by omega)
    by_cases e : n = k
    · subst e
      have h0 := el_app_right (playP gs src (l.take n) s).1 [(doR gs src (playP gs src (l.take n) s).2 (el l n).1 (el l n).2.1 (el l n).2.2).1] 0
      rw [hl, Nat.add_zero, el_zero] at h0
      exact h0
    · rw [el_app_left (by omega)]
      exact playP_code l s (by omega) (by omega)
theorem playP_acc {gs : List PNode} {src : List Int} (hG : GoodE gs) (hR : Ordd gs (orderP gs)) (hsrc : ∀ x ∈ src, ∃ j : Nat, j < gs.length ∧ x = (j : Int)) (l : List (Int × Int × Int)) : ∀ n, n ≤ l.length → AccI gs (offQ l (playP gs src l (pp0 gs.length)).1 n) (playP gs src (l.take n) (pp0 gs.length)).2
  | 0, _ => pp0_acc gs
  | n + 1, hn => by
    have hc := playP_code (gs := gs) (src := src) l (pp0 gs.length) (n := n) (k := l.length) (by omega) (Nat.le_refl _)
    rw [List.take_length] at hc
    rw [take_succ_el (by omega), playP_snoc, offQ, hc]
    exact (playP_acc hG hR hsrc l n (by omega)).move hG hR hsrc (playP_inv src hG l (pp0_inv hG) (pp0_bnd _) n (by omega)) ((playP_bnd src hG.edg l (pp0_bnd _) n (by omega)).len) _ _ _
section
variable {E : Nat → Int → List (Int × Int)} {i : Int}
/-- The account of an item: what was emitted, then what those that live and those that were lost mean by E. -/
def emL (i : Int) (em : List (Int × Int × Int)) : List (Int × Int) := em.flatMap fun e => if e.1 = i then [(e.2.1, e.2.2)] else []
def boxL (E : Nat → Int → List (Int × Int)) (i : Int) (k : Nat) (l : List (Int × Int × Int)) : List (Int × Int) := l.flatMap fun t => if t.1 = i then E k t.2.1 else []
def bxsL (E : Nat → Int → List (Int × Int)) (i : Int) (bx : List (List (Int × Int × Int))) (n : Nat) : List (Int × Int) := (List.range n).flatMap fun k => boxL E i k (el bx k)
def faL (E : Nat → Int → List (Int × Int)) (i : Int) (fa : List (Int × Int × Int × Int)) : List (Int × Int) := fa.flatMap fun e => if e.1 = i then E e.2.1.toNat e.2.2.1 else []
def accL (E : Nat → Int → List (Int × Int)) (i : Int) (s : PP) : List (Int × Int) := emL i s.em ++ bxsL E i s.bx s.bx.length ++ faL E i s.fa
theorem accL_sum (ψ : Int × Int → Int) (s : PP) : sumI ψ (accL E i s) = accW (fun k v => sumI ψ (E k v)) ψ i s := by
  unfold accL accW
  rw [sumI_app, sumI_app]
  congr 1
  · congr 1
    · rw [emL, sumI_flat]
      refine sumI_congr fun e _ => ?_
      split
      · exact sumI_one _ _
      · rfl
    · rw [bxsL, sumI_flat]
      refine sumI_congr fun k _ => ?_
      rw [boxL, sumI_flat]
      refine sumI_congr fun t _ => ?_
      show _ = if t.1 = i then sumI ψ (E k t.2.1) else 0
      split <;> rfl
  · rw [faL, sumI_flat]
    refine sumI_congr fun e _ => ?_
    split <;> rfl
theorem accW_congr {φ φ' : Nat → Int → Int} {ψ : Int × Int → Int} {gs : List PNode} {s : PP} (hn : s.bx.length = gs.length) (hl : LostI gs s.fa) (h : ∀ k v, k < gs.length → φ k v = φ' k v) : accW φ ψ i s = accW φ' ψ i s := by
  unfold accW
  congr 1
  · congr 1
    refine sumI_congr fun k hk => ?_
    have hk2 := List.mem_range.1 hk
    refine sumI_congr fun t _ => ?_
    unfold tokW
    rw [h k _ (by omega)]
  · refine sumI_congr fun e he => ?_
    obtain ⟨⟨j, hj, e2⟩, _⟩ := hl e he
    rw [e2, Int.toNat_natCast, h j _ hj]
end
/-- The account is what the item means, whichever way it is told. -/
theorem account_perm {gs : List PNode} {of : List (Int × Int)} {s : PP} (h : AccI gs of s) (hn : s.bx.length = gs.length) {E : Nat → Int → List (Int × Int)} (hE : ∀ ψ k v, k < gs.length → sumI ψ (E k v) = sumI ψ (meanG gs k v)) {i : Int} (h0 : 0 ≤ i) (h1 : i < s.it) :
    (accL E i s).Perm (meanG gs (el of i.toNat).1.toNat (el of i.toNat).2) := perm_of_sums fun ψ => by
  rw [accL_sum, accW_congr hn h.lost (fun k v hk => hE ψ k v hk), h.acc, if_pos ⟨h0, by rw [← h.it]; exact h1⟩]
theorem account_len {gs : List PNode} (hG : GoodE gs) (hR : Ordd gs (orderP gs)) (hw : widP gs ≤ 400) {of : List (Int × Int)} {s : PP} (h : AccI gs of s) (hn : s.bx.length = gs.length) {E : Nat → Int → List (Int × Int)} (hE : ∀ ψ k v, k < gs.length → sumI ψ (E k v) = sumI ψ (meanG gs k v)) {i : Int} (h0 : 0 ≤ i) (h1 : i < s.it) :
    (accL E i s).length ≤ 400 := by
  have hp := (account_perm h hn hE h0 h1).length_eq
  have hit := h.it
  have hm : el of i.toNat ∈ of := el_mem (by omega)
  obtain ⟨⟨j, hj, e⟩, _⟩ := h.off _ hm
  rw [e, Int.toNat_natCast] at hp
  have h2 := mean_len hR hG.edg hG.st _ j (el of i.toNat).2 hj (Nat.le_refl _)
  have h3 := wdP_le (gs := gs) hj
  omega
end
section
open Go.RowKit

/-- The first of a row of nodes whose step succeeds. -/
def lastS (gs : List PNode) : List Int → PP → Bool × PP
  | [], s => (false, s)
  | x :: r, s => if (stepR gs s x).1 = 0 then (true, (stepR gs s x).2) else lastS gs r s
theorem lastS_yes {gs : List PNode} {s : PP} : ∀ {l : List Int}, (lastS gs l s).1 = true → ∃ x ∈ l, (stepR gs s x).1 = 0 ∧ (lastS gs l s).2 = (stepR gs s x).2
  | [], h => by cases h
  | x :: r, h => by
    rw [lastS] at h ⊢
    split
    · rename_i h0; exact ⟨x, by simp, h0, rfl⟩
    · rename_i h0
      rw [if_neg h0] at h
      obtain ⟨y, hy, h1, h2⟩ := lastS_yes h
      exact ⟨y, List.mem_cons_of_mem _ hy, h1, h2⟩
theorem lastS_no {gs : List PNode} {s : PP} : ∀ {l : List Int}, (lastS gs l s).1 ≠ true → (lastS gs l s).2 = s
  | [], _ => rfl
  | x :: r, h => by
    rw [lastS] at h ⊢
    split
    · rename_i h0; rw [if_pos h0] at h; exact absurd rfl h
    · rename_i h0
      rw [if_neg h0] at h
      exact lastS_no h
theorem step_no {gs : List PNode} {s : PP} {m : Int} (h : (stepR gs s m).1 ≠ 0) : (stepR gs s m).2 = s := by
  unfold stepR at h ⊢
  split at h
  · rename_i hin
    rw [if_pos hin]
    split at h
    · rfl
    · rename_i t r e
      split at h
      · exact absurd rfl h
      · rename_i h1; rw [if_neg h1]
        split at h
        · rename_i h2; rw [if_pos h2]
        · exact absurd rfl h
  · rename_i hin; rw [if_neg hin]
theorem step_yes {gs : List PNode} {s : PP} {m : Int} (h : (stepR gs s m).1 = 0) : ∃ (k : Nat) (t1 t2 t3 : Int) (r : List (Int × Int × Int)), m = (k : Int) ∧ k < s.bx.length ∧ el s.bx k = (t1, t2, t3) :: r ∧
    ((stepR gs s m).2 = failP s k t1 t2 t3 r ∨ (¬ (stApp gs k t2).2.1 = true ∧ (stepR gs s m).2 = leadAll gs k t1 (stApp gs k t2).1 { s with bx := s.bx.set k r })) := by
  unfold stepR at h ⊢
  split at h
  · rename_i hin
    obtain ⟨k, rfl⟩ : ∃ k : Nat, m = (k : Int) := ⟨m.toNat, by omega⟩
    rw [if_pos hin]
    rw [Int.toNat_natCast] at h ⊢
    split at h
    · cases h
    · rename_i t r e
      obtain ⟨t1, t2, t3⟩ := t
      refine ⟨k, t1, t2, t3, r, rfl, by omega, e, ?_⟩
      dsimp only at h ⊢
      split at h
      · rename_i h1; rw [if_pos h1]; exact .inl rfl
      · rename_i h1; rw [if_neg h1]
        split at h
        · cases h
        · rename_i h2; rw [if_neg h2]; exact .inr ⟨h1, rfl⟩
  · cases h
/-- What all tokens weigh. -/
def bxsF (f : Nat → Int × Int × Int → Int) (bx : List (List (Int × Int × Int))) : Int := sumI (fun k => sumI (f k) (el bx k)) (List.range bx.length)
section
variable {f : Nat → Int × Int × Int → Int}
theorem bxsF_set {bx : List (List (Int × Int × Int))} {k : Nat} (hk : k < bx.length) (x : List (Int × Int × Int)) : bxsF f (bx.set k x) = bxsF f bx - sumI (f k) (el bx k) + sumI (f k) x := by
  unfold bxsF
  rw [List.length_set]
  have h := sum_at (f := fun j => sumI (f j) (el (bx.set k x) j)) (g := fun j => sumI (f j) (el bx j)) (k := k) (fun j hj => by show sumI (f j) (el (bx.set k x) j) = _; rw [el_set_far hj]) bx.length
  rw [if_pos hk] at h
  try dsimp only at h
  rw [el_set_same hk] at h
  omega
theorem bxsF_puts (t : Int × Int × Int) : ∀ (l : List Int) (bx : List (List (Int × Int × Int))), (∀ x ∈ l, ∃ j : Nat, j < bx.length ∧ x = (j : Int)) → bxsF f (putsTo t bx l) = bxsF f bx + sumI (fun y => f y.toNat t) l
  | [], bx, _ => by show bxsF f bx = bxsF f bx + 0; omega
  | y :: r, bx, h => by
    obtain ⟨j, hj, rfl⟩ := h y (by simp)
    rw [putsTo, bxsF_puts t r _ (fun x hx => by rw [List.length_set]; exact h x (List.mem_cons_of_mem _ hx)), Int.toNat_natCast, bxsF_set hj, sumI_app, sumI_one]
    show _ = _ + (f (j : Int).toNat t + sumI (fun y => f y.toNat t) r)
    rw [Int.toNat_natCast]
    omega
theorem bxsF_empty {bx : List (List (Int × Int × Int))} (h : ∀ k, k < bx.length → el bx k = []) : bxsF f bx = 0 := by
  unfold bxsF
  rw [sumI_congr (g := fun _ => 0) (fun k hk => by show sumI (f k) (el bx k) = 0; rw [h k (List.mem_range.1 hk)]; rfl), sumI_zero]
theorem bxsF_clr (bx : List (List (Int × Int × Int))) : bxsF f (clr bx bx.length) = 0 := bxsF_empty fun k _ => el_clr bx k
theorem bxsF_nn {bx : List (List (Int × Int × Int))} (h : ∀ k t, k < bx.length → t ∈ el bx k → 0 ≤ f k t) : 0 ≤ bxsF f bx :=
  sumI_nn fun k hk => sumI_nn fun t ht => h k t (List.mem_range.1 hk) ht
theorem bxsF_lead {gs : List PNode} (hE : EdgesIn gs) {s : PP} (hn : s.bx.length = gs.length) {k : Nat} (hk : k < gs.length) (it v : Int) : bxsF f (leadR gs s k it v).bx = bxsF f s.bx + sumI (fun y => f y.toNat (it, v, 0)) (nxP gs k) := by
  unfold leadR
  split
  · rename_i h
    rw [List.length_eq_zero_iff.1 h]
    show bxsF f s.bx = bxsF f s.bx + 0
    omega
  · exact bxsF_puts _ _ _ (fun x hx => by obtain ⟨j, hj, e⟩ := hE.rng k hk x hx; exact ⟨j, by omega, e⟩)
theorem bxsF_leadAll {gs : List PNode} (hE : EdgesIn gs) {k : Nat} (hk : k < gs.length) (it : Int) : ∀ (l : List Int) (s : PP), s.bx.length = gs.length → bxsF f (leadAll gs k it l s).bx = bxsF f s.bx + sumI (fun v => sumI (fun y => f y.toNat (it, v, 0)) (nxP gs k)) l
  | [], s, _ => by show bxsF f s.bx = bxsF f s.bx + 0; omega
  | v :: r, s, hn => by
    rw [leadAll, bxsF_leadAll hE hk it r _ (by rw [leadR_len]; exact hn), bxsF_lead hE hn hk]
    show _ = _ + (sumI (fun y => f y.toNat (it, v, 0)) (nxP gs k) + sumI (fun v => sumI (fun y => f y.toNat (it, v, 0)) (nxP gs k)) r)
    omega
/-- A failed step lowers it by so much. -/
theorem bxsF_fail {c : Int} {s : PP} {k : Nat} {t1 t2 t3 : Int} {r : List (Int × Int × Int)} (hk : k < s.bx.length) (hr : el s.bx k = (t1, t2, t3) :: r) (h1 : t3 + 1 ≤ 3 → f k (t1, t2, t3 + 1) ≤ f k (t1, t2, t3) - c) (h2 : 3 < t3 + 1 → c ≤ f k (t1, t2, t3)) (h0 : 0 ≤ bxsF f s.bx - c) :
    bxsF f (failP s k t1 t2 t3 r).bx ≤ bxsF f s.bx - c := by
  have hT : ∀ s2 : PP, bxsF f s2.bx ≤ bxsF f s.bx - c → bxsF f (failT s2).bx ≤ bxsF f s.bx - c := fun s2 h => by
    unfold failT
    split
    · show bxsF f (clr s2.bx s2.bx.length) ≤ _
      rw [bxsF_clr]; exact h0
    · exact h
  unfold failP
  refine hT _ ?_
  split
  · rename_i h3
    show bxsF f (s.bx.set k r) ≤ _
    rw [bxsF_set hk, hr]
    show bxsF f s.bx - (f k (t1, t2, t3) + sumI (f k) r) + sumI (f k) r ≤ _
    have := h2 h3
    omega
  · rename_i h3
    show bxsF f (s.bx.set k ((t1, t2, t3 + 1) :: r)) ≤ _
    rw [bxsF_set hk, hr]
    show bxsF f s.bx - (f k (t1, t2, t3) + sumI (f k) r) + (f k (t1, t2, t3 + 1) + sumI (f k) r) ≤ _
    have := h1 (by omega)
    omega
end
theorem em_leadAll (gs : List PNode) (k : Nat) (it : Int) : ∀ (l : List Int) (s : PP), (leadAll gs k it l s).em.length = s.em.length + (if (nxP gs k).length = 0 then l.length else 0)
  | [], s => by rw [leadAll]; split <;> simp
  | v :: r, s => by
    rw [leadAll, em_leadAll gs k it r]
    unfold leadR
    split
    · rw [List.length_append, List.length_singleton, List.length_cons]; omega
    · rfl
theorem em_failP (s : PP) (k : Nat) (t1 t2 t3 : Int) (r : List (Int × Int × Int)) : (failP s k t1 t2 t3 r).em = s.em := by
  unfold failP failT
  split <;> split <;> rfl
theorem totT_most {c : Nat} : ∀ {ls : List (List (Int × Int × Int))}, (∀ k, k < ls.length → (el ls k).length ≤ c) → totT ls ≤ c * ls.length
  | [], _ => Nat.zero_le _
  | x :: r, h => by
    have h1 := totT_most (ls := r) fun k hk => by have := h (k + 1) (by simp; omega); rwa [el_cons] at this
    have h2 := h 0 (by simp)
    rw [el_zero] at h2
    rw [totT_cons, List.length_cons, Nat.mul_succ]
    omega
theorem tot_zero {ls : List (List (Int × Int × Int))} (h : ∀ k, k < ls.length → el ls k = []) : totT ls = 0 := by
  have := totT_most (c := 0) (ls := ls) fun k hk => by rw [h k hk]; simp
  omega
theorem tot_cap {gs : List PNode} (hG : GoodE gs) {s : PP} (hI : InvS gs s) (hn : s.bx.length = gs.length) : totT s.bx ≤ 80 := by
  have h1 := totT_most (c := 8) (ls := s.bx) fun k hk => by
    have h2 := hI.cap k (by omega)
    have h3 := (hG.cap k (by omega)).2
    omega
  have := hG.edg.many
  omega
theorem above_again (zs : List Int) (ti : Int) : above (above zs (ti - 10) ++ [ti]) (ti - 10) = above zs (ti - 10) ++ [ti] := by
  unfold above
  rw [List.filter_append, List.filter_filter, List.filter_cons, if_pos (by simp; omega), List.filter_nil]
  congr 1
  refine List.filter_congr fun x _ => by simp
theorem fa_failT {F : Nat} {s2 : PP} (h : s2.fa.length ≤ F + (above s2.fu (s2.ti - 10)).length + 1) (ht : totT s2.bx ≤ 80) (hfu : s2.fu.length ≤ 5) :
    (totT (failT s2).bx ≠ 0 → (failT s2).fa.length ≤ F + (above (failT s2).fu ((failT s2).ti - 10)).length) ∧ (failT s2).fa.length ≤ F + 86 := by
  have ha := above_le s2.fu (s2.ti - 10)
  have hc := (totT_clr s2.bx s2.bx.length).resolve_right (by omega)
  unfold failT
  split
  · refine ⟨fun h0 => absurd (show totT (clr s2.bx s2.bx.length) = 0 from tot_zero fun k _ => el_clr _ _) h0, ?_⟩
    show (s2.fa ++ lostTo s2.bx s2.bx.length).length ≤ _
    rw [List.length_append]
    omega
  · refine ⟨fun _ => ?_, ?_⟩
    · show s2.fa.length ≤ F + (above (above s2.fu (s2.ti - 10) ++ [s2.ti]) (s2.ti - 10)).length
      rw [above_again, List.length_append, List.length_singleton]; omega
    · show s2.fa.length ≤ _
      omega
end
section
open Go.RowKit

/-- What holds of a pipe that runs out. -/
structure RunI (gs : List PNode) (E F : Nat) (s : PP) : Prop where
  bnd : ∃ n, BndP gs.length n s
  inv : InvS gs s
  em : (s.em.length : Int) + bxsF (fun k _ => wdP gs (orderP gs) k) s.bx ≤ (E : Int)
  fa : totT s.bx ≠ 0 → s.fa.length ≤ F + (above s.fu (s.ti - 10)).length
  fa2 : s.fa.length ≤ F + 86
theorem RunI.len {gs : List PNode} {E F : Nat} {s : PP} (h : RunI gs E F s) : s.bx.length = gs.length := by obtain ⟨n, hn⟩ := h.bnd; exact hn.len
theorem RunI.tr {gs : List PNode} {E F : Nat} {s : PP} (h : RunI gs E F s) : TrB s.bx := by obtain ⟨n, hn⟩ := h.bnd; exact hn.tr
theorem tot_pos {s : PP} {k : Nat} {t : Int × Int × Int} {r : List (Int × Int × Int)} (hk : k < s.bx.length) (hr : el s.bx k = t :: r) : totT s.bx ≠ 0 := by
  have := totT_el hk
  rw [hr, List.length_cons] at this
  omega
theorem RunI.step {gs : List PNode} (hG : GoodE gs) (hR : Ordd gs (orderP gs)) {E F : Nat} {s : PP} (h : RunI gs E F s) (m : Int) : RunI gs E F (stepR gs s m).2 := by
  by_cases h0 : (stepR gs s m).1 = 0
  · have hb : ∃ n, BndP gs.length n (stepR gs s m).2 := by obtain ⟨n, hn⟩ := h.bnd; exact ⟨n + 1, hn.step hG.edg m⟩
    have hi := h.inv.step hG h.len m
    obtain ⟨k, t1, t2, t3, r, rfl, hk, hr, hc⟩ := step_yes h0
    have hkg : k < gs.length := by have := h.len; omega
    have hw1 := wdP_one hR hG.edg hG.st hkg
    have hne := tot_pos hk hr
    have hfa := h.fa hne
    have hwn : 0 ≤ bxsF (fun k _ => wdP gs (orderP gs) k) s.bx := bxsF_nn fun j t hj _ => by have := wdP_one hR hG.edg hG.st (show j < gs.length by have := h.len; omega); omega
    rcases hc with hc | ⟨hno, hc⟩
    · rw [hc] at hb hi ⊢
      have he := bxsF_fail (f := fun k _ => wdP gs (orderP gs) k) (c := 0) hk hr (fun _ => by show wdP gs (orderP gs) k ≤ wdP gs (orderP gs) k - 0; omega) (fun _ => by show 0 ≤ wdP gs (orderP gs) k; omega) (by omega)
      obtain ⟨n, hn⟩ := h.bnd
      have hcap := h.inv.cap k hkg
      rw [hr, List.length_cons] at hcap
      have hrr : ∀ t ∈ r, valB t.2.1 = true := fun t ht => h.inv.val k t (by rw [hr]; exact List.mem_cons_of_mem _ ht)
      have hv := h.inv.val k (t1, t2, t3) (by rw [hr]; simp)
      have hff : (totT (failP s k t1 t2 t3 r).bx ≠ 0 → (failP s k t1 t2 t3 r).fa.length ≤ F + (above (failP s k t1 t2 t3 r).fu ((failP s k t1 t2 t3 r).ti - 10)).length) ∧ (failP s k t1 t2 t3 r).fa.length ≤ F + 86 := by
        unfold failP
        split
        · refine fa_failT ?_ (tot_cap hG (s := { s with bx := s.bx.set k r, fa := s.fa ++ [(t1, (k : Int), t2, 1)] }) ⟨h.inv.cap.set k (by omega), h.inv.val.set k hrr⟩ ((List.length_set ..).trans h.len)) hn.fu
          show (s.fa ++ [(t1, (k : Int), t2, 1)]).length ≤ F + (above s.fu (s.ti - 10)).length + 1
          rw [List.length_append, List.length_singleton]; omega
        · refine fa_failT ?_ (tot_cap hG (s := { s with bx := s.bx.set k ((t1, t2, t3 + 1) :: r) }) ⟨h.inv.cap.set k (by simp only [List.length_cons]; omega), h.inv.val.set k fun t ht => ?_⟩ ((List.length_set ..).trans h.len)) hn.fu
          · show s.fa.length ≤ F + (above s.fu (s.ti - 10)).length + 1
            omega
          · rcases List.mem_cons.1 ht with rfl | h1
            · exact hv
            · exact hrr t h1
      exact ⟨hb, hi, by rw [em_failP]; have := h.em; omega, hff.1, hff.2⟩
    · rw [hc] at hb hi ⊢
      have hol : (stApp gs k t2).1.length ≤ 3 := appR_len _ _ _ _
      have hval := h.inv.val k (t1, t2, t3) (by rw [hr]; simp)
      have houtM := outM_of (gs := gs) (k := k) (v := t2) (hG.st k hkg) hval hno
      have hlm := outM_len (hG.st k hkg) t2
      rw [houtM] at hlm
      have hsame := leadAll_same gs k t1 (stApp gs k t2).1 { s with bx := s.bx.set k r }
      obtain ⟨s1, s2, s3, _, _⟩ := hsame
      dsimp only at s1 s2 s3
      have hpe := bxsF_leadAll (f := fun k _ => wdP gs (orderP gs) k) hG.edg hkg t1 (stApp gs k t2).1 { s with bx := s.bx.set k r } ((List.length_set ..).trans h.len)
      have hps := bxsF_set (f := fun k _ => wdP gs (orderP gs) k) hk r
      rw [hr] at hps
      have hps2 : bxsF (fun k _ => wdP gs (orderP gs) k) (s.bx.set k r) = bxsF (fun k _ => wdP gs (orderP gs) k) s.bx - wdP gs (orderP gs) k := by
        rw [hps]
        show bxsF (fun k _ => wdP gs (orderP gs) k) s.bx - (wdP gs (orderP gs) k + sumI (fun _ => wdP gs (orderP gs) k) r) + sumI (fun _ => wdP gs (orderP gs) k) r = _
        omega
      have hem := em_leadAll gs k t1 (stApp gs k t2).1 { s with bx := s.bx.set k r }
      have hwe := wdP_eq hR hG.edg hkg
      have hfp := fact_pos (hG.st k hkg)
      refine ⟨hb, hi, ?_, fun _ => by rw [s1, s2, s3]; exact hfa, by rw [s1]; exact h.fa2⟩
      rw [hem, hpe, hps2]
      dsimp only
      have hE := h.em
      have hsum := sumI_le_len (f := fun _ : Int => sumI (fun y : Int => wdP gs (orderP gs) y.toNat) (nxP gs k)) (c := sumI (fun y : Int => wdP gs (orderP gs) y.toNat) (nxP gs k)) (l := (stApp gs k t2).1) fun _ _ => Int.le_refl _
      by_cases hz : (nxP gs k).length = 0
      · rw [if_pos hz] at hwe ⊢
        have hz2 : sumI (fun y : Int => wdP gs (orderP gs) y.toNat) (nxP gs k) = 0 := by rw [List.length_eq_zero_iff.1 hz]; rfl
        rw [hz2] at hsum
        have : sumI (fun _ : Int => sumI (fun y : Int => wdP gs (orderP gs) y.toNat) (nxP gs k)) (stApp gs k t2).1 ≤ 0 := by rw [hz2]; omega
        rw [Int.mul_one] at hwe
        omega
      · rw [if_neg hz] at hwe ⊢
        have hz0 : 0 ≤ sumI (fun y : Int => wdP gs (orderP gs) y.toNat) (nxP gs k) := sumI_nn fun y hy => by
          obtain ⟨j, hj, rfl⟩ := hG.edg.rng k hkg y hy
          have := wdP_one hR hG.edg hG.st hj
          rw [Int.toNat_natCast]; omega
        have h5 : sumI (fun y : Int => wdP gs (orderP gs) y.toNat) (nxP gs k) * ((stApp gs k t2).1.length : Int) ≤ wdP gs (orderP gs) k := by rw [hwe, Int.mul_comm _ (sumI _ _)]; exact Int.mul_le_mul_of_nonneg_left hlm hz0
        omega
  · rw [step_no h0]; exact h
/-- How far a pipe is from being dry. -/
def phiW (gs : List PNode) (k : Nat) (t : Int × Int × Int) : Int := 5 * ((31 ^ rk (orderP gs) k : Nat) : Int) - t.2.2
def phiS (gs : List PNode) (s : PP) : Int := bxsF (phiW gs) s.bx
theorem pow_pos31 (n : Nat) : 1 ≤ 31 ^ n := Nat.pow_pos (by omega)
theorem phi_pos {gs : List PNode} {s : PP} (hT : TrB s.bx) {k : Nat} {t : Int × Int × Int} (ht : t ∈ el s.bx k) : 2 ≤ phiW gs k t := by
  have := hT k t ht
  have := pow_pos31 (rk (orderP gs) k)
  unfold phiW
  omega
theorem phi_nn {gs : List PNode} {s : PP} (hT : TrB s.bx) : 0 ≤ phiS gs s := bxsF_nn fun k t _ ht => by have := phi_pos (gs := gs) hT ht; omega
theorem phi_ge {gs : List PNode} {s : PP} (hT : TrB s.bx) {k : Nat} (hk : k < s.bx.length) {t : Int × Int × Int} (ht : t ∈ el s.bx k) : phiW gs k t ≤ phiS gs s := by
  have h1 : phiW gs k t ≤ sumI (phiW gs k) (el s.bx k) := sumI_mem ht fun y hy => by have := phi_pos (gs := gs) hT hy; omega
  have h2 : sumI (phiW gs k) (el s.bx k) ≤ phiS gs s := sumI_mem (f := fun k => sumI (phiW gs k) (el s.bx k)) (List.mem_range.2 hk) fun j _ => sumI_nn fun y hy => by have := phi_pos (gs := gs) hT hy; omega
  omega
/-- A step that succeeds makes it less. -/
theorem phi_step {gs : List PNode} (hG : GoodE gs) (hR : Ordd gs (orderP gs)) {E F : Nat} {s : PP} (h : RunI gs E F s) {m : Int} (h0 : (stepR gs s m).1 = 0) : phiS gs (stepR gs s m).2 + 1 ≤ phiS gs s := by
  obtain ⟨k, t1, t2, t3, r, rfl, hk, hr, hc⟩ := step_yes h0
  have hkg : k < gs.length := by have := h.len; omega
  have hm : (t1, t2, t3) ∈ el s.bx k := by rw [hr]; simp
  have hp := phi_pos (gs := gs) h.tr hm
  have hg := phi_ge (gs := gs) h.tr hk hm
  have htr := h.tr k _ hm
  dsimp only at htr
  rcases hc with hc | ⟨hno, hc⟩
  · rw [hc]
    have := bxsF_fail (f := phiW gs) (c := 1) hk hr (fun _ => by show 5 * ((31 ^ rk (orderP gs) k : Nat) : Int) - (t3 + 1) ≤ 5 * ((31 ^ rk (orderP gs) k : Nat) : Int) - t3 - 1; omega) (fun _ => by omega) (by show 0 ≤ phiS gs s - 1; omega)
    show bxsF (phiW gs) (failP s k t1 t2 t3 r).bx + 1 ≤ bxsF (phiW gs) s.bx
    omega
  · rw [hc]
    have hol : (stApp gs k t2).1.length ≤ 3 := appR_len _ _ _ _
    have hfew := hG.edg.few k hkg
    have hpe := bxsF_leadAll (f := phiW gs) hG.edg hkg t1 (stApp gs k t2).1 { s with bx := s.bx.set k r } ((List.length_set ..).trans h.len)
    have hps := bxsF_set (f := phiW gs) hk r
    rw [hr] at hps
    have hps2 : bxsF (phiW gs) (s.bx.set k r) = bxsF (phiW gs) s.bx - phiW gs k (t1, t2, t3) := by
      rw [hps]
      show bxsF (phiW gs) s.bx - (phiW gs k (t1, t2, t3) + sumI (phiW gs k) r) + sumI (phiW gs k) r = _
      omega
    obtain ⟨q, hq⟩ : ∃ q, rk (orderP gs) k = q + 1 := ⟨rk (orderP gs) k - 1, by have := hR.rk_pos hkg; omega⟩
    have hx := pow_pos31 q
    have hpw : phiW gs k (t1, t2, t3) = 155 * ((31 ^ q : Nat) : Int) - t3 := by
      unfold phiW
      rw [hq, Nat.pow_succ]
      dsimp only
      omega
    obtain ⟨x, hxx⟩ : ∃ x : Nat, x = 31 ^ q := ⟨_, rfl⟩
    have hin : ∀ v : Int, sumI (fun y : Int => phiW gs y.toNat (t1, v, 0)) (nxP gs k) ≤ 50 * (x : Int) := fun v => by
      have h1 := sumI_le_len (f := fun y : Int => phiW gs y.toNat (t1, v, 0)) (c := 5 * (x : Int)) (l := nxP gs k) fun y hy => by
        obtain ⟨j, hj, rfl, hlt⟩ := hR.rk_next hG.edg hkg y hy
        have hle : 31 ^ rk (orderP gs) j ≤ 31 ^ q := Nat.pow_le_pow_right (by omega) (by omega)
        show 5 * ((31 ^ rk (orderP gs) (j : Int).toNat : Nat) : Int) - 0 ≤ 5 * (x : Int)
        rw [Int.toNat_natCast, hxx]
        omega
      have h2 := Int.mul_le_mul_of_nonneg_left (show ((nxP gs k).length : Int) ≤ 10 by omega) (show 0 ≤ 5 * (x : Int) by omega)
      omega
    have hout := sumI_le_len (f := fun v : Int => sumI (fun y : Int => phiW gs y.toNat (t1, v, 0)) (nxP gs k)) (c := 50 * (x : Int)) (l := (stApp gs k t2).1) fun v _ => hin v
    have h2 := Int.mul_le_mul_of_nonneg_left (show ((stApp gs k t2).1.length : Int) ≤ 3 by omega) (show 0 ≤ 50 * (x : Int) by omega)
    show bxsF (phiW gs) (leadAll gs k t1 (stApp gs k t2).1 { s with bx := s.bx.set k r }).bx + 1 ≤ bxsF (phiW gs) s.bx
    rw [hpe]
    show bxsF (phiW gs) (s.bx.set k r) + _ + 1 ≤ _
    rw [hps2, hpw, ← hxx]
    rw [← hxx] at hx
    omega
/-- While tokens live, some node's step succeeds. -/
theorem last_some {gs : List PNode} (hG : GoodE gs) (hR : Ordd gs (orderP gs)) {E F : Nat} {s : PP} (h : RunI gs E F s) : ∀ (l pre : List Int), pre ++ l = (orderP gs).reverse → (∀ y ∈ pre, el s.bx y.toNat = []) → (lastS gs l s).1 = true ∨ ∀ y ∈ (orderP gs).reverse, el s.bx y.toNat = []
  | [], pre, e, hp => .inr fun y hy => hp y (by rw [← e, List.append_nil] at hy; exact hy)
  | x :: r, pre, e, hp => by
    rw [lastS]
    split
    · exact .inl rfl
    · rename_i h0
      refine last_some hG hR h r (pre ++ [x]) (by rw [← e, List.append_assoc]; rfl) fun y hy => ?_
      rcases List.mem_append.1 hy with h1 | h1
      · exact hp y h1
      · rw [List.mem_singleton.1 h1]
        have hxm : x ∈ (orderP gs).reverse := by rw [← e]; simp
        obtain ⟨k, hk, rfl⟩ := hR.rng x (List.mem_reverse.1 hxm)
        rw [Int.toNat_natCast]
        have hkb : k < s.bx.length := by have := h.len; omega
        cases hb : el s.bx k with
        | nil => rfl
        | cons t rr =>
          exfalso
          refine h0 ?_
          have hel : el (orderP gs).reverse pre.length = (k : Int) := by
            rw [← e]
            have := el_app_right pre ((k : Int) :: r) 0
            rw [Nat.add_zero, el_zero] at this
            exact this
          have hpl : pre.length < (orderP gs).reverse.length := by rw [← e, List.length_append, List.length_cons]; omega
          have hnx := hR.nx_take hG.edg hpl hel
          rw [← e, List.take_left] at hnx
          have hblk : ¬ blkP gs s.bx k ((stApp gs k t.2.1).1.length : Int) = true := fun hB => by
            unfold blkP at hB
            rw [List.any_eq_true] at hB
            obtain ⟨y, hy, hd⟩ := hB
            have hd2 := of_decide_eq_true hd
            obtain ⟨j, hj, rfl⟩ := hG.edg.rng k hk y hy
            rw [hp _ (hnx _ hy), Int.toNat_natCast] at hd2
            have h3 := (hG.cap j hj).1
            have hol : (stApp gs k t.2.1).1.length ≤ 3 := appR_len _ _ _ _
            simp only [List.length_nil] at hd2
            omega
          unfold stepR
          rw [if_pos ⟨by omega, by omega⟩, Int.toNat_natCast, hb]
          dsimp only
          repeat' split
          all_goals first | rfl | (rename_i hz; exact absurd hz hblk)
/-- What so many steps come to. -/
def itS (gs : List PNode) : Nat → PP → PP
  | 0, s => s
  | n + 1, s => (lastS gs (orderP gs).reverse (itS gs n s)).2
theorem itS_next (gs : List PNode) : ∀ (n : Nat) (s : PP), itS gs (n + 1) s = itS gs n (lastS gs (orderP gs).reverse s).2
  | 0, _ => rfl
  | n + 1, s => by rw [itS, itS_next gs n s, itS]
theorem RunI.next {gs : List PNode} (hG : GoodE gs) (hR : Ordd gs (orderP gs)) {E F : Nat} {s : PP} (h : RunI gs E F s) : RunI gs E F (lastS gs (orderP gs).reverse s).2 := by
  by_cases hl : (lastS gs (orderP gs).reverse s).1 = true
  · obtain ⟨x, _, _, e⟩ := lastS_yes hl
    rw [e]; exact h.step hG hR x
  · rw [lastS_no hl]; exact h
theorem RunI.it {gs : List PNode} (hG : GoodE gs) (hR : Ordd gs (orderP gs)) {E F : Nat} {s : PP} (h : RunI gs E F s) : ∀ n, RunI gs E F (itS gs n s)
  | 0 => h
  | n + 1 => (RunI.it hG hR h n).next hG hR
theorem last_true {gs : List PNode} (hG : GoodE gs) (hR : Ordd gs (orderP gs)) {E F : Nat} {s : PP} (h : RunI gs E F s) (ht : totT s.bx ≠ 0) : (lastS gs (orderP gs).reverse s).1 = true := by
  rcases last_some hG hR h (orderP gs).reverse [] rfl (fun y hy => by cases hy) with h1 | h1
  · exact h1
  · exact absurd (tot_zero fun k hk => by
      have := h1 (k : Int) (List.mem_reverse.2 (hR.has (by have := h.len; omega)))
      rwa [Int.toNat_natCast] at this) ht
/-- Dry behind just so many steps. -/
structure Halts (gs : List PNode) (s : PP) (K : Nat) : Prop where
  stop : totT (itS gs K s).bx = 0
  go : ∀ k, k < K → totT (itS gs k s).bx ≠ 0
theorem halts {gs : List PNode} (hG : GoodE gs) (hR : Ordd gs (orderP gs)) {E F : Nat} : ∀ (n : Nat) (s : PP), RunI gs E F s → phiS gs s ≤ (n : Int) → ∃ K, K ≤ n ∧ Halts gs s K
  | 0, s, h, hp => by
    by_cases ht : totT s.bx = 0
    · exact ⟨0, Nat.le_refl _, ht, fun k hk => absurd hk (Nat.not_lt_zero _)⟩
    · obtain ⟨x, _, h0, e⟩ := lastS_yes (last_true hG hR h ht)
      have h1 := phi_step hG hR h h0
      have h2 := phi_nn (gs := gs) (h.step hG hR x).tr
      omega
  | n + 1, s, h, hp => by
    by_cases ht : totT s.bx = 0
    · exact ⟨0, Nat.zero_le _, ht, fun k hk => absurd hk (Nat.not_lt_zero _)⟩
    · obtain ⟨x, _, h0, e⟩ := lastS_yes (last_true hG hR h ht)
      have h1 := phi_step hG hR h h0
      obtain ⟨K, hK, hH⟩ := halts hG hR n (lastS gs (orderP gs).reverse s).2 (h.next hG hR) (by rw [e]; omega)
      refine ⟨K + 1, by omega, by rw [itS_next]; exact hH.stop, fun k hk => ?_⟩
      cases k with
      | zero => exact ht
      | succ k => rw [itS_next]; exact hH.go k (by omega)
theorem phi_most {gs : List PNode} (hG : GoodE gs) {E F : Nat} {s : PP} (h : RunI gs E F s) (hR : Ordd gs (orderP gs)) : phiS gs s ≤ 400 * 31 ^ 10 := by
  have hn := hG.edg.many
  have h1 := sumI_le_len (f := fun k => sumI (phiW gs k) (el s.bx k)) (c := 40 * 31 ^ 10) (l := List.range s.bx.length) fun k hk => by
    have hk2 := List.mem_range.1 hk
    have hc := h.inv.cap k (by have := h.len; omega)
    have hc2 := (hG.cap k (by have := h.len; omega)).2
    have h2 := sumI_le_len (f := phiW gs k) (c := 5 * 31 ^ 10) (l := el s.bx k) fun t ht => by
      have h3 := hR.rk_le k
      have h4 : 31 ^ rk (orderP gs) k ≤ 31 ^ 10 := Nat.pow_le_pow_right (by omega) (by omega)
      have h5 := h.tr k t ht
      unfold phiW
      omega
    show sumI (phiW gs k) (el s.bx k) ≤ _
    omega
  rw [List.length_range, h.len] at h1
  show sumI (fun k => sumI (phiW gs k) (el s.bx k)) (List.range s.bx.length) ≤ _
  rw [h.len]
  omega
theorem run_start {gs : List PNode} {ms : List (Int × Int × Int)} (h : pipeB gs = true ∧ ms.length ≤ 300) : GoodE gs ∧ Ordd gs (orderP gs) ∧ RunI gs 40000 9000 { (playP gs (srcP gs gs.length) ms (pp0 gs.length)).2 with cl := true } := by
  have h00 : codeG gs = 0 ∧ widP gs ≤ 400 := by have := h.1; simpa [pipeB] using this
  have hG := goodE_of h00.1
  have hR := orderP_ordd (codeG_zero h00.1).2.2
  have hB := playP_bnd (srcP gs gs.length) hG.edg ms (pp0_bnd gs.length) ms.length (Nat.le_refl _)
  have hI := playP_inv (srcP gs gs.length) hG ms (pp0_inv hG) (pp0_bnd gs.length) ms.length (Nat.le_refl _)
  rw [List.take_length] at hB hI
  generalize (playP gs (srcP gs gs.length) ms (pp0 gs.length)).2 = s at hB hI ⊢
  have h2 := h.2
  have b1 := hB.tot
  have b2 := hB.em
  have hn := hG.edg.many
  refine ⟨hG, hR, ⟨ms.length, hB.len, hB.tot, hB.em, hB.fu, hB.ti0, hB.ti1, hB.it0, hB.it1, hB.tr⟩, ⟨hI.cap, hI.val⟩, ?_, fun _ => by show s.fa.length ≤ _; omega, by show s.fa.length ≤ _; omega⟩
  have h1 := sumI_le_len (f := fun k => sumI (fun _ => wdP gs (orderP gs) k) (el s.bx k)) (c := 3200) (l := List.range s.bx.length) fun k hk => by
    have hk2 := List.mem_range.1 hk
    have hc := hI.cap k (by have := hB.len; omega)
    have hc2 := (hG.cap k (by have := hB.len; omega)).2
    have h3 := wdP_le (gs := gs) (k := k) (by have := hB.len; omega)
    have h4 := sumI_le_len (f := fun _ : Int × Int × Int => wdP gs (orderP gs) k) (c := 400) (l := el s.bx k) fun _ _ => by omega
    show sumI (fun _ => wdP gs (orderP gs) k) (el s.bx k) ≤ _
    omega
  rw [List.length_range] at h1
  have hl := hB.len
  have h5 : bxsF (fun k _ => wdP gs (orderP gs) k) s.bx ≤ 3200 * (s.bx.length : Int) := h1
  show (s.em.length : Int) + bxsF (fun k _ => wdP gs (orderP gs) k) s.bx ≤ 40000
  omega
end
section
open Go.RowKit

theorem Kind.Fresh.ownR {α : Type} {K : Kind α} {lo hi : Nat} {W : World} {to : Option Addr} {tc : Nat} {xs : List α} (h : K.Fresh lo hi W to tc xs) (hn : 0 < xs.length) : K.Own lo W (.slice to xs.length tc) xs := by
  obtain ⟨g, e, _, _, _, ho⟩ := h.at hn
  subst e; exact ho
theorem sOf_cl {gs : List PNode} {s : PP} {n : Nat} (h : Halts gs { s with cl := true } n) : Halts gs { s with cl := true } n := h
/-- What runOut answers. -/
def AnsRn (lo p : Nat) (gv : Value) (gs : List PNode) (s : PP) (K : Nat) (W : World) (e : Ending) (W' : World) : Prop :=
  ∃ bb xs ev fv uv, e = .returned (.int .i64 (K : Int)) ∧ FlowS lo W' p bb gv xs ev fv uv (itS gs K { s with cl := true }) ∧ Below lo W W'
set_option maxRecDepth 100000 in
set_option maxHeartbeats 8000000 in
theorem runS_any (lo : Nat) (W : World) (p bb gb goff gc : Nat) (ts : List LNode) (xs : List Value) (ev fv uv : Value) (s : PP) (K : Nat) (h : FlowS lo W p bb (.slice (some ⟨gb, goff, none⟩) ts.length gc) xs ev fv uv s) (hz : DIn dNode lo W (some ⟨gb, goff, none⟩) ts) (h1 : 0 < ts.length) (hG : GoodE (ts.map valNode)) (hR : Ordd (ts.map valNode) (orderP (ts.map valNode))) (hI : RunI (ts.map valNode) 40000 9000 { s with cl := true }) (hK : Halts (ts.map valNode) { s with cl := true } K) (hK2 : K ≤ 1000000000000000000) :
    Calls Tryz.prog 53 #[.pointer (some ⟨p, 0, none⟩)] W (AnsRn lo p (.slice (some ⟨gb, goff, none⟩) ts.length gc) (ts.map valNode) s K W) := by
  have hlo : lo ≤ W.heap.size := h.lo_le
  have hp := h.box.size
  have hmany : ts.length ≤ 10 := by have := hG.edg.many; rw [List.length_map] at this; exact this
  obtain ⟨gs, hgs⟩ : ∃ gs, gs = ts.map valNode := ⟨_, rfl⟩
  have hgl : gs.length = ts.length := by rw [hgs, val_len]
  have HFC := hid (h.putCl true)
  obtain ⟨V, hV⟩ : ∃ V, V = W.setCell ⟨p, 3, none⟩ (.bool true) := ⟨_, rfl⟩
  rw [← hV] at HFC
  have HV := hid hV
  have c3 := h.box.c 3 rfl
  have f3 := h.box.f 3 rfl
  have c0 := h.box.c 0 rfl
  have hzV := hz.below dNode_ok HFC.out.low
  have HZ := hid hz
  have hnl : ¬ (orderP (ts.map valNode)).length < (ts.map valNode).length := by have := hR.len; omega
  have HO := hid (l11Order_is (some ⟨gb, goff, none⟩) gc ts V hG.edg hnl (hzV.up dNode_ok HFC.out.flow.lo_le))
  have HG := hid hG
  have HR := hid hR
  have HI := hid (fun n => hI.it hG hR n)
  have HK := hid hK
  rw [← hgs] at HO HG HR HI HK ⊢
  have HGS := hid hgs
  obtain ⟨s0, hs0⟩ : ∃ s0 : PP, s0 = { s with cl := true } := ⟨_, rfl⟩
  have HS0 := hid hs0
  rw [← hs0] at HFC HI HK
  have hRl : (orderP gs).length = ts.length := by rw [HR.out.len, hgl]
  clear hV hz hzV hnl hG hR hI hK hgs hs0
  go_enter Tryz.func53, Tryz.ntmps53
  go_wp2_with fail
  rw [← HV.out]
  refine HO.out.mono ?_
  rintro e w1 ⟨⟨go, qc, rfl, hF1⟩, hb1⟩
  clear c0 c3 f3
  have HB1 := hid (HFC.out.low.trans (hb1.mono HFC.out.flow.lo_le))
  have HO1 := hid ((hF1.ownR (by omega)).mono HFC.out.flow.lo_le)
  have HA1 : Hid (∀ b, (Value.slice go (orderP gs).length qc).ownBlock = some b → ¬ FO p bb xs ev fv uv b) := fun b hb hO => by
    obtain ⟨g, e, hlg, _⟩ := hF1.at (by omega)
    subst e
    have : g = b := by simpa [Value.ownBlock] using hb
    have := HFC.out.flow.old hO
    omega
  have HF1 := hid (HFC.out.flow.later hb1)
  clear hF1 hb1 HO
  go_wp2
  go_loopw [4] (fun i wr => ∃ (k bb : Nat) (xs : List Value) (ev fv uv : Value), i = .int .i64 (k : Int) ∧ k ≤ K ∧ Hid (FlowS lo wr p bb (.slice (some ⟨gb, goff, none⟩) ts.length gc) xs ev fv uv (itS gs k s0)) ∧ Hid (kI.Own lo wr (.slice go (orderP gs).length qc) (orderP gs)) ∧ Hid (∀ b, (Value.slice go (orderP gs).length qc).ownBlock = some b → ¬ FO p bb xs ev fv uv b) ∧ Hid (Below lo W wr)) (fun i _ => K - (intOf i).toNat)
  case atStart => exact ⟨0, bb, xs, ev, fv, uv, rfl, Nat.zero_le _, HF1, HO1, HA1, HB1⟩
  case round =>
    clear HF1 HO1 HA1 HB1 HFC HV
    obtain ⟨k, bb, xs, ev, fv, uv, rfl, hk, hF, hO, hA, hB⟩ := hrel
    have HRI := hid (HI.out k)
    have hlen := HRI.out.len
    have htc := tot_cap HG.out HRI.out.inv hlen
    have HL := hid (liveM_any lo wr p bb _ xs ev fv uv _ hF.out (by omega) (by omega))
    by_cases hlt : k < K
    · have hne := HK.out.go k hlt
      have HLT := hid (last_true HG.out HR.out HRI.out hne)
      have HNX : Hid (itS gs (k + 1) s0 = (lastS gs (orderP gs).reverse (itS gs k s0)).2) := rfl
      obtain ⟨sk, hsk⟩ : ∃ sk, sk = itS gs k s0 := ⟨_, rfl⟩
      rw [← hsk] at hF HRI HL HLT HNX hne htc hlen
      have htp : 0 < totT sk.bx := by omega
      have hlen1 : sk.bx.length ≤ ts.length := by omega
      have hlen2 : ts.length ≤ sk.bx.length := by omega
      clear hsk hne htc hlen
      have HRL := hid hRl
      have hr1 : (orderP gs).length ≤ ts.length := by omega
      have hr2 : ts.length ≤ (orderP gs).length := by omega
      clear hRl
      go_wp2_with fail
      refine HL.out.mono ?_
      rintro e w2 ⟨rfl, hb2⟩
      have HF2 := hid (hF.out.later hb2)
      have HO2 := hid (hO.out.below hb2)
      have HB2 := hid (hB.out.trans (hb2.mono hF.out.lo_le))
      clear hb2 hF hO hB HL
      go_wp2
      go_loopw [4, 5] (fun u i wq => ∃ (m bb : Nat) (xs : List Value) (ev fv uv : Value), u = .int .i64 (k : Int) ∧ i = .int .i64 ((m : Int) - 1) ∧ m ≤ ts.length ∧ Hid (lastS gs ((orderP gs).reverse.drop (ts.length - m)) sk = lastS gs (orderP gs).reverse sk) ∧ Hid (FlowS lo wq p bb (.slice (some ⟨gb, goff, none⟩) ts.length gc) xs ev fv uv sk) ∧ Hid (kI.Own lo wq (.slice go (orderP gs).length qc) (orderP gs)) ∧ Hid (∀ b, (Value.slice go (orderP gs).length qc).ownBlock = some b → ¬ FO p bb xs ev fv uv b) ∧ Hid (Below lo W wq)) (fun _ i _ => (intOf i + 1).toNat)
      case atStart => exact ⟨ts.length, bb, xs, ev, fv, uv, rfl, rfl, Nat.le_refl _, by rw [Hid, Nat.sub_self, List.drop_zero], HF2, HO2, hA, HB2⟩
      case round =>
        clear HF2 HO2 hA HB2
        rename World => wq
        obtain ⟨m, bb, xs, ev, fv, uv, rfl, rfl, hm, hS, hF, hO, hA, hB⟩ := hrel
        cases m with
        | zero =>
          exfalso
          have h2 := hS.out
          rw [List.drop_eq_nil_of_le (by rw [List.length_reverse, HRL.out]; omega)] at h2
          have h3 := HLT.out
          rw [← h2] at h3
          cases h3
        | succ m =>
          obtain ⟨co, cc, e, _, hCI⟩ := hO.out.in
          obtain ⟨rfl, rfl⟩ : go = co ∧ qc = cc := by simp at e; exact e
          have hmr : m < (orderP gs).length := by omega
          obtain ⟨cb, coff, rfl, hcb, hcc⟩ := ints_at hCI (k := m) (by omega)
          have ec := hcc m (by omega)
          obtain ⟨j, hj, ej⟩ := HR.out.rng (el (orderP gs) m) (el_mem hmr)
          rw [ej] at ec
          have hjt : j < ts.length := by omega
          have hel : el (orderP gs).reverse (ts.length - (m + 1)) = (j : Int) := by rw [el_reverse (by omega), ← ej]; congr 1; omega
          have hdr : (orderP gs).reverse.drop (ts.length - (m + 1)) = (j : Int) :: (orderP gs).reverse.drop (ts.length - m) := by
            have hlr : ts.length - (m + 1) < (orderP gs).reverse.length := by rw [List.length_reverse]; omega
            rw [List.drop_eq_getElem_cons hlr, ← el_at hlr, hel, show ts.length - (m + 1) + 1 = ts.length - m by omega]
          have hS2 := hS.out
          rw [hdr, lastS] at hS2
          have HS2 := hid hS2
          have hjs : j < sk.bx.length := by omega
          have hji : (j : Int) < (sk.bx.length : Int) := by omega
          have c4 := hF.out.box.c 4 rfl
          have ck := (hF.out.head hjs).1
          obtain ⟨ho, hc, hsl, _, _⟩ := hF.out.hnd.slice hjs
          rw [hsl] at ck
          have hpq := hF.out.box.size
          have hbq := hF.out.hnd.size
          clear hsl hS hS2 hdr hel ej hcc hCI e
          cases hbx : el sk.bx j with
          | nil =>
            rw [hbx] at ck
            dsimp only [List.length_nil] at ck
            have hR5 : stepR gs sk (j : Int) = (5, sk) := by rw [stepR, if_pos ⟨by omega, by omega⟩, Int.toNat_natCast, hbx]
            have hS3 := HS2.out
            rw [hR5, if_neg (show ¬ (5 : Int) = 0 by decide)] at hS3
            have HS3 := hid hS3
            clear hS3 hR5 hbx
            go_wp2_with fail
            go_roundw
            case rel => exact ⟨m, bb, xs, ev, fv, uv, rfl, rfl, by omega, HS3, hF, hO, hA, hB⟩
            case measure => simp [intOf]
          | cons t r =>
            obtain ⟨t1, t2, t3⟩ := t
            obtain ⟨n, hbn⟩ := HRI.out.bnd
            have htr := HRI.out.tr j (t1, t2, t3) (by rw [hbx]; simp)
            have hvv := HRI.out.inv.val j (t1, t2, t3) (by rw [hbx]; simp)
            have hem := HRI.out.em
            have hfa := HRI.out.fa2
            have hwn : 0 ≤ bxsF (fun k _ => wdP gs (orderP gs) k) sk.bx := bxsF_nn fun i t hi _ => by have := wdP_one HR.out HG.out.edg HG.out.st (show i < gs.length by omega); omega
            have htc := tot_cap HG.out HRI.out.inv HRI.out.len
            dsimp only at htr hvv
            have hst := stepS_any lo wq p bb gb goff gc ts xs ev fv uv sk j t1 t2 t3 r hF.out (by omega) hjt hbx (HZ.out.below dNode_ok hB.out) (by rw [← HGS.out]; exact HG.out) hvv (by omega) (by omega) (by have := hbn.fu; omega) hbn.ti0 hbn.ti1 htr.1 (by omega)
            rw [← HGS.out] at hst
            have HST := hid hst
            rw [hbx] at ck
            have hne2 : (0 : Int) < ((((t1, t2, t3) :: r).length : Nat) : Int) := by rw [List.length_cons]; omega
            have hne3 : 0 < r.length + 1 := by omega
            clear hst htr hvv hem hfa hwn htc hbn hbx
            obtain ⟨cd, hcd⟩ : ∃ cd, cd = (stepR gs sk (j : Int)).1 := ⟨_, rfl⟩
            by_cases h0 : cd = 0
            · have HNX2 : Hid (itS gs (k + 1) s0 = (stepR gs sk (j : Int)).2) := by
                have h2 := HS2.out
                rw [← hcd, if_pos h0] at h2
                rw [Hid, HNX.out, ← h2]
              rw [← hcd, h0] at HST
              clear hcd h0
              go_wp2_with fail
              refine HST.out.mono ?_
              rintro e w4 ⟨rfl, hs4⟩
              obtain ⟨bb4, xs4, ev4, fv4, uv4, F4, O4, A4, B4⟩ := hs4.codes hO.out hA.out
              have HF4 := hid F4
              have HO4 := hid O4
              have HA4 := hid A4
              have HB4 := hid (hB.out.trans B4)
              clear hs4 F4 O4 A4 B4 HST c4 ck ec
              go_wp2
              go_roundw
              case rel => exact ⟨k + 1, bb4, xs4, ev4, fv4, uv4, by go_num, by omega, by rw [HNX2.out]; exact HF4, HO4, HA4, HB4⟩
              case measure => simp [intOf]; omega
            · have HNO := hid (step_no (gs := gs) (s := sk) (m := (j : Int)) (by rw [← hcd]; exact h0))
              have HS3 : Hid (lastS gs ((orderP gs).reverse.drop (ts.length - m)) sk = lastS gs (orderP gs).reverse sk) := by
                have h2 := HS2.out
                rwa [← hcd, if_neg h0] at h2
              rw [← hcd, HNO.out] at HST
              have hd0 : (cd == 0) = false := by simpa using h0
              clear hcd h0
              go_wp2_with fail
              refine HST.out.mono ?_
              rintro e w4 ⟨rfl, hs4⟩
              obtain ⟨bb4, xs4, ev4, fv4, uv4, F4, O4, A4, B4⟩ := hs4.codes hO.out hA.out
              have HF4 := hid F4
              have HO4 := hid O4
              have HA4 := hid A4
              have HB4 := hid (hB.out.trans B4)
              clear hs4 F4 O4 A4 B4 HST c4 ck ec
              go_wp2
              go_roundw
              case rel => exact ⟨m, bb4, xs4, ev4, fv4, uv4, rfl, rfl, by omega, HS3, HF4, HO4, HA4, HB4⟩
              case measure => simp [intOf]
    · obtain rfl : k = K := by omega
      have hd := HK.out.stop
      obtain ⟨sk, hsk⟩ : ∃ sk, sk = itS gs k s0 := ⟨_, rfl⟩
      have HSK := hid hsk
      rw [← hsk] at hF HRI HL hd
      rw [hd] at HL
      clear hsk hd htc hlen
      go_wp2_with fail
      refine HL.out.mono ?_
      rintro e w2 ⟨rfl, hb2⟩
      have HF2 := hid (hF.out.later hb2)
      have HB2 := hid (hB.out.trans (hb2.mono hF.out.lo_le))
      clear hb2 hF hO hB HL
      go_wp2
      go_ret
      exact ⟨bb, xs, ev, fv, uv, rfl, by rw [← HS0.out, ← HSK.out]; exact HF2.out, HB2.out⟩
end
end Go.Proofs.YtoeonbdoopboiaaGreatDoor
