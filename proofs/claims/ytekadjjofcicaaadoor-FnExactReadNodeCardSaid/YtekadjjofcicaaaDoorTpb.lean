
/- Numbers read: plainly. No conditions but those written. -/
import Derived.Test.YtekadjjofcicaaaDoorTpa
namespace Go.Proofs.YtekadjjofcicaaaDoor
open Go.RowKit

def digD (d : UInt8) : Bool := decide (48 ≤ d.toNat) && decide (d.toNat ≤ 57)
/-- What digits say. -/
def valD : List UInt8 → Nat → Nat
  | [], a => a
  | d :: r, a => valD r (10 * a + (d.toNat - 48))
theorem valD_app : ∀ (l r : List UInt8) (a : Nat), valD (l ++ r) a = valD r (valD l a)
  | [], _, _ => rfl
  | d :: l, r, a => by simp only [List.cons_append, valD, valD_app l r]
/-- Digits that stand for a number: as many as seven, no nought ahead. -/
def numD (d : List UInt8) (neg : Bool) : Bool := (decide (1 ≤ d.length) && decide (d.length ≤ 7)) && (!(d.head? == some 48 && (decide (1 < d.length) || neg)) && d.all digD)
/-- A number read. -/
def numL (s : List UInt8) : Option Int :=
  if s.head? = some 45 then (if numD (s.drop 1) true = true then some (-(valD (s.drop 1) 0 : Int)) else none)
  else (if numD s false = true then some (valD s 0 : Int) else none)
theorem valD_lt : ∀ (l : List UInt8) (a : Nat), (∀ d ∈ l, digD d = true) → valD l a < (a + 1) * 10 ^ l.length
  | [], a, _ => by simp [valD]
  | d :: r, a, h => by
    have hd := h d (by simp)
    have ih := valD_lt r (10 * a + (d.toNat - 48)) fun x hx => h x (by simp [hx])
    simp only [digD, Bool.and_eq_true, decide_eq_true_eq] at hd
    rw [valD, List.length_cons, Nat.pow_succ]
    refine Nat.lt_of_lt_of_le ih ?_
    rw [Nat.mul_comm (10 ^ r.length) 10, ← Nat.mul_assoc]
    exact Nat.mul_le_mul_right _ (by omega)
theorem valD_ge : ∀ (l : List UInt8) (a : Nat), a ≤ valD l a
  | [], a => Nat.le_refl _
  | d :: r, a => by rw [valD]; exact Nat.le_trans (by omega) (valD_ge r _)
theorem dg_nat {x : UInt8} (h : digD x = true) : UInt8.ofNat (48 + (x.toNat - 48)) = x := by
  simp only [digD, Bool.and_eq_true, decide_eq_true_eq] at h
  rw [show 48 + (x.toNat - 48) = x.toNat by omega]; simp
/-- Digits with no nought ahead are those of their number. -/
theorem dec_of_val : ∀ (n : Nat) (l : List UInt8), l.length = n + 1 → (∀ d ∈ l, digD d = true) → (l.head? = some 48 → l.length = 1) → Lib.decDigits (valD l 0) = l
  | 0, l, hl, h, _ => by
    match l, hl with
    | [x], _ =>
      have hx := h x (by simp)
      have hx2 := hx
      simp only [digD, Bool.and_eq_true, decide_eq_true_eq] at hx2
      rw [valD, valD, Lib.decDigits_one (by omega), Nat.mul_zero, Nat.zero_add, dg_nat hx]
  | n + 1, l, hl, h, h0 => by
    obtain ⟨r, x, rfl⟩ : ∃ r x, l = r ++ [x] := ⟨l.dropLast, l.getLast (by intro e; rw [e] at hl; simp at hl), (List.dropLast_concat_getLast _).symm⟩
    have hr : r.length = n + 1 := by simpa using hl
    have hx := h x (by simp)
    have hx2 := hx
    simp only [digD, Bool.and_eq_true, decide_eq_true_eq] at hx2
    have hh : r.head? ≠ some 48 := by
      intro e
      have : (r ++ [x]).head? = some 48 := by rw [List.head?_append, e]; rfl
      have := h0 this
      rw [List.length_append, List.length_singleton] at this; omega
    have ih := dec_of_val n r hr (fun d hd => h d (by simp [hd])) (fun e => absurd e hh)
    have hpos : 1 ≤ valD r 0 := by
      match r, hr, hh, h with
      | y :: r2, _, hh, h =>
        have hy := h y (by simp)
        simp only [digD, Bool.and_eq_true, decide_eq_true_eq] at hy
        have hne : y.toNat ≠ 48 := fun e => hh (by simp [← UInt8.toNat_inj, e])
        rw [valD]
        exact Nat.le_trans (by omega) (valD_ge r2 _)
    rw [valD_app, valD, valD, Lib.decDigits, dif_neg (by omega), show (10 * valD r 0 + (x.toNat - 48)) / 10 = valD r 0 by omega, show (10 * valD r 0 + (x.toNat - 48)) % 10 = x.toNat - 48 by omega, ih, dg_nat hx]
theorem ofNat_dg {k : Nat} (h : k < 10) : (UInt8.ofNat (48 + k)).toNat = 48 + k := by
  rw [UInt8.toNat_ofNat']; omega
theorem dec_all (u : Nat) : ∀ d ∈ Lib.decDigits u, digD d = true := by
  induction u using Nat.strongRecOn with
  | ind u ih =>
    intro d hd
    rw [Lib.decDigits] at hd
    split at hd
    · next h =>
      rw [List.mem_singleton] at hd
      subst hd
      rw [digD, ofNat_dg h]; simp; omega
    · next h =>
      rcases List.mem_append.1 hd with hd | hd
      · exact ih (u / 10) (by omega) d hd
      · rw [List.mem_singleton] at hd
        subst hd
        rw [digD, ofNat_dg (k := u % 10) (by omega)]; simp; omega
theorem dec_val (u : Nat) : valD (Lib.decDigits u) 0 = u := by
  induction u using Nat.strongRecOn with
  | ind u ih =>
    rw [Lib.decDigits]
    split
    · next h => rw [valD, valD, ofNat_dg h]; omega
    · next h => rw [valD_app, ih (u / 10) (by omega), valD, valD, ofNat_dg (by omega)]; omega
theorem dec_head (u : Nat) (h : 1 ≤ u) : (Lib.decDigits u).head? ≠ some 48 := by
  induction u using Nat.strongRecOn with
  | ind u ih =>
    rw [Lib.decDigits]
    split
    · next h10 =>
      intro e
      have e2 := congrArg UInt8.toNat (Option.some.inj e)
      rw [ofNat_dg h10] at e2
      have : (48 : UInt8).toNat = 48 := rfl
      omega
    · next h10 =>
      intro e
      have hne : Lib.decDigits (u / 10) ≠ [] := fun e0 => by
        have := Lib.decDigits_length (u / 10)
        rw [e0] at this
        have h1 := dec_val (u / 10)
        rw [e0, valD] at h1; omega
      rw [List.head?_append] at e
      cases hd : (Lib.decDigits (u / 10)).head? with
      | none => exact hne (List.head?_eq_none_iff.1 hd)
      | some x =>
        rw [hd] at e
        exact ih (u / 10) (by omega) (by omega) (by rw [hd]; simpa using e)
theorem dec_len : ∀ (k u : Nat), u < 10 ^ (k + 1) → (Lib.decDigits u).length ≤ k + 1 := by
  intro k
  induction k with
  | zero => intro u h; rw [Lib.decDigits_one (by simpa using h)]; simp
  | succ k ih =>
    intro u h
    rw [Lib.decDigits]
    split
    · simp
    · have := ih (u / 10) (by rw [Nat.pow_succ] at h; omega)
      simp; omega
theorem dec_pos (u : Nat) : 1 ≤ (Lib.decDigits u).length := by
  rw [Lib.decDigits]
  split <;> simp
theorem dec_zero : Lib.decDigits 0 = [48] := by rw [Lib.decDigits_one (by omega)]; rfl
theorem dec_sign (u : Nat) : (Lib.decDigits u).head? ≠ some 45 := by
  intro e
  have hm : (45 : UInt8) ∈ Lib.decDigits u := List.mem_of_mem_head? (by rw [e]; rfl)
  have := dec_all u 45 hm
  simp [digD] at this
/-- A number's own text is read back. -/
theorem numL_itoa (n : Int) (h0 : -9999999 ≤ n) (h1 : n ≤ 9999999) : numL (Lib.itoa n) = some n := by
  by_cases hn : n < 0
  · obtain ⟨u, hu, rfl⟩ : ∃ u : Nat, 1 ≤ u ∧ n = -(u : Int) := ⟨n.natAbs, by omega, by omega⟩
    rw [Lib.itoa_neg u hu, numL, if_pos (show (45 :: Lib.decDigits u).head? = some 45 from rfl)]
    have hl := dec_len 6 u (by omega)
    have hp := dec_pos u
    have hh := dec_head u hu
    have hD : numD (Lib.decDigits u) true = true := by
      have ha : (Lib.decDigits u).all digD = true := List.all_eq_true.2 (dec_all u)
      simp only [numD, ha, Bool.and_true, Bool.and_eq_true, decide_eq_true_eq, Bool.not_eq_true', Bool.or_true]
      exact ⟨⟨hp, hl⟩, by simpa using hh⟩
    rw [List.drop_one, List.tail_cons, if_pos hD, dec_val]
  · obtain ⟨u, rfl⟩ : ∃ u : Nat, n = (u : Int) := ⟨n.toNat, by omega⟩
    rw [Lib.itoa_nonneg, numL, if_neg (dec_sign u)]
    have hl := dec_len 6 u (by omega)
    have hp := dec_pos u
    have hD : numD (Lib.decDigits u) false = true := by
      have ha : (Lib.decDigits u).all digD = true := List.all_eq_true.2 (dec_all u)
      simp only [numD, ha, Bool.and_true, Bool.and_eq_true, decide_eq_true_eq, Bool.not_eq_true', Bool.or_false]
      refine ⟨⟨hp, hl⟩, ?_⟩
      by_cases hu : u = 0
      · subst hu; rw [dec_zero]; rfl
      · have := dec_head u (by omega)
        have e : ((Lib.decDigits u).head? == some 48) = false := by simpa using this
        rw [e]; rfl
    rw [if_pos hD, dec_val]
/-- What is read as a number is its text. -/
theorem itoa_numL {s : List UInt8} {n : Int} (h : numL s = some n) : Lib.itoa n = s ∧ -9999999 ≤ n ∧ n ≤ 9999999 := by
  unfold numL at h
  split at h
  · next h45 =>
    split at h
    · next hD =>
      have e := Option.some.inj h
      simp only [numD, Bool.and_eq_true, decide_eq_true_eq, Bool.not_eq_true', Bool.or_true, Bool.and_true, List.all_eq_true] at hD
      obtain ⟨⟨hl1, hl7⟩, hh, ha⟩ := hD
      have hs : s = 45 :: s.drop 1 := by
        cases s with
        | nil => simp at h45
        | cons x r => simp at h45; subst h45; rfl
      generalize s.drop 1 = d at *
      have hne : d.head? ≠ some 48 := by simpa using hh
      have hdv := dec_of_val (d.length - 1) d (by omega) ha (fun e => absurd e hne)
      have hpos : 1 ≤ valD d 0 := by
        rcases Nat.eq_zero_or_pos (valD d 0) with h0 | h0
        · rw [h0, dec_zero] at hdv
          rw [← hdv] at hne; exact absurd rfl hne
        · exact h0
      have hlt := valD_lt d 0 ha
      have h7 : 10 ^ d.length ≤ 10 ^ 7 := Nat.pow_le_pow_right (by omega) hl7
      rw [← e]
      refine ⟨?_, by omega, by omega⟩
      rw [Lib.itoa_neg _ hpos, hdv, ← hs]
    · cases h
  · split at h
    · next hD =>
      have e := Option.some.inj h
      simp only [numD, Bool.and_eq_true, decide_eq_true_eq, Bool.not_eq_true', Bool.or_false, List.all_eq_true] at hD
      obtain ⟨⟨hl1, hl7⟩, hh, ha⟩ := hD
      have hone : s.head? = some 48 → s.length = 1 := fun e48 => by
        rw [e48] at hh; simp at hh; omega
      have hdv := dec_of_val (s.length - 1) s (by omega) ha hone
      have hlt := valD_lt s 0 ha
      have h7 : 10 ^ s.length ≤ 10 ^ 7 := Nat.pow_le_pow_right (by omega) hl7
      rw [← e]
      refine ⟨?_, by omega, by omega⟩
      rw [Lib.itoa_nonneg, hdv]
    · cases h
theorem parse_ok : ∀ (l : List UInt8) (a k : Nat), (∀ d ∈ l, digD d = true) → a < 10 ^ k → l.length + k ≤ 18 → Lib.parseUint10 a l = .ok (valD l a)
  | [], a, k, _, _, _ => rfl
  | d :: r, a, k, h, ha, hk => by
    have hd := h d (by simp)
    simp only [digD, Bool.and_eq_true, decide_eq_true_eq] at hd
    have hp : 10 ^ k ≤ 10 ^ 17 := Nat.pow_le_pow_right (by omega) (by simp at hk; omega)
    have ih := parse_ok r (10 * a + (d.toNat - 48)) (k + 1) (fun x hx => h x (by simp [hx])) (by rw [Nat.pow_succ]; omega) (by simp at hk; omega)
    rw [Lib.parseUint10, if_pos hd, if_neg (by omega), if_neg (by omega), Nat.mul_comm a 10, ih, valD]
/-- A number's own text as the library reads it. -/
theorem atoi_itoa {n : Int} (h0 : -9999999 ≤ n) (h1 : n ≤ 9999999) : Lib.atoiAll (Lib.itoa n) = .ok n := by
  by_cases hn : n < 0
  · obtain ⟨u, hu, rfl⟩ : ∃ u : Nat, 1 ≤ u ∧ n = -(u : Int) := ⟨n.natAbs, by omega, by omega⟩
    have hp := parse_ok (Lib.decDigits u) 0 0 (dec_all u) (by omega) (by have := dec_len 6 u (by omega); omega)
    have hne : Lib.decDigits u ≠ [] := List.ne_nil_of_length_pos (dec_pos u)
    rw [Lib.itoa_neg u hu]
    have hm : Lib.parseMag (Lib.decDigits u) = .ok u := by rw [Lib.parseMag, if_neg hne, hp, dec_val]
    simp [Lib.atoiAll, hm]
    omega
  · obtain ⟨u, rfl⟩ : ∃ u : Nat, n = (u : Int) := ⟨n.toNat, by omega⟩
    have hp := parse_ok (Lib.decDigits u) 0 0 (dec_all u) (by omega) (by have := dec_len 6 u (by omega); omega)
    have hne : Lib.decDigits u ≠ [] := List.ne_nil_of_length_pos (dec_pos u)
    have hm : Lib.parseMag (Lib.decDigits u) = .ok u := by rw [Lib.parseMag, if_neg hne, hp, dec_val]
    have ha := dec_all u
    rw [Lib.itoa_nonneg]
    cases hd : Lib.decDigits u with
    | nil => exact absurd hd hne
    | cons c r =>
      rw [hd] at hm ha
      have hc := ha c (by simp)
      simp only [digD, Bool.and_eq_true, decide_eq_true_eq] at hc
      have c1 : ¬ (c.toNat = 43 ∨ c.toNat = 45) := by omega
      have c2 : ¬ c.toNat = 45 := by omega
      simp [Lib.atoiAll, c2, show ¬ c.toNat = 43 by omega, hm]
      omega
end Go.Proofs.YtekadjjofcicaaaDoor
