
/- A number of bytes; rows held against each other; chains in two pieces, numbers dealt and merged, in plain words. No conditions but those written. -/
import Derived.Test.YtnjnnilmelmmgaaYd
import Derived.Test.YtnjnnilmelmmgaaUa
import Derived.Test.YtnjnnilmelmmgaaVa
namespace Go.Proofs.Ytnjnnilmelmmgaa
open Go.RowKit

set_option maxHeartbeats 2000000 in
theorem numberOf_any (co : Option Addr) (cap : Nat) (bs : List Int) (w : World) (hb : BytesIn w.heap.size w co bs) (hl : bs.length ≤ 9223372036854775807) :
    Calls Try.prog 38 #[.slice co bs.length cap] w fun e w' => (∃ z : Int, e = .returned (.int .i64 z) ∧ 0 ≤ z ∧ z < 1000003) ∧ w' = w := by
  go_enter Try.func38, Try.ntmps38
  go_wp2
  go_loop [3, 8] (fun v i => ∃ (k : Nat) (z : Int), k ≤ bs.length ∧ i = .int .i64 k ∧ v = .int .i64 z ∧ 0 ≤ z ∧ z < 1000003) (fun _ i => bs.length - (intOf i).toNat)
  case atStart => exact ⟨0, 0, Nat.zero_le _, rfl, rfl, by omega, by omega⟩
  case round =>
    obtain ⟨k, z, hk, rfl, rfl, hz0, hz1⟩ := hrel
    by_cases hlt : k < bs.length
    · rcases hb with hb | ⟨b, off, rfl, hbn, hc⟩
      · subst hb; simp at hlt
      obtain ⟨d0, d1, d2⟩ := hc k hlt
      obtain ⟨y, hy⟩ : ∃ y, bs[k]?.getD 0 = y := ⟨_, rfl⟩
      rw [hy] at d0 d1 d2
      have hwy : wrap64 y = y := by unfold wrap64; omega
      have hm1 : (31 * z + y).tmod 1000003 = (31 * z + y) % 1000003 := Int.tmod_eq_emod_of_nonneg (by omega)
      have hm2 := Int.emod_nonneg (31 * z + y) (b := 1000003) (by omega)
      have hm3 := Int.emod_lt_of_pos (31 * z + y) (b := 1000003) (by omega)
      clear hc hy
      go_wp2
      go_round
      case rel => exact ⟨k + 1, (31 * z + y) % 1000003, by omega, by go_num, by first | rfl | (rw [hm1]), hm2, hm3⟩
      case measure => simp [intOf]; omega
    · obtain rfl : k = bs.length := by omega
      go_wp2
      go_ret
      exact ⟨⟨_, rfl, hz0, hz1⟩, rfl⟩
set_option maxHeartbeats 2000000 in
theorem sameInts_same (ao bo : Option Addr) (cap cap' : Nat) (zs : List Int) (w : World) (hl : zs.length ≤ 1048576) (hz : kI.In w.heap.size w ao zs) (hz' : kI.In w.heap.size w bo zs) :
    Calls Try.prog 37 #[.slice ao zs.length cap, .slice bo zs.length cap'] w fun e w' => e = .returned (.bool true) ∧ Below w.heap.size w w' := by
  have hne : ((zs.length : Int) != (zs.length : Int)) = false := by simp
  go_enter Try.func37, Try.ntmps37
  go_wp2
  go_loopw [13] (fun i wr => ∃ k : Nat, k ≤ zs.length ∧ i = .int .i64 k ∧ Below w.heap.size w wr) (fun i _ => zs.length - (intOf i).toNat)
  case atStart => exact ⟨0, Nat.zero_le _, rfl, Below.refl _ _⟩
  case round =>
    obtain ⟨k, hk, rfl, hnx⟩ := hrel
    by_cases hlt : k < zs.length
    · obtain ⟨b, off, rfl, hb, hc⟩ := ints_at hz hlt
      obtain ⟨b', off', rfl, hb', hc'⟩ := ints_at hz' hlt
      have hck := (hnx.cell (p := ⟨b, off + k, none⟩) hb).trans (hc k hlt)
      have hck' := (hnx.cell (p := ⟨b', off' + k, none⟩) hb').trans (hc' k hlt)
      clear hc hz hc' hz'
      obtain ⟨x, hx⟩ : ∃ x, x = el zs k := ⟨_, rfl⟩
      rw [← hx] at hck hck'
      clear hx
      have hxx : (x != x) = false := by simp
      go_wp2
      go_quiet (fail)
      go_wp2
      go_roundw
      case rel => exact ⟨k + 1, by omega, by go_num, below_draws hnx _⟩
      case measure => simp [intOf]; omega
    · obtain rfl : k = zs.length := by omega
      go_wp2
      go_ret
      exact ⟨rfl, hnx⟩
/-- A chain over many values is the chain over each. -/
theorem chain_split : ∀ (l m : List (Int × Int × Int)) (vs : List Int), chainL (l ++ m) vs = (chainL l vs).bind (chainL m)
  | [], m, vs => rfl
  | t :: r, m, vs => by
    rw [List.cons_append, chainL, chainL]
    split
    · rfl
    · exact chain_split r m _
theorem fails_cons (s : Int × Int × Int) (x : Int) (r : List Int) : failsAt s (x :: r) = (failsAt s [x] || failsAt s r) := by simp [failsAt]
theorem fails_append (s : Int × Int × Int) (a b : List Int) : failsAt s (a ++ b) = (failsAt s a || failsAt s b) := by simp [failsAt]
theorem chain_append : ∀ (l : List (Int × Int × Int)) (a b : List Int), chainL l (a ++ b) = (chainL l a).bind fun x => (chainL l b).map fun y => x ++ y
  | [], a, b => rfl
  | t :: r, a, b => by
    rw [chainL, chainL, chainL, fails_append, outs_app]
    rcases ha : failsAt t a with _ | _
    · rcases hb : failsAt t b with _ | _
      · simp only [Bool.or_self, Bool.false_eq_true, if_false]
        exact chain_append r _ _
      · simp only [Bool.or_true, if_true, Bool.false_eq_true, if_false]
        cases chainL r (outs t a) <;> rfl
    · simp only [Bool.true_or, if_true]; rfl
theorem chain_empty : ∀ (l : List (Int × Int × Int)), chainL l [] = some []
  | [] => rfl
  | t :: r => by rw [chainL]; exact chain_empty r
/-- How the second piece's outcomes come together. -/
def pieceF (l : List (Int × Int × Int)) (xs : List Int) : Bool := xs.any fun x => (chR l x).2.1
def pieceO (l : List (Int × Int × Int)) (xs : List Int) : List Int := xs.flatMap fun x => (chR l x).1
theorem pieceF_take (l : List (Int × Int × Int)) {xs : List Int} {j : Nat} (h : j < xs.length) : pieceF l (xs.take (j + 1)) = (pieceF l (xs.take j) || (chR l (el xs j)).2.1) := by
  rw [take_succ_el h]; simp [pieceF]
theorem pieceO_take (l : List (Int × Int × Int)) {xs : List Int} {j : Nat} (h : j < xs.length) : pieceO l (xs.take (j + 1)) = pieceO l (xs.take j) ++ (chR l (el xs j)).1 := by
  rw [take_succ_el h]; simp [pieceO]
theorem piece_is {l : List (Int × Int × Int)} (hg : chGood l = true) : ∀ (xs : List Int), (∀ x ∈ xs, valB x = true) → (chainL l xs = if pieceF l xs then none else some (pieceO l xs))
  | [], _ => by simp [pieceF, pieceO, chain_empty]
  | x :: r, hv => by
    have ih := piece_is hg r (fun y hy => hv y (List.mem_cons_of_mem _ hy))
    have hx := hv x (by simp)
    rw [show x :: r = [x] ++ r from rfl, chain_append, ih]
    rcases hc : chainL l [x] with _ | y
    · have e := chR_fail hg hx hc
      simp [pieceF, e]
    · have e := chR_some hg hx hc
      rcases hf : pieceF l r with _ | _
      · have h1 : pieceF l ([x] ++ r) = false := by simp [pieceF, e] at hf ⊢; exact hf
        rw [h1]; simp [pieceO, e]
      · have h1 : pieceF l ([x] ++ r) = true := by simp [pieceF, e] at hf ⊢; exact hf
        rw [h1]; rfl
theorem chGood_take {l : List (Int × Int × Int)} (h : chGood l = true) (k : Nat) : chGood (l.take k) = true := by
  obtain ⟨h8, ha⟩ := chGood_all h
  simp only [chGood, Bool.and_eq_true, decide_eq_true_eq, List.all_eq_true]
  exact ⟨by simp; omega, fun s hs => ha s (List.mem_of_mem_take hs)⟩
theorem chGood_drop {l : List (Int × Int × Int)} (h : chGood l = true) (k : Nat) : chGood (l.drop k) = true := by
  obtain ⟨h8, ha⟩ := chGood_all h
  simp only [chGood, Bool.and_eq_true, decide_eq_true_eq, List.all_eq_true]
  exact ⟨by simp; omega, fun s hs => ha s (List.mem_of_mem_drop hs)⟩
/-- A chain cut in two pieces does what the chain does. -/
theorem two_pieces {l : List (Int × Int × Int)} {v : Int} (h : (chR l v).2.2 = true) (k : Nat) :
    ((chR (l.take k) v).2.1 || pieceF (l.drop k) (chR (l.take k) v).1) = (chR l v).2.1 ∧ ((chR l v).2.1 = false → pieceO (l.drop k) (chR (l.take k) v).1 = (chR l v).1) ∧ (chR (l.take k) v).1.length ≤ 6561 := by
  have hg : chGood l = true := by
    rcases hc : chGood l with _ | _
    · rw [chR_no1 hc] at h; cases h
    · rfl
  have hv : valB v = true := by
    rcases hc : valB v with _ | _
    · rw [chR_no2 hc] at h; cases h
    · rfl
  have hsp := chain_split (l.take k) (l.drop k) [v]
  rw [List.take_append_drop] at hsp
  refine ⟨?_, ?_, chR_len _ _⟩
  · rcases hc : chainL (l.take k) [v] with _ | x
    · rw [hc] at hsp
      rw [chR_fail (chGood_take hg k) hv hc, chR_fail hg hv hsp]; rfl
    · rw [hc] at hsp
      have hx := chain_vals hg hv hc
      have hp := piece_is (chGood_drop hg k) x hx
      rw [chR_some (chGood_take hg k) hv hc]
      rcases hf : pieceF (l.drop k) x with _ | _
      · rw [hf] at hp
        rw [chR_some hg hv (hsp.trans hp)]; simp
      · rw [hf] at hp
        rw [chR_fail hg hv (hsp.trans hp)]; simp
  · intro hn
    rcases hc : chainL (l.take k) [v] with _ | x
    · rw [hc] at hsp
      rw [chR_fail hg hv hsp] at hn; cases hn
    · rw [hc] at hsp
      have hx := chain_vals hg hv hc
      have hp := piece_is (chGood_drop hg k) x hx
      rw [chR_some (chGood_take hg k) hv hc]
      rcases hf : pieceF (l.drop k) x with _ | _
      · rw [hf] at hp
        rw [chR_some hg hv (hsp.trans hp)]
      · rw [hf] at hp
        rw [chR_fail hg hv (hsp.trans hp)] at hn; cases hn
theorem pieceO_len (l : List (Int × Int × Int)) (xs : List Int) : (pieceO l xs).length ≤ 6561 * xs.length := by
  induction xs with
  | nil => simp [pieceO]
  | cons x r ih =>
    have h1 := chR_len l x
    simp only [pieceO, List.flatMap_cons, List.length_append, List.length_cons] at ih ⊢
    omega
/-- How often a number is there. -/
def cnt (x : Int) (l : List Int) : Nat := l.count x
theorem cnt_take (x : Int) {l : List Int} {j : Nat} (h : j < l.length) : cnt x (l.take (j + 1)) = cnt x (l.take j) + (if el l j = x then 1 else 0) := by
  rw [take_succ_el h]
  unfold cnt
  rw [List.count_append]
  congr 1
  simp [List.count_singleton]
def cntL (x : Int) (ls : List (List Int)) : Nat := (ls.map (cnt x)).sum
theorem cntL_cons (x : Int) (l : List Int) (r : List (List Int)) : cntL x (l :: r) = cnt x l + cntL x r := by simp [cntL]
theorem cntL_nonE (x : Int) (ls : List (List Int)) : cntL x (nonE ls) = cntL x ls := by
  induction ls with
  | nil => rfl
  | cons l r ih =>
    unfold nonE at ih ⊢
    by_cases h : 0 < l.length
    · rw [List.filter_cons_of_pos (by simpa using h), cntL_cons, cntL_cons, ih]
    · have : l = [] := List.length_eq_zero_iff.1 (by omega)
      subst this
      rw [List.filter_cons_of_neg (by simp), cntL_cons, ih]
      simp [cnt]
theorem cntL_put (x : Int) : ∀ (ls : List (List Int)) (k : Nat) (y : Int), k < ls.length → cntL x (ls.set k (el ls k ++ [y])) = cntL x ls + (if y = x then 1 else 0)
  | [], k, y, h => by simp at h
  | l :: r, 0, y, _ => by
    rw [el_zero, List.set_cons_zero, cntL_cons, cntL_cons]
    simp only [cnt, List.count_append, List.count_singleton]
    by_cases h : y = x <;> simp [h] <;> omega
  | l :: r, k + 1, y, h => by
    rw [el_cons, List.set_cons_succ, cntL_cons, cntL_cons, cntL_put x r k y (by simpa using h)]; omega
theorem cntL_pop (x : Int) : ∀ (ls : List (List Int)) (k : Nat), k < ls.length → 0 < (el ls k).length → cntL x (ls.set k ((el ls k).drop 1)) + (if el (el ls k) 0 = x then 1 else 0) = cntL x ls
  | [], k, h, _ => by simp at h
  | l :: r, 0, _, h0 => by
    rw [el_zero] at h0 ⊢
    rw [List.set_cons_zero, cntL_cons, cntL_cons]
    cases l with
    | nil => simp at h0
    | cons a s =>
      simp only [List.drop_succ_cons, List.drop_zero, el_zero, cnt, List.count_cons]
      by_cases h : a = x <;> simp [h] <;> omega
  | l :: r, k + 1, h, h0 => by
    rw [el_cons] at h0 ⊢
    have := cntL_pop x r k (by simpa using h) h0
    rw [List.set_cons_succ, cntL_cons, cntL_cons]; omega
theorem deal_cnt {many t : Nat} (ht : t < many) (x : Int) (v : List Int) : ∀ k, k ≤ v.length → cntL x (deal many t (v.take k)).1 = cnt x (v.take k) := by
  intro k
  induction k with
  | zero => intro _; simp [deal, cntL, cnt]
  | succ k ih =>
    intro hk
    rw [deal_take (by omega), cnt_take x (by omega), ← ih (by omega)]
    simp only [dealStep]
    rw [cntL_put x _ _ _ (by rw [deal_len ht]; exact deal_lt ht _)]
theorem mrun_cnt (x : Int) (ds : List Int) (ls : List (List Int)) : ∀ n, n ≤ tot ls → cnt x (mrun ds ([], nonE ls) n).1 + cntL x (mrun ds ([], nonE ls) n).2 = cntL x ls
  | 0, _ => by simp [mrun, cntL_nonE, cnt]
  | n + 1, h => by
    have ih := mrun_cnt x ds ls n (by omega)
    have htt := mrun_tot ds ls n (by omega)
    have hp := mplace_lt (ds := ds) (s := mrun ds ([], nonE ls) n) (tot_pos (by omega))
    have ha := mrun_all ds ls n _ (el_mem hp)
    have h1 := cntL_pop x _ _ hp ha
    rw [mrun, mstep]
    dsimp only
    rw [cntL_nonE]
    have h2 : cnt x ((mrun ds ([], nonE ls) n).1 ++ [el (el (mrun ds ([], nonE ls) n).2 (mplace ds (mrun ds ([], nonE ls) n))) 0]) = cnt x (mrun ds ([], nonE ls) n).1 + (if el (el (mrun ds ([], nonE ls) n).2 (mplace ds (mrun ds ([], nonE ls) n))) 0 = x then 1 else 0) := by
      simp [cnt, List.count_append, List.count_singleton]
    rw [h2]; omega
theorem mg_cnt (x : Int) (ds : List Int) (ls : List (List Int)) : cnt x (mg ls ds) = cntL x ls := by
  have h := mrun_cnt x ds ls (tot ls) (Nat.le_refl _)
  have ht := mrun_tot ds ls (tot ls) (Nat.le_refl _)
  have h0 : cntL x (mrun ds ([], nonE ls) (tot ls)).2 = 0 := by
    rcases hl : (mrun ds ([], nonE ls) (tot ls)).2 with _ | ⟨l, r⟩
    · rfl
    · have ha := mrun_all ds ls (tot ls) l (by rw [hl]; simp)
      rw [hl, tot_cons] at ht; omega
  unfold mg; omega
/-- What was dealt and merged are the same numbers. -/
theorem same_numbers {v : List Int} {n t : Nat} (ht : t < n) (x : Int) : cnt x (mg (deal n t v).1 []) = cnt x v := by
  rw [mg_cnt]
  have := deal_cnt ht x v v.length (Nat.le_refl _)
  rwa [List.take_length] at this
end Go.Proofs.Ytnjnnilmelmmgaa
