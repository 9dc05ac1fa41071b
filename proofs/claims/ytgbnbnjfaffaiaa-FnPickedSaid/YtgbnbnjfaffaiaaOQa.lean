
/- Pick's small callees: the place drawn, a task passed over. No conditions but those written. -/
import Derived.Test.YtgbnbnjfaffaiaaOKe
import Derived.Test.YtgbnbnjfaffaiaaOSc
namespace Go.Proofs.Ytgbnbnjfaffaiaa.Old
open Go.RowKit

theorem mod_neg (a n : Int) (hn : 0 < n) (h : a.tmod n < 0) : a % n = a.tmod n + n := by
  have h2 : -n < a.tmod n := by have := Int.lt_tmod_of_pos a hn; omega
  have e : a = n * a.tdiv n + a.tmod n := (Int.mul_tdiv_add_tmod a n).symm
  have : a % n = (a.tmod n + n) % n := by
    conv => lhs; rw [e]
    rw [Int.add_emod_right, Int.mul_add_emod_self_left]
  rw [this, Int.emod_eq_of_lt (by omega) (by omega)]
theorem mod_pos (a n : Int) (hn : 0 < n) (h : ¬ a.tmod n < 0) : a % n = a.tmod n := by
  have h1 : a.tmod n < n := Int.tmod_lt_of_pos a hn
  have e : a = n * a.tdiv n + a.tmod n := (Int.mul_tdiv_add_tmod a n).symm
  have : a % n = (a.tmod n) % n := by
    conv => lhs; rw [e]
    rw [Int.mul_add_emod_self_left]
  rw [this, Int.emod_eq_of_lt (by omega) (by omega)]

set_option maxHeartbeats 1000000 in
theorem l1Mod_any (a n : Int) (w : World) (hn : 0 < n) (hn2 : n ≤ 1048576) :
    Calls Try.prog 26 #[.int .i64 a, .int .i64 n] w fun e w' => e = .returned (.int .i64 (a % n)) ∧ w' = w := by
  have h1 : a.tmod n < n := Int.tmod_lt_of_pos a hn
  have h2 : -n < a.tmod n := by have := Int.lt_tmod_of_pos a hn; omega
  have hne : n ≠ 0 := by omega
  go_enter Try.func26, Try.ntmps26
  by_cases h : a.tmod n < 0
  · rw [mod_neg a n hn h]
    go_wp2
    go_ret
    exact ⟨rfl, rfl⟩
  · rw [mod_pos a n hn h]
    go_wp2
    go_ret
    exact ⟨rfl, rfl⟩
set_option maxHeartbeats 1000000 in
theorem modulo_any (a n : Int) (w : World) (hn : 0 < n) (hn2 : n ≤ 1048576) :
    Calls Try.prog 17 #[.int .i64 a, .int .i64 n] w fun e w' => e = .returned (.int .i64 (a % n)) ∧ w' = w := by
  have h1 : a.tmod n < n := Int.tmod_lt_of_pos a hn
  have h2 : -n < a.tmod n := by have := Int.lt_tmod_of_pos a hn; omega
  have hne : n ≠ 0 := by omega
  go_enter Try.func17, Try.ntmps17
  by_cases h : a.tmod n < 0
  · rw [mod_neg a n hn h]
    go_wp2
    go_ret
    exact ⟨rfl, rfl⟩
  · rw [mod_pos a n hn h]
    go_wp2
    go_ret
    exact ⟨rfl, rfl⟩

def passV (p : Int) : Int := if p < 1000000 then p + 1 else p
set_option maxHeartbeats 1000000 in
theorem passOver_any (s p : Int) (w : World) (hp : 0 ≤ p) :
    Calls Try.prog 22 #[.agg #[.int .i64 s, .int .i64 p]] w fun e w' => e = .returned (.agg #[.int .i64 s, .int .i64 (passV p)]) ∧ w' = (w.alloc (.cells #[.int .i64 s, .int .i64 (passV p)] 34)).alloc (.cells #[.int .i64 s, .int .i64 (passV p)] 34) := by
  go_enter Try.func22, Try.ntmps22
  by_cases h : p < 1000000
  · have e : passV p = p + 1 := if_pos h
    rw [e]
    go_wp2
    exact bodyPost_ret (v := .agg #[.int .i64 s, .int .i64 (p + 1)]) (by simp [results, Try.results22, go_sem]) rfl ⟨rfl, rfl⟩
  · have e : passV p = p := if_neg h
    rw [e]
    go_wp2
    exact bodyPost_ret (v := .agg #[.int .i64 s, .int .i64 p]) (by simp [results, Try.results22, go_sem]) rfl ⟨rfl, rfl⟩

/-- The tasks with number x passed over once more. -/
def bump (ts : List (Int × Int)) (x : Int) : List (Int × Int) := ts.set x.toNat ((ts[x.toNat]?.getD (0, 0)).1, passV (ts[x.toNat]?.getD (0, 0)).2)
def bumps (ts : List (Int × Int)) (q : List Int) : List (Int × Int) := q.foldl bump ts
theorem bump_len (ts : List (Int × Int)) (x : Int) : (bump ts x).length = ts.length := by simp [bump]
theorem bumps_len : ∀ (q : List Int) (ts : List (Int × Int)), (bumps ts q).length = ts.length
  | [], _ => rfl
  | x :: q, ts => (bumps_len q (bump ts x)).trans (bump_len ts x)
theorem bumps_snoc (ts : List (Int × Int)) (q : List Int) (x : Int) : bumps ts (q ++ [x]) = bump (bumps ts q) x := by simp [bumps]
theorem bump_set (ts : List (Int × Int)) (x : Int) (id : Nat) (v : Int × Int) (h : x.toNat ≠ id) : bump (ts.set id v) x = (bump ts x).set id v := by
  unfold bump
  rw [List.getElem?_set_ne (fun e => h e.symm), List.set_comm _ _ h]
theorem bumps_set (id : Nat) (v : Int × Int) : ∀ (q : List Int) (ts : List (Int × Int)), (∀ x ∈ q, x.toNat ≠ id) → bumps (ts.set id v) q = (bumps ts q).set id v
  | [], _, _ => rfl
  | x :: q, ts, h => by
    show bumps (bump (ts.set id v) x) q = (bumps (bump ts x) q).set id v
    rw [bump_set ts x id v (h x (by simp)), bumps_set id v q (bump ts x) (fun y hy => h y (by simp [hy]))]
/-- All counts are at least zero. -/
def Pos (ts : List (Int × Int)) : Prop := ∀ j : Nat, 0 ≤ (ts[j]?.getD (0, 0)).2
theorem passV_pos {p : Int} (h : 0 ≤ p) : 0 ≤ passV p := by unfold passV; split <;> omega
theorem Pos.set {ts : List (Int × Int)} (h : Pos ts) (i : Nat) (v : Int × Int) (hv : 0 ≤ v.2) : Pos (ts.set i v) := by
  intro j
  rw [List.getElem?_set]
  split
  · split
    · exact hv
    · simp
  · exact h j
theorem Pos.bump {ts : List (Int × Int)} (h : Pos ts) (x : Int) : Pos (bump ts x) := h.set _ _ (passV_pos (h _))
theorem Pos.bumps : ∀ (q : List Int) {ts : List (Int × Int)}, Pos ts → Pos (bumps ts q)
  | [], _, h => h
  | x :: q, _, h => Pos.bumps q (h.bump x)

/-- What PickTask answers. -/
def pickR (iv : Int) (ts : List (Int × Int)) (q : List Int) : List (Int × Int) × List Int × Int × Int :=
  if specGoodB ts q = true then (if 0 ≤ runI ts then (ts, q, 0, 3) else if q.length = 0 then (ts, q, 0, 2) else
    ((bumps ts (wout q (q[(iv % (q.length : Int)).toNat]?.getD 0))).set (q[(iv % (q.length : Int)).toNat]?.getD 0).toNat (2, 0), wout q (q[(iv % (q.length : Int)).toNat]?.getD 0), q[(iv % (q.length : Int)).toNat]?.getD 0, 0)) else ([], [], 0, 1)
theorem pickR_len (iv : Int) (ts : List (Int × Int)) (q : List Int) (h1 : ts.length ≤ 1048576) (h2 : q.length ≤ 1048576) : (pickR iv ts q).1.length ≤ 1048576 ∧ (pickR iv ts q).2.1.length ≤ 1048576 := by
  unfold pickR
  split
  · split
    · exact ⟨h1, h2⟩
    · split
      · exact ⟨h1, h2⟩
      · exact ⟨by simp [bumps_len]; omega, Nat.le_trans (wout_len _ _) h2⟩
  · simp
theorem good_pos (ts : List (Int × Int)) (q : List Int) (hg : specGoodB ts q = true) : Pos ts := by
  have h := ((good_iff ts q).2 hg).2.1
  simp only [goodTasksB, Bool.and_eq_true, List.all_eq_true] at h
  intro j
  by_cases hj : j < ts.length
  · have := h.1 ts[j] (List.getElem_mem hj)
    simp only [List.getElem?_eq_getElem hj, Option.getD_some]
    unfold goodTaskB at this
    split at this
    · simp at this; exact this.1
    · split at this
      · simp at this; omega
      · cases this
  · simp [hj]
theorem pick_place (iv : Int) (n : Nat) (h : n ≠ 0) : (iv % (n : Int)).toNat < n ∧ iv % (n : Int) = ((iv % (n : Int)).toNat : Int) := by
  have h1 := Int.emod_nonneg iv (show (n : Int) ≠ 0 by omega)
  have h2 := Int.emod_lt_of_pos iv (show (0 : Int) < n by omega)
  omega
theorem pick_find (q : List Int) (j : Nat) (hj : j < q.length) (hn : q.Nodup) : q.findIdx? (fun x => x == q[j]?.getD 0) = some j := by
  refine place_some q _ j hj rfl fun i hi e => ?_
  have hi' : i < q.length := by omega
  simp only [List.getElem?_eq_getElem hj, List.getElem?_eq_getElem hi', Option.getD_some] at e
  exact (List.pairwise_iff_getElem.1 hn) i j hi' hj hi e
theorem wout_mem {q : List Int} {n x : Int} (h : x ∈ wout q n) : x ∈ q ∧ x ≠ n := by
  rw [wout, List.mem_filter] at h
  exact ⟨h.1, by simpa using h.2⟩
theorem mem_at {q : List Int} {k : Nat} (h : k < q.length) : q[k]?.getD 0 ∈ q := by
  rw [List.getElem?_eq_getElem h, Option.getD_some]; exact List.getElem_mem h
end Go.Proofs.Ytgbnbnjfaffaiaa.Old
