
/- Queues of tasks: the program's copies with one more. No conditions but those written. -/
import Derived.Test.YtgbnbnjfaffaiaaOMh
namespace Go.Proofs.Ytgbnbnjfaffaiaa.Old
open Go.RowKit

theorem run_copy_part {P : Program} (w : World) (dT sT ty elem : TypeId) (g dLen dCap : Nat) (a : Addr) (sLen sCap : Nat) (cur : Array Value) (t : TypeId) (cs : List Value) (sz n : Nat)
    (hu : P.underlying dT = some (.slice elem)) (hs : (P.info? elem).map (·.size) = some sz) (hg : w.heap[g]? = some (.cells cur t (0, 0))) (hnm : Nat.min sLen dLen = n) (hn : cs.length = n * sz)
    (hsrc : ∀ j v, cs[j]? = some v → w.cell? (a.add j) = some v) (hfit : cs.length ≤ cur.size) (h1 : ∀ v ∈ cs, v.oneCell' = true) :
    (Builtin.copy_ #[dT, sT] ty #[.slice (some ⟨g, 0, none⟩) dLen dCap, .slice (some a) sLen sCap]).run P w = .ok (goInt n) (w.setRow g (cs ++ cur.toList.drop cs.length).toArray) := by
  have hl := run_loadCells_list (P := P) w a cs hsrc
  have hst := run_storeCells_at P g 0 t cs 0 cur w hg (by omega) h1
  cases hq : P.info? elem with
  | none => simp [hq] at hs
  | some i =>
    have hi : i.size = sz := by simpa [hq] using hs
    simp only [Nat.zero_add, List.take_zero, List.nil_append] at hst
    simp [Builtin.copy_, run_underlying hu, Builtin.lenOf, Builtin.firstCells, sizeOf, typeInfo, hq, hi, hnm, ← hn, hl, hst]
theorem run_copy_zero {P : Program} (w : World) (dT sT ty elem : TypeId) (d a : Option Addr) (dLen dCap sCap sz : Nat) (hu : P.underlying dT = some (.slice elem)) (hs : (P.info? elem).map (·.size) = some sz) :
    (Builtin.copy_ #[dT, sT] ty #[.slice d dLen dCap, .slice a 0 sCap]).run P w = .ok (goInt 0) w := by
  cases hq : P.info? elem with
  | none => simp [hq] at hs
  | some i =>
    have hl : ∀ (x : Addr), (loadCells x 0).run P w = .ok #[] w := fun x => by simpa using run_loadCells_list (P := P) w x [] (by simp)
    cases d <;> cases a <;> simp [Builtin.copy_, run_underlying hu, Builtin.lenOf, Builtin.firstCells, sizeOf, typeInfo, hq, hl, storeCells]

theorem withT_copy {w w1 : World} {g n cap m : Nat} {ao : Option Addr} {cur : List Value} {ts : List (Int × Int)} (hcur : w1.heap[g]? = some (.cells cur.toArray 34 (0, 0))) (hcl : cur.length = (ts.length + 1) * 2) (hB : Below m w w1) (hz : TasksIn m w ao ts) :
    ∃ (W3 : World) (xs : List Value), (Builtin.copy_ #[23, 23] 3 #[.slice (some ⟨g, 0, none⟩) (ts.length + 1) n, .slice ao ts.length cap]).run Try.prog w1 = .ok (goInt ts.length) W3 ∧ W3.heap[g]? = some (.cells xs.toArray 34 (0, 0)) ∧ xs.length = (ts.length + 1) * 2 ∧ xs.take (ts.length * 2) = tcells ts ∧ OnlyAt (some ⟨g, 0, none⟩) w1 W3 := by
  rcases hz with rfl | ⟨b, off, rfl, hb, hc⟩
  · exact ⟨w1, cur, run_copy_zero w1 23 23 3 34 _ _ _ _ _ 2 Try.underlying23 Try.size34, hcur, hcl, by simp [tcells], OnlyAt.refl _ _⟩
  · refine ⟨_, _, run_copy_part w1 23 23 3 34 g (ts.length + 1) n ⟨b, off, none⟩ ts.length cap cur.toArray 34 (tcells ts) 2 ts.length Try.underlying23 Try.size34 hcur (by simp) (tcells_len ts) (tcells_src hB hb hc) (by simp [tcells_len, hcl]; omega) (tcells_one ts), setRow_heap w1 g _ _ 34 _ hcur, by simp [tcells_len, hcl]; omega, ?_, ?_⟩
    · rw [← tcells_len ts]; simp
    · exact ⟨rfl, rfl, rfl, by simp [World.setRow], fun k hk => setRow_other w1 g k _ (hk g rfl)⟩

theorem tcells_append (a b : List (Int × Int)) : tcells (a ++ b) = tcells a ++ tcells b := by
  induction a with
  | nil => rfl
  | cons t r ih => simp [tcells, ih]
theorem withT_end {w1 : World} {g lo : Nat} {xs : List Value} {ts : List (Int × Int)} {s p : Int} (hcur : w1.heap[g]? = some (.cells ((xs.set (ts.length * 2) (.int .i64 s)).set (ts.length * 2 + 1) (.int .i64 p)).toArray 34 (0, 0))) (hb : lo ≤ g) (hl : ts.length ≤ 2097152) (hx : xs.length = (ts.length + 1) * 2) (hp : xs.take (ts.length * 2) = tcells ts) :
    FreshT lo (g + 1) w1 (some ⟨g, 0, none⟩) (ts.length + 1) (ts ++ [(s, p)]) := by
  have e : (xs.set (ts.length * 2) (.int .i64 s)).set (ts.length * 2 + 1) (.int .i64 p) = tcells (ts ++ [(s, p)]) := by
    rw [tcells_append, ← hp]
    have e2 : tcells [(s, p)] = [.int .i64 s, .int .i64 p] := rfl
    rw [e2]
    apply List.ext_getElem?
    intro j
    simp only [List.getElem?_set, List.length_set]
    by_cases h1 : ts.length * 2 + 1 = j
    · subst h1
      rw [if_pos rfl, if_pos (by omega), List.getElem?_append_right (by simp; omega)]
      simp [hx]
    · rw [if_neg h1]
      by_cases h2 : ts.length * 2 = j
      · subst h2
        rw [if_pos rfl, if_pos (by omega), List.getElem?_append_right (by simp; omega)]
        simp [hx]
      · rw [if_neg h2]
        by_cases h3 : j < ts.length * 2
        · rw [List.getElem?_append_left (by simp; omega), List.getElem?_take, if_pos h3]
        · rw [List.getElem?_eq_none (by omega), List.getElem?_eq_none (by simp; omega)]
  rw [e] at hcur
  refine .inr ⟨g, tcells (ts ++ [(s, p)]), rfl, by omega, ⟨tcells_len _, .inr ⟨g, ts.length + 1, _, by simp, hb, hcur, by simp, by unfold maxLen; omega, by simp [tcells_len], by simp [List.take_of_length_le, tcells_len]⟩⟩, tcells_at _⟩

end Go.Proofs.Ytgbnbnjfaffaiaa.Old
