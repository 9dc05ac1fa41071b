
/- A queue of timers with one more; who may arm. No conditions but those written. -/
import Derived.Test.YtpbgkkemaioidaaODh
namespace Go.Proofs.Ytpbgkkemaioidaa.Old
open Go.RowKit

theorem run_copy_part {P : Program} (w : World) (dT sT ty elem : TypeId) (g dLen dCap : Nat) (a : Addr) (sLen sCap : Nat) (cur : Array Value) (t : TypeId) (cs : List Value) (sz n : Nat)
    (hu : P.underlying dT = some (.slice elem)) (hs : (P.info? elem).map (·.size) = some sz) (hg : w.heap[g]? = some (.cells cur t (0, 0))) (hnm : Nat.min sLen dLen = n) (hn : cs.length = n * sz)
    (hsrc : ∀ j v, cs[j]? = some v → w.cell? (a.add j) = some v) (hfit : cs.length ≤ cur.size) (h1 : ∀ v ∈ cs, v.oneCell' = true) :
    (Builtin.copy_ #[dT, sT] ty #[.slice (some ⟨g, 0, none⟩) dLen dCap, .slice (some a) sLen sCap]).run P w = .ok (goInt n) (w.setRow g (cs ++ cur.toList.drop cs.length).toArray) := by
  have hl := run_loadCells_list (P := P) w a cs hsrc
  have hst := run_storeCells_at P g 0 t cs 0 cur w hg (by omega) h1
  cases hq : P.info? elem with
  | none => simp [hq] at hs
  | some i =>
    have hi : i.size = sz := by simpa [hq] using hs
    simp only [Nat.zero_add, List.take_zero, List.nil_append] at hst
    simp [Builtin.copy_, run_underlying hu, Builtin.lenOf, Builtin.firstCells, sizeOf, typeInfo, hq, hi, hnm, ← hn, hl, hst]
theorem run_copy_zero {P : Program} (w : World) (dT sT ty elem : TypeId) (sz : Nat) (d a : Option Addr) (dLen dCap sLen sCap : Nat) (hu : P.underlying dT = some (.slice elem)) (hs : (P.info? elem).map (·.size) = some sz) (hn : Nat.min sLen dLen = 0) :
    (Builtin.copy_ #[dT, sT] ty #[.slice d dLen dCap, .slice a sLen sCap]).run P w = .ok (goInt 0) w := by
  cases hq : P.info? elem with
  | none => simp [hq] at hs
  | some i =>
    have hl : ∀ (x : Addr), (loadCells x 0).run P w = .ok #[] w := fun x => by simpa using run_loadCells_list (P := P) w x [] (by simp)
    cases d <;> cases a <;> simp [Builtin.copy_, run_underlying hu, Builtin.lenOf, Builtin.firstCells, sizeOf, typeInfo, hq, hn, storeCells, hl]
theorem with_end {w1 : World} {g lo : Nat} {cur xs : List Value} {ts : List T3} {t : T3} (hcur : w1.heap[g]? = some (.cells cur.toArray 49 (0, 0))) (hb : lo ≤ g) (hl : ts.length ≤ 2097152) (hx : xs.length = ts.length * 3 + 3) (hp : xs.take (ts.length * 3) = tcells ts) (hc : cur = ((xs.set (ts.length * 3) (.int .i64 t.1)).set (ts.length * 3 + 1) (.int .i64 t.2.1)).set (ts.length * 3 + 2) (.int .i64 t.2.2)) :
    FreshC lo (g + 1) w1 (some ⟨g, 0, none⟩) (ts.length + 1) (ts ++ [t]) := by
  have e : cur = tcells (ts ++ [t]) := by
    rw [hc, tcells_app, ← hp]
    apply List.ext_getElem?
    intro j
    simp only [List.getElem?_set, List.length_set]
    have hlt : (xs.take (ts.length * 3)).length = ts.length * 3 := by simp; omega
    by_cases h2 : j < ts.length * 3
    · rw [if_neg (by omega), if_neg (by omega), if_neg (by omega), List.getElem?_append_left (by omega), List.getElem?_take, if_pos h2]
    · rw [List.getElem?_append_right (by omega), hlt]
      rcases (show j = ts.length * 3 ∨ j = ts.length * 3 + 1 ∨ j = ts.length * 3 + 2 ∨ ts.length * 3 + 2 < j from by omega) with e | e | e | e
      · subst e; rw [if_neg (by omega), if_neg (by omega), if_pos rfl, if_pos (by omega)]; simp [tcells]
      · subst e; rw [if_neg (by omega), if_pos rfl, if_pos (by omega)]; simp [tcells]
      · subst e; rw [if_pos rfl, if_pos (by omega)]; simp [tcells]
      · rw [if_neg (by omega), if_neg (by omega), if_neg (by omega), List.getElem?_eq_none (by omega), List.getElem?_eq_none (by simp [tcells]; omega)]
  subst e
  refine .inr ⟨g, tcells (ts ++ [t]), rfl, by omega, ⟨tcells_len _, .inr ⟨g, ts.length + 1, (tcells (ts ++ [t])).toArray, by simp, hb, hcur, by simp, by unfold maxLen; omega, by simp [tcells_len], by simp [List.take_of_length_le, tcells_len]⟩⟩, tcells_at _⟩
theorem with_copy {w w1 : World} {g n cap m : Nat} {ao : Option Addr} {cur : List Value} {ts : List T3} (hcur : w1.heap[g]? = some (.cells cur.toArray 49 (0, 0))) (hcl : cur.length = ts.length * 3 + 3) (hB : Below m w w1) (hz : TimersIn m w ao ts) :
    ∃ (W3 : World) (xs : List Value), (Builtin.copy_ #[23, 23] 3 #[.slice (some ⟨g, 0, none⟩) (ts.length + 1) n, .slice ao ts.length cap]).run Try.prog w1 = .ok (goInt ts.length) W3 ∧ W3.heap[g]? = some (.cells xs.toArray 49 (0, 0)) ∧ xs.length = ts.length * 3 + 3 ∧ xs.take (ts.length * 3) = tcells ts ∧ OnlyAt (some ⟨g, 0, none⟩) w1 W3 := by
  rcases hz with rfl | ⟨b, off, rfl, hb, hc⟩
  · exact ⟨w1, cur, run_copy_zero (P := Try.prog) w1 23 23 3 49 3 _ _ _ _ _ _ Try.underlying23 Try.size49 (by simp), hcur, hcl, by simp [tcells], OnlyAt.refl _ _⟩
  · refine ⟨_, _, run_copy_part (P := Try.prog) w1 23 23 3 49 g (ts.length + 1) n ⟨b, off, none⟩ ts.length cap cur.toArray 49 (tcells ts) 3 ts.length Try.underlying23 Try.size49 hcur (by simp) (tcells_len ts) (tcells_src hB hb hc) (by simp [tcells_len, hcl]) (tcells_one ts), setRow_heap w1 g _ _ 49 _ hcur, by simp [tcells_len, hcl] <;> omega, by rw [List.take_append_of_le_length (by rw [tcells_len]; exact Nat.le_refl _), List.take_of_length_le (by rw [tcells_len]; exact Nat.le_refl _)], ?_⟩
    exact ⟨rfl, rfl, rfl, by simp [World.setRow], fun k hk => setRow_other w1 g k _ (hk g rfl)⟩
theorem OnlyAt.cell {g : Nat} {w w' : World} (h : OnlyAt (some ⟨g, 0, none⟩) w w') (b o : Nat) (hne : b ≠ g) : w'.cell? ⟨b, o, none⟩ = w.cell? ⟨b, o, none⟩ := World.cell?_of_block (a := ⟨b, o, none⟩) (h.block b fun g' e => by cases e; exact hne)
theorem OnlyAt.frozen {g : Nat} {w w' : World} (h : OnlyAt (some ⟨g, 0, none⟩) w w') (b o : Nat) (hne : b ≠ g) : w'.frozen? ⟨b, o, none⟩ = w.frozen? ⟨b, o, none⟩ := World.frozen?_of_block (a := ⟨b, o, none⟩) (h.block b fun g' e => by cases e; exact hne)

/-- Who may arm. -/
def mayB (now sq : Int) (ts : List T3) : Bool := goodB now sq ts && decide (sq < 1000000)
end Go.Proofs.Ytpbgkkemaioidaa.Old
