
/- slices.Insert of a Sub into a row that has no room. No conditions but those written. -/
import Derived.Test.YtimkadnnhfllnaaTe
import Derived.Lib.AppendZerosOnto
import Derived.Shelf.Spec.SlicesInsert
import Derived.Deep.RegionLaw
namespace Go.Proofs.Ytimkadnnhfllnaa
open Go.RowKit

theorem run_copy_mid {P : Program} (w : World) (dT sT ty elem : TypeId) (g j dLen dCap : Nat) (a : Addr) (sLen sCap : Nat) (cur : List Value) (t : TypeId) (cs : List Value) (sz n : Nat)
    (hu : P.underlying dT = some (.slice elem)) (hs : (P.info? elem).map (·.size) = some sz) (hg : w.heap[g]? = some (.cells cur.toArray t (0, 0))) (hnm : Nat.min sLen dLen = n) (hn : cs.length = n * sz)
    (hsrc : ∀ j v, cs[j]? = some v → w.cell? (a.add j) = some v) (hfit : j + cs.length ≤ cur.length) (h1 : ∀ v ∈ cs, v.oneCell' = true) :
    (Builtin.copy_ #[dT, sT] ty #[.slice (some ⟨g, j, none⟩) dLen dCap, .slice (some a) sLen sCap]).run P w = .ok (goInt n) (w.setRow g (cur.take j ++ cs ++ cur.drop (j + cs.length)).toArray) := by
  have hl := run_loadCells_list (P := P) w a cs hsrc
  have hst := run_storeCells_at P g j t cs 0 cur.toArray w hg (by simpa using hfit) h1
  cases hq : P.info? elem with
  | none => simp [hq] at hs
  | some i =>
    have hi : i.size = sz := by simpa [hq] using hs
    simp only [Nat.add_zero] at hst
    simp [Builtin.copy_, run_underlying hu, Builtin.lenOf, Builtin.firstCells, sizeOf, typeInfo, hq, hi, hnm, ← hn, hl, hst]
theorem zeros_len (n : Nat) : (Builtin.zeroCells (Value.cells (.agg #[.int .i64 0, .int .i64 0, .bool false, .int .i64 0, .slice none 0 0])) n).toList.length = n * 5 := by simp [Builtin.zeroCells, Value.cells]
/-- The row behind the three writings. -/
theorem ins_row {cs vs za zb : List Value} {k m : Nat} (hc : cs.length = m) (hk : k ≤ m) (hv : vs.length = 5) (hz : za.length = m - k + 5) :
    (((cs.take k ++ za ++ zb).take k ++ vs ++ (cs.take k ++ za ++ zb).drop (k + vs.length)).take (k + 5) ++ cs.drop k ++ ((cs.take k ++ za ++ zb).take k ++ vs ++ (cs.take k ++ za ++ zb).drop (k + vs.length)).drop (k + 5 + (cs.drop k).length)) = cs.take k ++ vs ++ cs.drop k ++ zb := by
  have hkl : (cs.take k).length = k := by simp; omega
  have e1 : (cs.take k ++ za ++ zb).take k = cs.take k := by rw [List.append_assoc, List.take_left' hkl]
  have e2 : (cs.take k ++ za ++ zb).drop (k + vs.length) = za.drop 5 ++ zb := by
    rw [hv, List.append_assoc, ← List.drop_drop, List.drop_left' hkl, List.drop_append_of_le_length (by omega)]
  have hkv : (cs.take k ++ vs).length = k + 5 := by simp [hv]; omega
  rw [e1, e2, List.take_left' hkv]
  have e3 : (cs.take k ++ vs ++ (za.drop 5 ++ zb)).drop (k + 5 + (cs.drop k).length) = zb := by
    rw [← List.drop_drop, List.drop_left' hkv, ← List.append_nil (za.drop 5), List.append_assoc, List.nil_append, List.drop_left' (by simp; omega)]
  rw [e3]
end Go.Proofs.Ytimkadnnhfllnaa
