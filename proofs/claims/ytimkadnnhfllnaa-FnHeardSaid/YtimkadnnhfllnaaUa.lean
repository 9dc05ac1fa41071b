
/- Unsubscribe, the program. No conditions but those written. -/
import Derived.Test.YtimkadnnhfllnaaTx
import Derived.Test.YtimkadnnhfllnaaTr
import Derived.Test.YtimkadnnhfllnaaCj
import Derived.Test.YtimkadnnhfllnaaWs
import Derived.Test.YtimkadnnhfllnaaTn
import Derived.Test.YtimkadnnhfllnaaWb
import Derived.Deep.Cut
namespace Go.Proofs.Ytimkadnnhfllnaa
open Go.RowKit

/-- What Unsubscribe answers. -/
def unsR (sd : Int) (ps : List PSub) (id : Int) : Int × List PSub × List Int × Int :=
  if topicB sd ps then
    if thB ps id then (sd, ps.take (pl ps id) ++ ps.drop (pl ps id + 1), (el ps (pl ps id)).2.2.2.2, 0)
    else (sd, ps, [], 4)
  else (0, [], [], 1)
/-- A topic and a row of ints in their own memory, apart, and a number, as an ending. -/
def AnsU (w : World) (r : Int × List PSub × List Int × Int) (e : Ending) (w' : World) : Prop := (∃ o c us go qc, e = .returned (.tuple #[.agg #[.int .i64 r.1, .slice o r.2.1.length c], .slice go r.2.2.1.length qc, .int .i64 r.2.2.2]) ∧ us.map valSub = r.2.1 ∧ DFr dSub w.heap.size w'.heap.size w' o c us ∧ kI.Fresh w.heap.size w'.heap.size w' go qc r.2.2.1 ∧ Apart us go r.2.2.1) ∧ Below w.heap.size w w'
theorem apart_nil (us : List LSub) (go : Option Addr) : Apart us go [] := fun _ hb => absurd hb.1 (by simp)
theorem el_del {us : List LSub} {k j : Nat} (hk : k < us.length) : el (us.take k ++ us.drop (k + 1)) j = if j < k then el us j else el us (j + 1) := by
  have hl : (us.take k).length = k := by simp; omega
  split
  · rename_i h
    rw [el_app_left (by rw [hl]; exact h), el_take h]
  · rename_i h
    have := el_app_right (us.take k) (us.drop (k + 1)) (j - k)
    rw [hl, show k + (j - k) = j by omega, el_drop] at this
    rw [this]
    congr 1
    omega
theorem del_fr {lo hi hi2 : Nat} {W : World} {o go : Option Addr} {c qc : Nat} {us : List LSub} {k : Nat} (h : DFr dSub lo hi W o c us) (hk : k < us.length) (hH : hSub.Fresh lo hi2 W go qc (us.take k ++ us.drop (k + 1))) (hh : hi ≤ hi2) : DFr dSub lo hi2 W go qc (us.take k ++ us.drop (k + 1)) := by
  have hll : (us.take k ++ us.drop (k + 1)).length = us.length - 1 := by simp; omega
  refine ⟨hH, fun j hj => ?_, fun i j hij hj b h1 h2 => ?_⟩
  · rw [hll] at hj
    rw [el_del hk]
    split
    · exact dSub_ok.wide (h.2.1 j (by omega)) (Nat.le_refl _) hh
    · exact dSub_ok.wide (h.2.1 (j + 1) (by omega)) (Nat.le_refl _) hh
  · rw [hll] at hj
    rw [el_del hk] at h1 h2
    split at h1
    · split at h2
      · exact h.2.2 i j hij (by omega) b h1 h2
      · exact h.2.2 i (j + 1) (by omega) (by omega) b h1 h2
    · rw [if_neg (by omega)] at h2
      exact h.2.2 (i + 1) (j + 1) (by omega) (by omega) b h1 h2
theorem apart_del {lo hi : Nat} {W : World} {o : Option Addr} {c : Nat} {us : List LSub} {k : Nat} (h : DFr dSub lo hi W o c us) (hk : k < us.length) : Apart (us.take k ++ us.drop (k + 1)) (el us k).2.2.2.2.1 (el us k).2.2.2.2.2.2 := by
  intro b hb j hj ho
  have hll : (us.take k ++ us.drop (k + 1)).length = us.length - 1 := by simp; omega
  rw [hll] at hj
  rw [el_del hk] at ho
  split at ho
  · rename_i hjk
    exact h.2.2 j k hjk hk b ho hb
  · exact h.2.2 k (j + 1) (by omega) (by omega) b hb ho
theorem apart_new {lo hi lo2 hi2 : Nat} {W W' : World} {o go : Option Addr} {c qc : Nat} {us : List LSub} {xs : List Int} (h : DFr dSub lo hi W o c us) (hI : kI.Fresh lo2 hi2 W' go qc xs) (hh : hi ≤ lo2) : Apart us go xs := by
  intro b hb j hj ho
  have h1 := (hI.lt hb).1
  have h2 := (dSub_ok.lt (h.2.1 j hj) ho).2.1
  omega
theorem map_del {us : List LSub} {ps : List PSub} {k : Nat} (h : us.map valSub = ps) : (us.take k ++ us.drop (k + 1)).map valSub = ps.take k ++ ps.drop (k + 1) := by
  rw [List.map_append, List.map_take, List.map_drop, h]
end Go.Proofs.Ytimkadnnhfllnaa
