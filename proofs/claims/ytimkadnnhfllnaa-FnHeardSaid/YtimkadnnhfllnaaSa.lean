
/- Subscribe, the program. No conditions but those written. -/
import Derived.Test.YtimkadnnhfllnaaTx
import Derived.Test.YtimkadnnhfllnaaTr
import Derived.Test.YtimkadnnhfllnaaIi
import Derived.Deep.Cut
namespace Go.Proofs.Ytimkadnnhfllnaa
open Go.RowKit

/-- What Subscribe answers. -/
def subR (sd : Int) (ps : List PSub) (id sz : Int) (dr : Bool) : Int × List PSub × Int :=
  if topicB sd ps && sizeB sz then
    if thB ps id then (sd, ps, 2)
    else if ps.length = 10 then (sd, ps, 3)
    else (sd, ps.take (pl ps id) ++ [((id, sz, dr, 0, []) : PSub)] ++ ps.drop (pl ps id), 0)
  else (0, [], 1)
/-- A topic in its own memory and a number, as an ending. -/
def AnsS (w : World) (r : Int × List PSub × Int) (e : Ending) (w' : World) : Prop := (∃ o c us, e = .returned (.tuple #[.agg #[.int .i64 r.1, .slice o r.2.1.length c], .int .i64 r.2.2]) ∧ us.map valSub = r.2.1 ∧ DFr dSub w.heap.size w'.heap.size w' o c us) ∧ Below w.heap.size w w'
theorem el_ins {us : List LSub} {x : LSub} {k j : Nat} (hk : k ≤ us.length) : el (us.take k ++ [x] ++ us.drop k) j = if j < k then el us j else if j = k then x else el us (j - 1) := by
  have hl : (us.take k).length = k := by simp; omega
  split
  · rename_i h
    rw [List.append_assoc, el_app_left (by rw [hl]; exact h), el_take h]
  · rename_i h
    split
    · rename_i h2
      subst h2
      rw [List.append_assoc]
      have := el_app_right (us.take j) ([x] ++ us.drop j) 0
      rw [hl, Nat.add_zero] at this
      rw [this]; exact el_zero _ _
    · rename_i h2
      have := el_app_right (us.take k ++ [x]) (us.drop k) (j - (k + 1))
      have hl2 : (us.take k ++ [x]).length = k + 1 := by simp; omega
      rw [hl2, show k + 1 + (j - (k + 1)) = j by omega, el_drop] at this
      rw [this]
      congr 1
      omega
theorem ins_fr {lo hi hi2 : Nat} {W : World} {o go : Option Addr} {c qc : Nat} {us : List LSub} {id sz : Int} {dr : Bool} {k : Nat} (h : DFr dSub lo hi W o c us) (hk : k ≤ us.length) (hH : hSub.Fresh lo hi2 W go qc (us.take k ++ [((id, sz, dr, 0, (none, 0, [])) : LSub)] ++ us.drop k)) (hh : hi ≤ hi2) : DFr dSub lo hi2 W go qc (us.take k ++ [((id, sz, dr, 0, (none, 0, [])) : LSub)] ++ us.drop k) := by
  have hll : (us.take k ++ [((id, sz, dr, 0, (none, 0, [])) : LSub)] ++ us.drop k).length = us.length + 1 := by simp; omega
  have hno : ∀ b, ¬ dSub.own ((id, sz, dr, 0, (none, 0, [])) : LSub) b := fun b hb => by have : 0 < ([] : List Int).length := hb.1; simp at this
  refine ⟨hH, fun j hj => ?_, fun i j hij hj b h1 h2 => ?_⟩
  · rw [hll] at hj
    rw [el_ins hk]
    split
    · exact dSub_ok.wide (h.2.1 j (by omega)) (Nat.le_refl _) hh
    · split
      · exact Kind.Fresh.nil kI lo hi2 W none 0
      · exact dSub_ok.wide (h.2.1 (j - 1) (by omega)) (Nat.le_refl _) hh
  · rw [hll] at hj
    rw [el_ins hk] at h1 h2
    split at h1
    · split at h2
      · exact h.2.2 i j hij (by omega) b h1 h2
      · split at h2
        · exact hno b h2
        · exact h.2.2 i (j - 1) (by omega) (by omega) b h1 h2
    · split at h1
      · exact hno b h1
      · rw [if_neg (by omega), if_neg (by omega)] at h2
        exact h.2.2 (i - 1) (j - 1) (by omega) (by omega) b h1 h2
theorem map_ins {us : List LSub} {ps : List PSub} {id sz : Int} {dr : Bool} {k : Nat} (h : us.map valSub = ps) : (us.take k ++ [((id, sz, dr, 0, (none, 0, [])) : LSub)] ++ us.drop k).map valSub = ps.take k ++ [((id, sz, dr, 0, []) : PSub)] ++ ps.drop k := by
  rw [List.map_append, List.map_append, List.map_take, List.map_drop, h]; rfl
end Go.Proofs.Ytimkadnnhfllnaa
