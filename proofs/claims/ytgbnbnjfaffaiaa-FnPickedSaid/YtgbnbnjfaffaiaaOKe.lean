
/- Kill, the program's. No conditions but those written. -/
import Derived.Test.YtgbnbnjfaffaiaaOKb
import Derived.Test.YtgbnbnjfaffaiaaOKd
namespace Go.Proofs.Ytgbnbnjfaffaiaa.Old
open Go.RowKit

theorem wout_none (q : List Int) (id : Int) (h : q.findIdx? (fun x => x == id) = none) : wout q id = q := by
  rw [List.findIdx?_eq_none_iff] at h
  rw [wout, List.filter_eq_self]
  intro x hx
  have := h x hx
  simpa using this
theorem upto_all (q : List Int) : (upto (fun j => (j, q[j]?.getD 0)) q.length).map Prod.snd = q := by
  rw [upto_snd q q.length (Nat.le_refl _), List.take_length]
theorem wout_some (q : List Int) (id : Int) (p : Nat) (h : q.findIdx? (fun x => x == id) = some p) (hn : q.Nodup) : wout q id = dropAt q p := by
  rw [List.findIdx?_eq_some_iff_getElem] at h
  obtain ⟨hp, he, _⟩ := h
  have he' : q[p] = id := by simpa using he
  have e : wout q id = ((upto (fun j => (j, q[j]?.getD 0)) q.length).filter (fun x => x.2 != id)).map Prod.snd := by
    rw [wout]
    conv => lhs; rw [← upto_all q]
    rw [List.filter_map]
    rfl
  rw [e, dropAt, keepP]
  congr 1
  apply List.filter_congr
  intro x hx
  simp only [upto, List.mem_map, List.mem_range] at hx
  obtain ⟨j, hj, rfl⟩ := hx
  dsimp only
  have hinj : q[j] = q[p] ↔ j = p := by
    constructor
    · intro e2
      have hpw := List.pairwise_iff_getElem.1 hn
      rcases Nat.lt_trichotomy j p with h | h | h
      · exact absurd e2 (hpw j p hj hp h)
      · exact h
      · exact absurd e2.symm (hpw p j hp hj h)
    · rintro rfl; rfl
  have hg : q[j]?.getD 0 = q[j] := by simp [hj]
  rw [hg, ← he']
  by_cases h : j = p
  · subst h; simp
  · have h1 : q[j] ≠ q[p] := fun e => h (hinj.1 e)
    have h2 : (j : Int) ≠ (p : Int) := by omega
    rw [bne_iff_ne.2 h1, bne_iff_ne.2 h2]

end Go.Proofs.Ytgbnbnjfaffaiaa.Old
