
/- MergeFair of the program; what the specification keeps, in plain words. No conditions but those written. -/
import Derived.Test.YtnjnnilmelmmgaaVc
import Derived.Test.YtnjnnilmelmmgaaSl
namespace Go.Proofs.Ytnjnnilmelmmgaa
open Go.RowKit

theorem zip_fst {α β : Type} : ∀ (a : List α) (b : List β), a.length = b.length → (a.zip b).map Prod.fst = a
  | [], [], _ => rfl
  | x :: r, y :: s, h => by simp [zip_fst r s (by simpa using h)]
theorem zip_snd {α β : Type} : ∀ (a : List α) (b : List β), a.length = b.length → (a.zip b).map Prod.snd = b
  | [], [], _ => rfl
  | x :: r, y :: s, h => by simp [zip_snd r s (by simpa using h)]
set_option maxHeartbeats 2000000 in
theorem implMerge_any (ao : Option Addr) (cap : Nat) (hs : List Hd) (ls : List (List Int)) (dao : Option Addr) (dcap : Nat) (ds : List Int) (w : World) (hl : ls.length ≤ 1048576) (hle : tot ls ≤ 1048576) (hz : InRR w.heap.size w ao hs ls) (hcp : ∀ j, j < ls.length → (el ls j).length ≤ (el hs j).2.2) (hd : kI.In w.heap.size w dao ds) :
    Calls Try.prog 35 #[.slice ao ls.length cap, .slice dao ds.length dcap] w (AnsA w (mgR ls ds)) := by
  rcases hg : mgOk ls with _ | _
  · rw [mgR_no hg]
    have HG := hid hg
    clear hg
    go_enter Try.func35, Try.ntmps35
    go_wp2_with fail
    refine (mayMerge_is ao cap hs ls w _ hl hle hz HG.out).mono ?_
    rintro e w1 ⟨rfl, hw1⟩
    rw [hw1]; clear hw1 w1
    go_wp2
    exact bodyPost_ret (v := .tuple #[.slice none 0 0, .bool false]) (by simp [results, Try.results35, go_sem]) rfl (ansA_nil (Below.refl _ _))
  · rw [mgR_yes hg]
    have HG := hid hg
    have hok := mgOk_all hg
    clear hg
    have h1 := zip_fst hs ls hz.2.1
    have h2 := zip_snd hs ls hz.2.1
    have h3 : (hs.zip ls).length = ls.length := by rw [← List.length_map (f := Prod.snd), h2]
    have hR : RI w.heap.size w (hs.zip ls) := by
      intro r hr
      obtain ⟨j, hj, rfl⟩ := mem_el hr
      rw [h3] at hj
      have e1 : (el (hs.zip ls) j).1 = el hs j := by rw [← el_map Prod.fst (by rw [h3]; exact hj), h1]
      have e2 : (el (hs.zip ls) j).2 = el ls j := by rw [← el_map Prod.snd (by rw [h3]; exact hj), h2]
      obtain ⟨k1, k2⟩ := hz.2.2 j hj
      rw [e1, e2]
      exact ⟨k1, by rw [k1]; exact hcp j hj, k2⟩
    have HM := hid (mergeBy_any dao dcap ds ao cap (hs.zip ls) w hd (by rw [h1]; exact hz.1) hR (by rw [h3]; exact hok.1) (by rw [h2]; exact hok.2))
    rw [h2, h3] at HM
    clear h1 h2 h3 hR hcp hok
    generalize mg ls ds = r at HM ⊢
    go_enter Try.func35, Try.ntmps35
    go_wp2_with fail
    refine (mayMerge_is ao cap hs ls w _ hl hle hz HG.out).mono ?_
    rintro e w1 ⟨rfl, hw1⟩
    rw [hw1]; clear hw1 w1
    go_wp2_with fail
    refine HM.out.mono ?_
    rintro e w1 ⟨⟨o, c, rfl, h0, hF⟩, hb1⟩
    have HF := hid hF
    have H0 := hid h0
    clear hF h0
    go_wp2
    exact bodyPost_ret (v := .tuple #[.slice o r.length c, .bool true]) (by simp [results, Try.results35, go_sem]) rfl ⟨⟨_, _, rfl, H0.out, HF.out⟩, hb1⟩
/-- What is left of each list. -/
def rems (ls : List (List Int)) (ats : List Nat) : List (List Int) := (List.range ls.length).map fun i => (el ls i).drop (el ats i)
theorem rems_len (ls : List (List Int)) (ats : List Nat) : (rems ls ats).length = ls.length := by simp [rems]
theorem rems_at (ls : List (List Int)) (ats : List Nat) {i : Nat} (h : i < ls.length) : el (rems ls ats) i = (el ls i).drop (el ats i) := by simp [rems, el, h]
theorem list_ext {α : Type} [Inhabited α] {a b : List α} (hl : a.length = b.length) (h : ∀ j, j < a.length → el a j = el b j) : a = b := by
  apply List.ext_getElem hl
  intro j h1 h2
  have := h j h1
  rw [el_at h1, el_at h2] at this
  exact this
theorem rems_zero (ls : List (List Int)) : rems ls (List.replicate ls.length 0) = ls := by
  refine list_ext (rems_len _ _) fun j hj => ?_
  rw [rems_len] at hj
  rw [rems_at _ _ hj]
  simp [el, hj]
theorem rems_set (ls : List (List Int)) (ats : List Nat) {k : Nat} (hk : k < ls.length) (ha : ats.length = ls.length) : rems ls (ats.set k (el ats k + 1)) = (rems ls ats).set k ((el (rems ls ats) k).drop 1) := by
  refine list_ext (by simp [rems_len]) fun j hj => ?_
  rw [rems_len] at hj
  rw [rems_at _ _ hj]
  by_cases e : j = k
  · subst e
    rw [el_set_same (by omega), el_set_same (by rw [rems_len]; exact hj), rems_at _ _ hj, List.drop_drop]
  · rw [el_set_far e, el_set_far e, rems_at _ _ hj]
theorem rems_first (ls : List (List Int)) (ats : List Nat) {k : Nat} (hk : k < ls.length) : el (el (rems ls ats) k) 0 = el (el ls k) (el ats k) := by rw [rems_at _ _ hk, el_drop, Nat.add_zero]
theorem rems_some (ls : List (List Int)) (ats : List Nat) {k : Nat} (hk : k < ls.length) : 0 < (el (rems ls ats) k).length ↔ el ats k < (el ls k).length := by rw [rems_at _ _ hk, List.length_drop]; omega
/-- Ints out of numbers. -/
def ints (ats : List Nat) : List Int := ats.map fun n : Nat => (n : Int)
theorem ints_len (ats : List Nat) : (ints ats).length = ats.length := by simp [ints]
theorem ints_el {ats : List Nat} {j : Nat} (h : j < ats.length) : el (ints ats) j = ((el ats j : Nat) : Int) := by
  unfold ints; rw [el_map (fun n : Nat => (n : Int)) h]
theorem ints_set (ats : List Nat) (k m : Nat) : (ints ats).set k (m : Int) = ints (ats.set k m) := by simp [ints, List.map_set]
theorem ints_app (a b : List Nat) : ints (a ++ b) = ints a ++ ints b := by simp [ints]
/-- One turn, told by the places. -/
theorem turn_is {ds : List Int} {ls : List (List Int)} {ats : List Nat} {m : Nat} {x : List Int} (ha : ats.length = ls.length) (hm : (x, nonE (rems ls ats)) = mrun ds ([], nonE ls) m) (h0 : 0 < (nonE (rems ls ats)).length) :
    ∃ k, k < ls.length ∧ el ats k < (el ls k).length ∧ mplace ds (x, nonE (rems ls ats)) < (idxN (rems ls ats) ls.length).length ∧ el (idxN (rems ls ats) ls.length) (mplace ds (x, nonE (rems ls ats))) = k ∧
      (x ++ [el (el ls k) (el ats k)], nonE (rems ls (ats.set k (el ats k + 1)))) = mrun ds ([], nonE ls) (m + 1) := by
  have hp := mplace_lt (ds := ds) (s := (x, nonE (rems ls ats))) h0
  dsimp only at hp
  obtain ⟨h1, h2⟩ := posN_at (rems ls ats) _ hp
  obtain ⟨h3, h4⟩ := idxN_at (rems ls ats)
  have h5 := h4 _ hp
  rw [rems_len] at h1 h3 h5
  have h6 : 0 < (el (rems ls ats) (posN (rems ls ats) (mplace ds (x, nonE (rems ls ats))))).length := by rw [h2]; exact nonE_all (el_mem hp)
  refine ⟨_, h1, (rems_some ls ats h1).1 h6, by rw [h3]; exact hp, h5, ?_⟩
  rw [mrun, ← hm, mstep]
  dsimp only
  rw [rems_set ls ats h1 ha, posN_set _ _ _ hp, ← rems_first ls ats h1, h2]
end Go.Proofs.Ytnjnnilmelmmgaa
