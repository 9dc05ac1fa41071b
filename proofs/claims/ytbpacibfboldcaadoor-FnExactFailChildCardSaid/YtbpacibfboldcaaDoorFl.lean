
/- A keeper alone: the program's fail and the specification's say the same. No conditions but those written. -/
import Derived.Test.YtbpacibfboldcaaDoorFk
namespace Go.Proofs.YtbpacibfboldcaaDoor

/-- Those that run, what is told and who was stopped, one by one from behind. -/
def offD (lo : Nat) : Nat → List Bool × List (Int × Int × Int) × List Int → List Bool × List (Int × Int × Int) × List Int
  | 0, x => x
  | m + 1, x => offD lo m (if el x.1 (lo + m) then (x.1.set (lo + m) false, x.2.1 ++ [(((0 : Nat) : Int), 1, ((lo + m : Nat) : Int))], x.2.2 ++ [((lo + m : Nat) : Int)]) else x)
theorem runs_with (p : PKeeper) (r : List Bool) : runsP (withRuns p r) = r := rfl
theorem with_with (p : PKeeper) (r r' : List Bool) : withRuns (withRuns p r) r' = withRuns p r' := rfl
theorem with_runs (p : PKeeper) : withRuns p (runsP p) = p := rfl
theorem el_single (p : PKeeper) : el [p] 0 = p := rfl
theorem setRun_single (p : PKeeper) (c : Nat) (b : Bool) : setRun [p] 0 c b = [withRuns p ((runsP p).set c b)] := rfl
theorem downF_single (lo : Nat) : ∀ (m : Nat) (p : PKeeper) (r : List Bool) (t : List (Int × Int × Int)) (js : List Int),
    downF (fun s m => offP s 0 m) 0 lo m (([withRuns p r], t), js) = (([withRuns p (offD lo m (r, t, js)).1], (offD lo m (r, t, js)).2.1), (offD lo m (r, t, js)).2.2)
  | 0, _, _, _, _ => rfl
  | m + 1, p, r, t, js => by
    rw [downF, offD, el_single, runs_with]
    cases h : el r (lo + m)
    · simp only [Bool.false_eq_true, if_false]
      exact downF_single lo m p r t js
    · simp only [if_true]
      exact downF_single lo m p (r.set (lo + m) false) _ _
theorem fromF_single (p : PKeeper) (r : List Bool) (t : List (Int × Int × Int)) (lo : Nat) :
    fromF (fun s m => offP s 0 m) ([withRuns p r], t) 0 lo = (([withRuns p (offD lo (r.length - lo) (r, t, [])).1], (offD lo (r.length - lo) (r, t, [])).2.1), (offD lo (r.length - lo) (r, t, [])).2.2) :=
  downF_single lo _ p r t []
theorem offD_set (lo c : Nat) (b : Bool) (hc : c < lo) : ∀ (m : Nat) (r : List Bool) (t : List (Int × Int × Int)) (js : List Int),
    offD lo m (r.set c b, t, js) = ((offD lo m (r, t, js)).1.set c b, (offD lo m (r, t, js)).2)
  | 0, _, _, _ => rfl
  | m + 1, r, t, js => by
    have e : el (r.set c b) (lo + m) = el r (lo + m) := by
      have hne : c ≠ lo + m := by omega
      simp [el, hne]
    rw [offD, offD]
    simp only [e]
    cases h : el r (lo + m)
    · simp only [Bool.false_eq_true, if_false]
      exact offD_set lo c b hc m r t js
    · simp only [if_true]
      rw [List.set_comm (i := c) (j := lo + m) b false (by omega)]
      exact offD_set lo c b hc m _ _ _
theorem startP_single (p : PKeeper) (r : List Bool) (t : List (Int × Int × Int)) (c : Nat) : startP ([withRuns p r], t) 0 c = ([withRuns p (r.set c true)], t ++ [(((0 : Nat) : Int), 2, (c : Int))]) := rfl
/-- Children begun one behind the other. -/
def onD (r : List Bool) (t : List (Int × Int × Int)) (l : List Int) : List Bool × List (Int × Int × Int) := l.foldl (fun x j => (x.1.set j.toNat true, x.2 ++ [(((0 : Nat) : Int), 2, (j.toNat : Int))])) (r, t)
theorem startAll_single (p : PKeeper) : ∀ (l : List Int) (r : List Bool) (t : List (Int × Int × Int)), startAll ([withRuns p r], t) 0 l = ([withRuns p (onD r t l).1], (onD r t l).2)
  | [], _, _ => rfl
  | j :: l, r, t => by
    show startAll (startP ([withRuns p r], t) 0 j.toNat) 0 l = _
    rw [startP_single, startAll_single p l]
    rfl
theorem set_twice (r : List Bool) (c : Nat) (a b : Bool) : (r.set c a).set c b = r.set c b := by simp
theorem restart_single (p : PKeeper) (c : Nat) : ∀ (r : List Bool), restartS ([withRuns p (r.set c false)], []) c = restartS ([withRuns p r], []) c := fun r => by
  unfold restartS
  rw [el_single, el_single]
  have e : (withRuns p (r.set c false)).1 = (withRuns p r).1 := rfl
  rw [e]
  split
  · rw [startP_single, startP_single, set_twice]
  · rw [fromF_single, fromF_single, List.length_set, offD_set (c + 1) c false (by omega)]
    dsimp only
    rw [startP_single, startP_single, set_twice]
theorem bare_up (p : PKeeper) : Bare [withUp p (-1)] 0 := bare_one rfl rfl
theorem restartP_S {p : PKeeper} {c : Nat} (hu : upP p = -1) : restartP ([p], []) 0 c = restartS ([p], []) c := by
  have hB : Bare [p] 0 := bare_one rfl hu
  unfold restartP restartS
  rw [fromF_one (s := ([p], [])) (by simp) hB]
theorem giveP_S {p : PKeeper} {c : Nat} (hu : upP p = -1) : giveP ([p], []) 0 c = giveS ([p], []) c := by
  have hB : Bare [withRuns p ((runsP p).set c false)] 0 := bare_one rfl hu
  unfold giveP giveS
  rw [setRun_single, fromF_one (s := ([withRuns p ((runsP p).set c false)], [])) (by simp) hB]
  rfl
theorem restartS_up (p : PKeeper) (u : Int) (r : List Bool) (c : Nat) : restartS ([withRuns (withUp p u) r], []) c = ((restartS ([withRuns p r], []) c).1.map (withUp · u), (restartS ([withRuns p r], []) c).2) := by
  unfold restartS
  rw [el_single, el_single]
  have e : (withRuns (withUp p u) r).1 = (withRuns p r).1 := rfl
  rw [e]
  split
  · rw [startP_single, startP_single]; rfl
  · rw [fromF_single, fromF_single]
    dsimp only
    rw [startP_single, startP_single, startAll_single, startAll_single]; rfl
theorem giveS_up (p : PKeeper) (u : Int) (c : Nat) : giveS ([withUp p u], []) c = ((giveS ([p], []) c).1.map (withUp · u), (giveS ([p], []) c).2) := by
  unfold giveS
  rw [setRun_single, setRun_single, fromF_single, fromF_single]
  rfl
theorem one_restart (p : PKeeper) (r : List Bool) (c : Nat) : (restartS ([withRuns p r], []) c).1.length = 1 := by
  unfold restartS
  split
  · rfl
  · rw [fromF_single]; dsimp only; rw [startP_single, startAll_single]; rfl
theorem one_give (p : PKeeper) (c : Nat) : (giveS ([p], []) c).1.length = 1 := by
  unfold giveS
  rw [setRun_single, fromF_single]; rfl
theorem one_fail (p : PKeeper) (c : Nat) (t : Int) : (failSP ([p], []) c t).1.length = 1 := by
  unfold failSP
  split
  · exact one_give p c
  · exact one_restart (withFaults p (recentI (fltP p) t p.2.2.1)) ((runsP p).set c false) c
theorem fail_up (p : PKeeper) (u : Int) (c : Nat) (t : Int) : failSP ([withUp p u], []) c t = ((failSP ([p], []) c t).1.map (withUp · u), (failSP ([p], []) c t).2) := by
  unfold failSP
  rw [el_single, el_single]
  have e : (recentI (fltP (withUp p u)) t (withUp p u).2.2.1).length > (withUp p u).2.1 ↔ (recentI (fltP p) t p.2.2.1).length > p.2.1 := Iff.rfl
  by_cases h : (recentI (fltP p) t p.2.2.1).length > p.2.1
  · rw [if_pos h, if_pos (e.2 h)]; exact giveS_up p u c
  · rw [if_neg h, if_neg (fun h' => h (e.1 h'))]
    exact restartS_up (withFaults p (recentI (fltP p) t p.2.2.1)) u ((runsP p).set c false) c
theorem fail_same (p : PKeeper) (c : Nat) (t : Int) (hu : upP p = -1) : failP ([p], []) c t = failSP ([p], []) c t := by
  unfold failP failSP
  rw [el_single]
  split
  · exact giveP_S hu
  · show restartP ([withFaults p (recentI (fltP p) t p.2.2.1)], []) 0 c = restartS ([withRuns (withFaults p (recentI (fltP p) t p.2.2.1)) ((runsP p).set c false)], []) c
    rw [restart_single, restartP_S (p := withFaults p (recentI (fltP p) t p.2.2.1)) hu]; rfl
/-- What both leave. -/
theorem fail_eq (p : PKeeper) (c : Nat) (t : Int) : withUp (el (failP ([withUp p (-1)], []) c t).1 0) (upP p) = el (failSP ([p], []) c t).1 0 ∧ (failP ([withUp p (-1)], []) c t).2 = (failSP ([p], []) c t).2 := by
  rw [fail_same _ c t rfl, fail_up]
  refine ⟨?_, rfl⟩
  have h1 := one_fail p c t
  obtain ⟨q, hq⟩ := List.length_eq_one_iff.1 h1
  have hup : upP q = upP p := by
    have h2 := fail_up p (upP p) c t
    rw [show withUp p (upP p) = p from rfl, hq] at h2
    have h3 := congrArg (fun s : St => el s.1 0) h2
    rw [hq] at h3
    have h4 : q = withUp q (upP p) := h3
    rw [h4]; rfl
  rw [hq]
  show withUp (withUp q (-1)) (upP p) = q
  rw [← hup]; rfl
end Go.Proofs.YtbpacibfboldcaaDoor
