
/- A keeper alone: plain facts. No conditions but those written. -/
import Derived.Test.YtbpacibfboldcaaDoorFg
import Derived.Test.YtbpacibfboldcaaDoorFi
namespace Go.Proofs.YtbpacibfboldcaaDoor

/-- The faults that count, as the specification tells them. -/
def recentS (f : List Int) (tick wi : Int) : List Int := (above f (tick - wi) ++ [tick]).map (capT tick)
theorem above_cap (tick lim : Int) (h : lim < tick) : ∀ f : List Int, above (f.map (capT tick)) lim = (above f lim).map (capT tick)
  | [] => rfl
  | x :: l => by
    have ih := above_cap tick lim h l
    unfold above at ih ⊢
    have hx : decide (lim < capT tick x) = decide (lim < x) := by
      apply decide_eq_decide.2
      unfold capT
      split <;> omega
    rw [List.map_cons, List.filter_cons, List.filter_cons, hx, ih]
    cases decide (lim < x) <;> rfl
theorem recent_eq {f : List Int} {tick wi : Int} (h : 1 ≤ wi) : recentS f tick wi = recentI f tick wi := by
  have e : capT tick tick = tick := by unfold capT; split <;> rfl
  rw [recentS, recentI, List.map_append, above_cap tick (tick - wi) (by omega), List.map_cons, List.map_nil, e]
theorem stopF_one {s : St} {c : Nat} (hB : Bare s.1 0) : stopF 8 s 0 c = offP s 0 c := by rw [stopF, hB c]; rfl
theorem offP_bare {s : St} {c : Nat} (hk : 0 < s.1.length) (hB : Bare s.1 0) : Bare (offP s 0 c).1 0 := hB.sh (Sh.run hk c false)
theorem downF_one (lo : Nat) : ∀ (m : Nat) (x : St × List Int), 0 < x.1.1.length → Bare x.1.1 0 → downF (fun s m => stopF 8 s 0 m) 0 lo m x = downF (fun s m => offP s 0 m) 0 lo m x
  | 0, _, _, _ => rfl
  | m + 1, x, h1, hB => by
    rw [downF, downF]
    rw [stopF_one hB]
    cases el (runsP (el x.1.1 0)) (lo + m)
    · exact downF_one lo m x h1 hB
    · refine downF_one lo m _ ?_ (offP_bare h1 hB)
      show 0 < (setRun x.1.1 0 (lo + m) false).length
      rw [(Sh.run h1 (lo + m) false).1]; exact h1
theorem fromF_one {s : St} {lo : Nat} (h1 : 0 < s.1.length) (hB : Bare s.1 0) : fromF (fun s m => stopF 8 s 0 m) s 0 lo = fromF (fun s m => offP s 0 m) s 0 lo := downF_one lo _ (s, []) h1 hB
/-- The same, whatever Up. -/
def reUp (u : Int) (s : St) : St := (s.1.map (withUp · u), s.2)
theorem el_reUp (u : Int) (ps : List PKeeper) {k : Nat} (hk : k < ps.length) : el (ps.map (withUp · u)) k = withUp (el ps k) u := el_map _ hk
theorem reUp_off (u : Int) {s : St} {k c : Nat} (hk : k < s.1.length) : reUp u (offP s k c) = offP (reUp u s) k c := by
  simp only [reUp, offP, setRun, List.map_set, el_reUp u s.1 hk]; rfl
theorem reUp_start (u : Int) {s : St} {k c : Nat} (hk : k < s.1.length) : reUp u (startP s k c) = startP (reUp u s) k c := by
  simp only [reUp, startP, setRun, List.map_set, el_reUp u s.1 hk]; rfl
theorem reUp_faults (u : Int) {ps : List PKeeper} {k : Nat} (hk : k < ps.length) (f : List Int) : (setFaults ps k f).map (withUp · u) = setFaults (ps.map (withUp · u)) k f := by
  simp only [setFaults, List.map_set, el_reUp u ps hk]; rfl
theorem reUp_end (u : Int) {ps : List PKeeper} {k : Nat} (hk : k < ps.length) : (endP ps k).map (withUp · u) = endP (ps.map (withUp · u)) k := by
  simp only [endP, List.map_set, el_reUp u ps hk]; rfl
end Go.Proofs.YtbpacibfboldcaaDoor
