
/- Keepers at work, plainly: how children are stopped. No conditions but those written. -/
import Derived.Test.YtbpacibfboldcaaDoorRv
import Derived.Test.YtbpacibfboldcaaDoorKd
import Derived.Test.YtbpacibfboldcaaDoorKs
namespace Go.Proofs.YtbpacibfboldcaaDoor
open Go.RowKit

/-- Keepers, and what they told. -/
abbrev St := List PKeeper × List (Int × Int × Int)
def withRuns (p : PKeeper) (r : List Bool) : PKeeper := (p.1, p.2.1, p.2.2.1, p.2.2.2.1, p.2.2.2.2.1, r, p.2.2.2.2.2.2.1, p.2.2.2.2.2.2.2)
def endK (p : PKeeper) : PKeeper := (p.1, p.2.1, p.2.2.1, p.2.2.2.1, p.2.2.2.2.1, p.2.2.2.2.2.1, [], true)
def setRun (ps : List PKeeper) (k c : Nat) (b : Bool) : List PKeeper := ps.set k (withRuns (el ps k) ((runsP (el ps k)).set c b))
def endP (ps : List PKeeper) (k : Nat) : List PKeeper := ps.set k (endK (el ps k))
/-- Of the m children from lo on, from the last to the first, those that run go through F; and who they were. -/
def downF (F : St → Nat → St) (k lo : Nat) : Nat → St × List Int → St × List Int
  | 0, x => x
  | m + 1, x => downF F k lo m (if el (runsP (el x.1.1 k)) (lo + m) then (F x.1 (lo + m), x.2 ++ [((lo + m : Nat) : Int)]) else x)
/-- All children of a keeper from lo on are stopped. -/
def fromF (F : St → Nat → St) (s : St) (k lo : Nat) : St × List Int := downF F k lo ((runsP (el s.1 k)).length - lo) (s, [])
/-- A child is stopped. -/
def stopF : Nat → St → Nat → Nat → St
  | 0, s, _, _ => s
  | n + 1, s, k, c =>
    let s1 := match placeP s.1 k c with
      | some u => (endP (fromF (fun s m => stopF n s u m) s u 0).1.1 u, (fromF (fun s m => stopF n s u m) s u 0).1.2)
      | none => s
    (setRun s1.1 k c false, s1.2 ++ [((k : Int), 1, (c : Int))])
/-- Who stands for a child lies behind. -/
def TreeP (ps : List PKeeper) : Prop := ∀ j, j < ps.length → upP (el ps j) < (j : Int)
theorem place_hit {ps : List PKeeper} {u c : Int} {k : Nat} (h : placeP ps u c = some k) : k < ps.length ∧ hitP u c (el ps k) = true := by
  rw [placeP, List.findIdx?_eq_some_iff_getElem] at h
  obtain ⟨h1, h2, _⟩ := h
  exact ⟨h1, by rw [el_at h1]; exact h2⟩
theorem place_gt {ps : List PKeeper} {k u : Nat} {c : Int} (hT : TreeP ps) (h : placeP ps k c = some u) : k < u ∧ u < ps.length := by
  obtain ⟨h1, h2⟩ := place_hit h
  simp only [hitP, Bool.and_eq_true, beq_iff_eq] at h2
  have := hT u h1
  rw [h2.1] at this
  exact ⟨by omega, h1⟩
/-- The same keepers, children aside. -/
def Sh (ps ps' : List PKeeper) : Prop := ps'.length = ps.length ∧ ∀ j, upP (el ps' j) = upP (el ps j) ∧ chP (el ps' j) = chP (el ps j) ∧ (runsP (el ps' j)).length = (runsP (el ps j)).length
theorem Sh.refl (ps : List PKeeper) : Sh ps ps := ⟨rfl, fun _ => ⟨rfl, rfl, rfl⟩⟩
theorem Sh.trans {a b c : List PKeeper} (h : Sh a b) (k : Sh b c) : Sh a c := ⟨k.1.trans h.1, fun j => ⟨(k.2 j).1.trans (h.2 j).1, (k.2 j).2.1.trans (h.2 j).2.1, (k.2 j).2.2.trans (h.2 j).2.2⟩⟩
theorem Sh.set {ps : List PKeeper} {k : Nat} {p : PKeeper} (hk : k < ps.length) (h1 : upP p = upP (el ps k)) (h2 : chP p = chP (el ps k)) (h3 : (runsP p).length = (runsP (el ps k)).length) : Sh ps (ps.set k p) := by
  refine ⟨by simp, fun j => ?_⟩
  by_cases e : j = k
  · subst e; rw [el_set_same hk]; exact ⟨h1, h2, h3⟩
  · rw [el_set_other e]; exact ⟨rfl, rfl, rfl⟩
theorem Sh.run {ps : List PKeeper} {k : Nat} (hk : k < ps.length) (c : Nat) (b : Bool) : Sh ps (setRun ps k c b) := Sh.set hk rfl rfl (by simp [runsP, withRuns])
theorem Sh.end {ps : List PKeeper} {k : Nat} (hk : k < ps.length) : Sh ps (endP ps k) := Sh.set hk rfl rfl rfl
theorem TreeP.sh {ps ps' : List PKeeper} (h : TreeP ps) (hs : Sh ps ps') : TreeP ps' := fun j hj => by
  rw [(hs.2 j).1]; exact h j (by rw [← hs.1]; exact hj)
theorem Sh.place {ps ps' : List PKeeper} (hs : Sh ps ps') (u c : Int) : placeP ps' u c = placeP ps u c := by
  cases h : placeP ps u c with
  | none =>
    refine placeP_no fun j hj => ?_
    rw [placeP, List.findIdx?_eq_none_iff] at h
    have := h _ (el_mem (show j < ps.length by rw [← hs.1]; exact hj))
    simpa only [hitP, (hs.2 j).1, (hs.2 j).2.1] using this
  | some k =>
    rw [placeP, List.findIdx?_eq_some_iff_getElem] at h
    obtain ⟨h1, h2, h3⟩ := h
    refine placeP_yes (by rw [hs.1]; exact h1) (by rw [← el_at h1] at h2; simpa only [hitP, (hs.2 k).1, (hs.2 k).2.1] using h2) fun j hj => ?_
    have := h3 j hj
    rw [← el_at (by omega)] at this
    simp only [hitP, (hs.2 j).1, (hs.2 j).2.1] at this ⊢
    simpa using this
/-- How many children run. -/
def cntR (ps : List PKeeper) : Nat := (ps.map fun p => (runsP p).count true).sum
theorem sum_set {f : PKeeper → Nat} : ∀ {ps : List PKeeper} {k : Nat} {p : PKeeper}, k < ps.length → ((ps.set k p).map f).sum + f (el ps k) = (ps.map f).sum + f p
  | [], k, p, h => by simp at h
  | x :: r, 0, p, _ => by simp [el]; omega
  | x :: r, k + 1, p, h => by
    have := sum_set (f := f) (ps := r) (k := k) (p := p) (by simpa using h)
    simp only [List.set_cons_succ, List.map_cons, List.sum_cons, el_cons]; omega
theorem count_off : ∀ {l : List Bool} {c : Nat}, el l c = true → (l.set c false).count true + 1 = l.count true
  | [], c, h => by simp [el] at h
  | x :: r, 0, h => by rw [el_zero] at h; subst h; simp
  | x :: r, c + 1, h => by
    rw [el_cons] at h
    have := count_off h
    simp only [List.set_cons_succ, List.count_cons]; omega
theorem cntR_off {ps : List PKeeper} {k c : Nat} (hk : k < ps.length) (h : el (runsP (el ps k)) c = true) : cntR (setRun ps k c false) + 1 = cntR ps := by
  have h1 := sum_set (f := fun p => (runsP p).count true) (p := withRuns (el ps k) ((runsP (el ps k)).set c false)) hk
  have h2 := count_off h
  have h3 : (runsP (withRuns (el ps k) ((runsP (el ps k)).set c false))).count true = ((runsP (el ps k)).set c false).count true := rfl
  unfold cntR setRun
  simp only [h3] at h1
  omega
theorem cntR_end {ps : List PKeeper} {k : Nat} (hk : k < ps.length) : cntR (endP ps k) = cntR ps := by
  have h1 := sum_set (f := fun p => (runsP p).count true) (p := endK (el ps k)) hk
  have h3 : (runsP (endK (el ps k))).count true = (runsP (el ps k)).count true := rfl
  unfold cntR endP
  simp only [h3] at h1
  omega
/-- What stopping a child of k keeps. -/
structure StopK (k : Nat) (s s' : St) : Prop where
  sh : Sh s.1 s'.1
  ahead : ∀ j, j < k → el s'.1 j = el s.1 j
  told : s'.2.length + cntR s'.1 ≤ s.2.length + cntR s.1
theorem StopK.refl (k : Nat) (s : St) : StopK k s s := ⟨Sh.refl _, fun _ _ => rfl, Nat.le_refl _⟩
theorem StopK.trans {k : Nat} {a b c : St} (h : StopK k a b) (h' : StopK k b c) : StopK k a c := ⟨h.sh.trans h'.sh, fun j hj => (h'.ahead j hj).trans (h.ahead j hj), Nat.le_trans h'.told h.told⟩
theorem downF_keeps {F : St → Nat → St} {u N : Nat} (hF : ∀ s c, TreeP s.1 → s.1.length = N → el (runsP (el s.1 u)) c = true → StopK u s (F s c)) (lo : Nat) :
    ∀ (m : Nat) (x : St × List Int), TreeP x.1.1 → x.1.1.length = N → StopK u x.1 (downF F u lo m x).1
  | 0, x, _, _ => StopK.refl _ _
  | m + 1, x, hT, hN => by
    rw [downF]
    by_cases h : el (runsP (el x.1.1 u)) (lo + m) = true
    · rw [if_pos h]
      have h1 := hF x.1 (lo + m) hT hN h
      have h2 := downF_keeps hF lo m (F x.1 (lo + m), x.2 ++ [((lo + m : Nat) : Int)]) (hT.sh h1.sh) (h1.sh.1.trans hN)
      exact h1.trans h2
    · rw [if_neg h]; exact downF_keeps hF lo m x hT hN
theorem stopF_keeps : ∀ (n : Nat) (s : St) (k c : Nat), TreeP s.1 → k < s.1.length → s.1.length ≤ n + k → el (runsP (el s.1 k)) c = true → StopK k s (stopF n s k c)
  | 0, s, k, c, _, hk, hn, _ => by omega
  | n + 1, s, k, c, hT, hk, hn, hr => by
    rw [stopF]
    cases hp : placeP s.1 k c with
    | none =>
      have h2 := cntR_off hk hr
      refine ⟨Sh.run hk c false, fun j hj => ?_, ?_⟩
      · exact el_set_other (by omega)
      · simp only [List.length_append, List.length_singleton]; omega
    | some u =>
      obtain ⟨hku, hul⟩ := place_gt hT hp
      have hd : StopK u s (fromF (fun s m => stopF n s u m) s u 0).1 := downF_keeps (F := fun s m => stopF n s u m) (u := u) (N := s.1.length) (fun s' c' hT' hN' hr' => stopF_keeps n s' u c' hT' (by omega) (by omega) hr') 0 ((runsP (el s.1 u)).length - 0) (s, []) hT rfl
      obtain ⟨T, hTT⟩ : ∃ T, T = (fromF (fun s m => stopF n s u m) s u 0).1 := ⟨_, rfl⟩
      rw [← hTT] at hd
      simp only [← hTT]
      have hlu : u < T.1.length := by rw [hd.sh.1]; exact hul
      have hlk : k < (endP T.1 u).length := by rw [(Sh.end hlu).1, hd.sh.1]; exact hk
      have hek : el (endP T.1 u) k = el s.1 k := (el_set_other (by omega)).trans (hd.ahead k hku)
      have h2 := cntR_off (c := c) hlk (by rw [hek]; exact hr)
      have h3 := cntR_end hlu
      have h4 := hd.told
      refine ⟨(hd.sh.trans (Sh.end hlu)).trans (Sh.run hlk c false), fun j hj => ?_, ?_⟩
      · exact (el_set_other (by omega)).trans ((el_set_other (by omega)).trans (hd.ahead j (by omega)))
      · simp only [List.length_append, List.length_singleton]; omega
theorem fromF_keeps {n : Nat} {s : St} {u : Nat} (lo : Nat) (hT : TreeP s.1) (hu : u < s.1.length) (hn : s.1.length ≤ n + u) : StopK u s (fromF (fun s m => stopF n s u m) s u lo).1 :=
  downF_keeps (F := fun s m => stopF n s u m) (N := s.1.length) (fun s' c' hT' hN' hr' => stopF_keeps n s' u c' hT' (by omega) (by omega) hr') lo _ (s, []) hT rfl
end Go.Proofs.YtbpacibfboldcaaDoor
