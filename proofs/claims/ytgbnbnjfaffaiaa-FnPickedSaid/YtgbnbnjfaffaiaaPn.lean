
/- Plain facts: what is picked and what yields is a good board. No conditions but those written. -/
import Derived.Test.YtgbnbnjfaffaiaaOQa
import Derived.Test.YtgbnbnjfaffaiaaOSb
import Derived.Test.YtgbnbnjfaffaiaaOPc
import Derived.Test.YtgbnbnjfaffaiaaOMi
namespace Go.Proofs.Ytgbnbnjfaffaiaa.Old
open Go.RowKit

abbrev tk (ts : List (Int × Int)) (j : Nat) : Int × Int := ts[j]?.getD (0, 0)
theorem tk_set {ts : List (Int × Int)} {i j : Nat} {v : Int × Int} (hi : i < ts.length) : tk (ts.set i v) j = if j = i then v else tk ts j := by
  unfold tk
  rw [List.getElem?_set]
  by_cases h : i = j
  · subst h; simp [hi]
  · rw [if_neg h, if_neg (Ne.symm h)]
theorem runsN_zero : ∀ {ts : List (Int × Int)}, (∀ j, j < ts.length → (tk ts j).1 ≠ 2) → runsN ts = 0
  | [], _ => rfl
  | t :: r, h => by
    have h0 := h 0 (by simp)
    simp [tk] at h0
    rw [runsN, if_neg h0, Nat.zero_add]
    exact runsN_zero fun j hj => by have := h (j + 1) (by simp; omega); simpa [tk] using this
theorem runsN_one : ∀ {ts : List (Int × Int)} (i : Nat), (∀ j, j < ts.length → j ≠ i → (tk ts j).1 ≠ 2) → runsN ts ≤ 1
  | [], _, _ => by simp [runsN]
  | t :: r, i, h => by
    cases i with
    | zero =>
      have : runsN r = 0 := runsN_zero fun j hj => by have := h (j + 1) (by simp; omega) (by omega); simpa [tk] using this
      rw [runsN, this]; split <;> omega
    | succ i =>
      have h0 := h 0 (by simp) (by omega)
      simp [tk] at h0
      rw [runsN, if_neg h0, Nat.zero_add]
      exact runsN_one i fun j hj hn => by have := h (j + 1) (by simp; omega) (by omega); simpa [tk] using this
theorem firstRun_no {ts : List (Int × Int)} (h : ¬ 0 ≤ runI ts) : ∀ j, j < ts.length → (tk ts j).1 ≠ 2 := by
  intro j hj e
  unfold runI at h
  cases hf : firstRun ts with
  | some k => rw [hf] at h; simp at h
  | none =>
    unfold firstRun at hf
    rw [List.findIdx?_eq_none_iff] at hf
    have := hf ts[j] (List.getElem_mem hj)
    simp [tk, hj] at e
    simp [e] at this
theorem good_mk {ts : List (Int × Int)} {q : List Int} (hl : ts.length ≤ 30) (ht : ∀ j, j < ts.length → goodTaskB (tk ts j).1 (tk ts j).2 = true) (hr : runsN ts ≤ 1) (hq : QueueOk ts q) : specGoodB ts q = true := by
  refine (good_iff ts q).1 ⟨hl, ?_, hq⟩
  unfold goodTasksB
  rw [Bool.and_eq_true]
  exact ⟨all_of _ _ ht, by simpa using hr⟩
theorem good_at {ts : List (Int × Int)} {q : List Int} (h : specGoodB ts q = true) : ts.length ≤ 30 ∧ (∀ j, j < ts.length → goodTaskB (tk ts j).1 (tk ts j).2 = true) ∧ runsN ts ≤ 1 ∧ QueueOk ts q := by
  obtain ⟨hl, hg, hq⟩ := (good_iff ts q).2 h
  unfold goodTasksB at hg
  rw [Bool.and_eq_true] at hg
  refine ⟨hl, fun j hj => ?_, by simpa using hg.2, hq⟩
  have := List.all_eq_true.1 hg.1 ts[j] (List.getElem_mem hj)
  simpa [tk, hj] using this
theorem tk_bump {ts : List (Int × Int)} {x : Int} (hx : x.toNat < ts.length) (j : Nat) : (tk (bump ts x) j).1 = (tk ts j).1 ∧ ((tk (bump ts x) j).2 = (tk ts j).2 ∨ j = x.toNat ∧ (tk (bump ts x) j).2 = passV (tk ts j).2) := by
  unfold bump
  rw [tk_set hx]
  by_cases h : j = x.toNat
  · subst h; rw [if_pos rfl]; exact ⟨rfl, .inr ⟨rfl, rfl⟩⟩
  · rw [if_neg h]; exact ⟨rfl, .inl rfl⟩
theorem goodTask_pass {s p : Int} (h : goodTaskB s p = true) (hs : s = 1) : goodTaskB s (passV p) = true := by
  subst hs
  simp [goodTaskB] at h ⊢
  unfold passV; split <;> omega
theorem bumps_good : ∀ (q : List Int) {ts : List (Int × Int)}, (∀ j, j < ts.length → goodTaskB (tk ts j).1 (tk ts j).2 = true) → (∀ x ∈ q, x.toNat < ts.length ∧ (tk ts x.toNat).1 = 1) →
    (bumps ts q).length = ts.length ∧ (∀ j, (tk (bumps ts q) j).1 = (tk ts j).1) ∧ ∀ j, j < ts.length → goodTaskB (tk (bumps ts q) j).1 (tk (bumps ts q) j).2 = true
  | [], ts, h, _ => ⟨rfl, fun _ => rfl, h⟩
  | x :: r, ts, h, hq => by
    obtain ⟨hx, hx1⟩ := hq x (by simp)
    have hl : (bump ts x).length = ts.length := bump_len ts x
    have hb := tk_bump (ts := ts) (x := x) hx
    have ih := bumps_good r (ts := bump ts x) (fun j hj => by
        rw [hl] at hj
        obtain ⟨e1, e2⟩ := hb j
        rw [e1]
        rcases e2 with e2 | ⟨rfl, e2⟩
        · rw [e2]; exact h j hj
        · rw [e2]; exact goodTask_pass (h _ hj) hx1)
      (fun y hy => by
        obtain ⟨hy1, hy2⟩ := hq y (by simp [hy])
        exact ⟨by rw [hl]; exact hy1, by rw [(hb _).1]; exact hy2⟩)
    refine ⟨ih.1.trans hl, fun j => (ih.2.1 j).trans (hb j).1, fun j hj => ih.2.2 j (by rw [hl]; exact hj)⟩
theorem wout_in {q : List Int} {n x : Int} : x ∈ wout q n ↔ x ∈ q ∧ x ≠ n := by unfold wout; simp
theorem wout_one : ∀ {q : List Int} {n : Int}, q.Nodup → n ∈ q → (wout q n).length + 1 = q.length
  | [], n, _, h => by simp at h
  | y :: r, n, hd, h => by
    rw [List.nodup_cons] at hd
    by_cases e : y = n
    · subst e
      have : wout r y = r := by unfold wout; rw [List.filter_eq_self]; intro a ha; simp; intro e; exact hd.1 (e ▸ ha)
      unfold wout at this ⊢
      simp [this]
    · have hm : n ∈ r := by simp at h; rcases h with h | h; exact (e h.symm).elim; exact h
      have ih := wout_one hd.2 hm
      unfold wout at ih ⊢
      simp [e]; omega
/-- What is picked: the board is good again, whoever is picked runs and waits no more. -/
theorem pick_good {iv : Int} {ts : List (Int × Int)} {q : List Int} (h : (pickR iv ts q).2.2.2 = 0) :
    specGoodB (pickR iv ts q).1 (pickR iv ts q).2.1 = true ∧ (pickR iv ts q).2.2.1 ∉ (pickR iv ts q).2.1 ∧ (pickR iv ts q).2.1.length + 1 = q.length ∧ 0 ≤ (pickR iv ts q).2.2.1 ∧ (pickR iv ts q).2.2.1 < (pickR iv ts q).1.length ∧ (tk (pickR iv ts q).1 (pickR iv ts q).2.2.1.toNat) = (2, 0) ∧ firstRun (pickR iv ts q).1 = some (pickR iv ts q).2.2.1.toNat := by
  unfold pickR at h ⊢
  by_cases hg : specGoodB ts q = true
  case neg => rw [if_neg hg] at h; simp at h
  rw [if_pos hg] at h ⊢
  by_cases hr : 0 ≤ runI ts
  case pos => rw [if_pos hr] at h; simp at h
  rw [if_neg hr] at h ⊢
  by_cases hq0 : q.length = 0
  case pos => rw [if_pos hq0] at h; simp at h
  rw [if_neg hq0]
  obtain ⟨hj, _⟩ := pick_place iv q.length hq0
  have hidm : q[(iv % (q.length : Int)).toNat]?.getD 0 ∈ q := mem_at hj
  generalize q[(iv % (q.length : Int)).toNat]?.getD 0 = id at hidm ⊢
  dsimp only
  obtain ⟨hl, ht, _, hqo⟩ := good_at hg
  obtain ⟨hq1, hq2, hq3, hq4⟩ := hqo
  have hrun := firstRun_no hr
  obtain ⟨i0, i1⟩ := hq2 id hidm
  have hidn : id.toNat < ts.length := by omega
  have hst : ∀ x ∈ q, x.toNat < ts.length ∧ (tk ts x.toNat).1 = 1 := fun x hx => by
    obtain ⟨a, b⟩ := hq2 x hx
    have hx' : x.toNat < ts.length := by omega
    exact ⟨hx', (hq4 x.toNat hx').1 (by rw [Int.toNat_of_nonneg a]; exact hx)⟩
  obtain ⟨b1, b2, b3⟩ := bumps_good (wout q id) ht (fun x hx => hst x (wout_in.1 hx).1)
  have hidb : id.toNat < (bumps ts (wout q id)).length := by rw [b1]; exact hidn
  have hset : ∀ j, tk ((bumps ts (wout q id)).set id.toNat (2, 0)) j = if j = id.toNat then (2, 0) else tk (bumps ts (wout q id)) j := fun j => tk_set hidb
  have hno : ∀ j, j < ts.length → j ≠ id.toNat → (tk ((bumps ts (wout q id)).set id.toNat (2, 0)) j).1 ≠ 2 := fun j hj hn => by
    rw [hset, if_neg hn, b2]; exact hrun j hj
  refine ⟨good_mk (by simp [b1, hl]) (fun j hj => ?_) (runsN_one id.toNat fun j hj hn => hno j (by simpa [b1] using hj) hn) ⟨?_, ?_, ?_, ?_⟩, fun hm => (wout_in.1 hm).2 rfl, wout_one hq3 hidm, i0, by simp [b1]; exact i1, by rw [hset, if_pos rfl], ?_⟩
  · rw [hset]
    split
    · rfl
    · exact b3 j (by simpa [b1] using hj)
  · have := wout_one hq3 hidm
    simp [b1]; omega
  · intro x hx
    have := hq2 x (wout_in.1 hx).1
    simpa [b1] using this
  · unfold wout; exact hq3.filter _
  · intro j hj
    have hj' : j < ts.length := by simpa [b1] using hj
    have h4 := hq4 j hj'
    show (j : Int) ∈ wout q id ↔ (tk _ j).1 = 1
    rw [hset, wout_in]
    by_cases e : j = id.toNat
    · subst e
      simp [Int.toNat_of_nonneg i0]
    · rw [if_neg e, b2]
      constructor
      · intro hx; exact h4.1 hx.1
      · intro hx; exact ⟨h4.2 hx, fun e' => e (by omega)⟩
  · refine firstRun_some _ id.toNat (by simp [b1]; exact hidn) ?_ fun j hj => hno j (by omega) (by omega)
    show (tk _ _).1 = 2
    rw [hset, if_pos rfl]
/-- Who runs yields: the board is good again, its queue ends with it. -/
theorem yield_good {ts : List (Int × Int)} {q : List Int} {id : Nat} (hg : specGoodB ts q = true) (hf : firstRun ts = some id) :
    leaveR 1 ts q = (ts.set id (1, 0), q ++ [(id : Int)], 0) ∧ specGoodB (ts.set id (1, 0)) (q ++ [(id : Int)]) = true := by
  refine ⟨by unfold leaveR; rw [if_pos hg, hf]; simp, ?_⟩
  obtain ⟨hl, ht, hr, hq1, hq2, hq3, hq4⟩ := good_at hg
  obtain ⟨hid, h2⟩ := firstRun_lt hf
  have hset : ∀ j, tk (ts.set id (1, 0)) j = if j = id then (1, 0) else tk ts j := fun j => tk_set hid
  have hn : ((id : Int)) ∉ q := fun hm => by have := (hq4 id hid).1 hm; omega
  have hnd : (q ++ [(id : Int)]).Nodup := by
    rw [List.nodup_append]; refine ⟨hq3, by simp, ?_⟩
    intro a ha b hb; simp at hb; subst hb; intro e; exact hn (e ▸ ha)
  have hin : ∀ x, x ∈ q ++ [(id : Int)] → 0 ≤ x ∧ x < ts.length := by
    intro x hx; simp at hx
    rcases hx with hx | rfl
    · exact hq2 x hx
    · omega
  refine good_mk (by simpa using hl) (fun j hj => ?_) ?_ ⟨?_, by simpa using hin, hnd, ?_⟩
  · rw [hset]; split
    · rfl
    · exact ht j (by simpa using hj)
  · have hle : ∀ (l : List (Int × Int)) (i : Nat), runsN (l.set i (1, 0)) ≤ runsN l := by
      intro l
      induction l with
      | nil => intro i; simp [runsN]
      | cons t r ih =>
        intro i
        cases i with
        | zero => simp [runsN]
        | succ i => simp only [List.set_cons_succ, runsN]; have := ih i; omega
    exact Nat.le_trans (hle ts id) hr
  · have hs : ∀ x, x ∈ q ++ [(id : Int)] → x ∈ (List.range ts.length).map (fun j : Nat => (j : Int)) := fun x hx => by
      obtain ⟨a, b⟩ := hin x hx
      simp; exact ⟨x.toNat, by omega, by omega⟩
    have := len_le_of_sub hnd hs
    simpa using this
  · intro j hj
    have hj' : j < ts.length := by simpa using hj
    show (j : Int) ∈ q ++ [(id : Int)] ↔ (tk _ j).1 = 1
    rw [hset]
    by_cases e : j = id
    · subst e; simp
    · rw [if_neg e]
      have h4 := hq4 j hj'
      constructor
      · intro hx; simp at hx; rcases hx with hx | hx
        · exact h4.1 hx
        · exact (e (by omega)).elim
      · intro hx; simp; exact .inl (h4.2 hx)
theorem mostP_pos (ts : List (Int × Int)) : 0 ≤ mostP ts := by
  unfold mostP
  have : ∀ (l : List (Int × Int)) (m : Int), 0 ≤ m → 0 ≤ l.foldl (fun m t => if m < t.2 then t.2 else m) m := by
    intro l
    induction l with
    | nil => intro m h; exact h
    | cons t r ih => intro m h; refine ih _ ?_; show 0 ≤ (if m < t.2 then t.2 else m); split <;> omega
  exact this ts 0 (Int.le_refl _)
/-- Each in the queue is a task. -/
def InR (ts : List (Int × Int)) (q : List Int) : Prop := ∀ x ∈ q, 0 ≤ x ∧ x < (ts.length : Int)
/-- What the specification's steps leave where they tell 0. -/
def StepB (ts : List (Int × Int)) (q : List Int) : Prop := 0 < ts.length ∧ ts.length ≤ 30 ∧ q.length ≤ 31 ∧ InR ts q
theorem leave_step {st : Int} {ts : List (Int × Int)} {q : List Int} (h : (leaveR st ts q).2.2 = 0) : StepB (leaveR st ts q).1 (leaveR st ts q).2.1 := by
  unfold leaveR at h ⊢
  by_cases hg : specGoodB ts q = true
  case neg => rw [if_neg hg] at h; simp at h
  rw [if_pos hg] at h ⊢
  obtain ⟨hl, _, _, hq1, hq2, _, _⟩ := good_at hg
  cases hf : firstRun ts with
  | none => rw [hf] at h; simp at h
  | some id =>
    obtain ⟨hid, _⟩ := firstRun_lt hf
    dsimp only
    refine ⟨by simp; omega, by simpa using hl, by split <;> (try rw [List.length_append, List.length_singleton]) <;> omega, ?_⟩
    intro x hx
    rw [List.length_set]
    split at hx
    · simp at hx
      rcases hx with hx | rfl
      · exact hq2 x hx
      · omega
    · exact hq2 x hx
theorem pick_step {iv : Int} {ts : List (Int × Int)} {q : List Int} (h : (pickR iv ts q).2.2.2 = 0) : StepB (pickR iv ts q).1 (pickR iv ts q).2.1 := by
  obtain ⟨hg, _, _, i0, i1, _⟩ := pick_good h
  obtain ⟨hl, _, _, hq1, hq2, _, _⟩ := good_at hg
  exact ⟨by omega, hl, by omega, hq2⟩
theorem wake_step {iv : Int} {ts : List (Int × Int)} {q : List Int} (h : (wakeR iv ts q).2.2 = 0) : StepB (wakeR iv ts q).1 (wakeR iv ts q).2.1 ∧ (wakeR iv ts q).2.1 ≠ [] := by
  unfold wakeR at h ⊢
  by_cases hg : specGoodB ts q = true
  case neg => rw [if_neg hg] at h; simp at h
  rw [if_pos hg] at h ⊢
  obtain ⟨hl, _, _, hq1, hq2, _, _⟩ := good_at hg
  by_cases hin : iv < 0 ∨ (ts.length : Int) ≤ iv
  case pos => rw [if_pos hin] at h; simp at h
  rw [if_neg hin] at h ⊢
  by_cases hp : (ts[iv.toNat]?.getD (0, 0)).1 ≠ 3
  case pos => rw [if_pos hp] at h; simp at h
  rw [if_neg hp]
  refine ⟨⟨by simp; omega, by simpa using hl, by simp; omega, ?_⟩, by simp⟩
  intro x hx
  simp at hx ⊢
  rcases hx with hx | rfl
  · exact hq2 x hx
  · omega
theorem spawn_step {ts : List (Int × Int)} {q : List Int} (h : (spawnR ts q).2.2.2 = 0) : StepB (spawnR ts q).1 (spawnR ts q).2.1 ∧ (spawnR ts q).2.1 ≠ [] := by
  unfold spawnR at h ⊢
  by_cases hg : specGoodB ts q = true
  case neg => rw [if_neg hg] at h; simp at h
  rw [if_pos hg] at h ⊢
  obtain ⟨hl, _, _, hq1, hq2, _, _⟩ := good_at hg
  by_cases h30 : ts.length = 30
  case pos => rw [if_pos h30] at h; simp at h
  rw [if_neg h30]
  refine ⟨⟨by simp, by simp; omega, by simp; omega, ?_⟩, by simp⟩
  intro x hx
  simp at hx ⊢
  rcases hx with hx | rfl
  · have := hq2 x hx; omega
  · omega
end Go.Proofs.Ytgbnbnjfaffaiaa.Old
