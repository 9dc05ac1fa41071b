
/- Keepers at work, in memory. No conditions but those written. -/
import Derived.Test.YtbpacibfboldcaaDoorPl
import Derived.Lib.SmallJoins
namespace Go.Proofs.YtbpacibfboldcaaDoor
open Go.RowKit

theorem rowOwn_len {α β : Type} {o : Option Addr} {xs : List α} {ys : List β} (h : xs.length = ys.length) {b : Nat} : rowOwn o xs b ↔ rowOwn o ys b := by unfold rowOwn; rw [h]
theorem DFr.put {A : Type} [Inhabited A] {D : Deep A} (hD : D.Ok) {lo hi : Nat} {W W' : World} {ao : Option Addr} {c : Nat} {ts : List A} (h : DFr D lo hi W ao c ts) {k : Nat} (hk : k < ts.length) {a : A} (hK : D.K.Fresh lo hi W' ao c (ts.set k a)) (hF : D.Fr lo hi W' a) (ho : ∀ b, D.own a b ↔ D.own (el ts k) b) (hb : ∀ b, ¬ rowOwn ao ts b → ¬ D.own (el ts k) b → W'.heap[b]? = W.heap[b]?) : DFr D lo hi W' ao c (ts.set k a) := by
  refine ⟨hK, fun j hj => ?_, fun i j hij hj b h1 h2 => ?_⟩
  · have hj' : j < ts.length := by simpa using hj
    by_cases e : j = k
    · subst e; rw [el_set_same hk]; exact hF
    · rw [el_set_other e]
      refine hD.keep (h.2.1 j hj') fun b hob => hb b (h.head hD hj' hob) fun hob2 => ?_
      rcases Nat.lt_or_gt_of_ne e with hl | hl
      · exact h.2.2 j k hl hk b hob hob2
      · exact h.2.2 k j hl hj' b hob2 hob
  · have hj' : j < ts.length := by simpa using hj
    have e1 : D.own (el (ts.set k a) i) b → D.own (el ts i) b := by
      by_cases e : i = k
      · subst e; rw [el_set_same hk]; exact (ho b).1
      · rw [el_set_other e]; exact id
    have e2 : D.own (el (ts.set k a) j) b → D.own (el ts j) b := by
      by_cases e : j = k
      · subst e; rw [el_set_same hk]; exact (ho b).1
      · rw [el_set_other e]; exact id
    exact h.2.2 i j hij hj' b (e1 h1) (e2 h2)
theorem not_row {α β : Type} {K : Kind α} {L : Kind β} {lo hi lo' hi' : Nat} {W : World} {o o' : Option Addr} {c c' : Nat} {xs : List α} {ys : List β} (h : K.Fresh lo hi W o c xs) (h' : L.Fresh lo' hi' W o' c' ys) (hne : K.ty ≠ L.ty) {b : Nat} (hb : rowOwn o xs b) : ¬ rowOwn o' ys b := by
  intro hb'
  obtain ⟨_, _, _, cur, h3⟩ := h.lt hb
  obtain ⟨_, _, _, cur', h4⟩ := h'.lt hb'
  rw [h3] at h4
  simp at h4
  exact hne h4.2
theorem set_farL {l : List Value} {i j : Nat} {v : Value} (h : i ≠ j) : (l.set i v)[j]? = l[j]? := List.getElem?_set_ne h
theorem ne_HB : hKeeper.ty ≠ kB.ty := by decide
theorem ne_HI : hKeeper.ty ≠ kI.ty := by decide
theorem ne_IB : kI.ty ≠ kB.ty := by decide
/-- The head of a keeper, cell by cell. -/
theorem hK_at {lo hi : Nat} {W : World} {g c : Nat} {us : List LKeeper} (h1 : hKeeper.Fresh lo hi W (some ⟨g, 0, none⟩) c us) {k : Nat} (hk : k < us.length) {kd mr wi up ch : Int} {ro : Option Addr} {rc : Nat} {r : List Bool} {fo : Option Addr} {fc : Nat} {f : List Int} {ov : Bool} (he : el us k = (kd, mr, wi, up, ch, (ro, rc, r), (fo, fc, f), ov)) :
    (W.cell? ⟨g, k * 8, none⟩ = some (.int .i64 kd) ∧ W.cell? ⟨g, k * 8 + 1, none⟩ = some (.int .i64 mr) ∧ W.cell? ⟨g, k * 8 + 2, none⟩ = some (.int .i64 wi) ∧ W.cell? ⟨g, k * 8 + 3, none⟩ = some (.int .i64 up) ∧ W.cell? ⟨g, k * 8 + 4, none⟩ = some (.int .i64 ch) ∧ W.cell? ⟨g, k * 8 + 5, none⟩ = some (.slice ro r.length rc) ∧ W.cell? ⟨g, k * 8 + 6, none⟩ = some (.slice fo f.length fc) ∧ W.cell? ⟨g, k * 8 + 7, none⟩ = some (.bool ov)) ∧ (∀ q, W.frozen? ⟨g, k * 8 + q, none⟩ = false) ∧ lo ≤ g ∧ g < hi ∧ g < W.heap.size := by
  obtain ⟨g2, e2, hg1, hg2, hg3, ho⟩ := h1.at (show 0 < us.length by omega)
  simp at e2; subst e2
  obtain ⟨b0, off, eb, _, hc⟩ := hKeeper_at h1.in hk
  obtain ⟨rfl, rfl⟩ : b0 = g ∧ off = 0 := by simp at eb; exact ⟨eb.1.symm, eb.2.symm⟩
  have hc' := hc k hk
  simp only [Nat.zero_add] at hc'
  rw [he] at hc'
  exact ⟨hc', fun q => ho.frozenAt (k * 8 + q), hg1, hg2, hg3⟩
theorem flat_ov {us : List LKeeper} {k : Nat} (hk : k < us.length) {kd mr wi up ch : Int} {ro : Option Addr} {rc : Nat} {r : List Bool} {fo : Option Addr} {fc : Nat} {f : List Int} {ov : Bool} (he : el us k = (kd, mr, wi, up, ch, (ro, rc, r), (fo, fc, f), ov)) (b : Bool) : (hKeeper.flat us).set (k * 8 + 7) (.bool b) = hKeeper.flat (us.set k (kd, mr, wi, up, ch, (ro, rc, r), (fo, fc, f), b)) := by
  have hlen : (hKeeper.flat us).length = us.length * 8 := hKeeper.flat_len us
  refine hKeeper.flat_of _ _ (by simp [hlen]; rfl) fun j hj q hq => ?_
  have hj' : j < us.length := by simpa using hj
  have hq' : q < 8 := hq
  have hsz : hKeeper.sz = 8 := rfl
  have hold := hKeeper.flat_at us j hj' q hq
  rw [hsz] at hold ⊢
  by_cases e : j = k
  · subst e
    rw [el_set_same hj']
    rw [he] at hold
    rcases (show q = 0 ∨ q = 1 ∨ q = 2 ∨ q = 3 ∨ q = 4 ∨ q = 5 ∨ q = 6 ∨ q = 7 from by omega) with rfl | rfl | rfl | rfl | rfl | rfl | rfl | rfl
    · rw [set_far (by omega), hold]; rfl
    · rw [set_far (by omega), hold]; rfl
    · rw [set_far (by omega), hold]; rfl
    · rw [set_far (by omega), hold]; rfl
    · rw [set_far (by omega), hold]; rfl
    · rw [set_far (by omega), hold]; rfl
    · rw [set_far (by omega), hold]; rfl
    · rw [set_at (by omega)]; rfl
  · rw [el_set_other e, set_far (by omega), hold]
theorem flat_fa {us : List LKeeper} {k : Nat} (hk : k < us.length) {kd mr wi up ch : Int} {ro : Option Addr} {rc : Nat} {r : List Bool} {fo : Option Addr} {fc : Nat} {f : List Int} {ov : Bool} (he : el us k = (kd, mr, wi, up, ch, (ro, rc, r), (fo, fc, f), ov)) (fo' : Option Addr) (fc' : Nat) (f' : List Int) : (hKeeper.flat us).set (k * 8 + 6) (.slice fo' f'.length fc') = hKeeper.flat (us.set k (kd, mr, wi, up, ch, (ro, rc, r), (fo', fc', f'), ov)) := by
  have hlen : (hKeeper.flat us).length = us.length * 8 := hKeeper.flat_len us
  refine hKeeper.flat_of _ _ (by simp [hlen]; rfl) fun j hj q hq => ?_
  have hj' : j < us.length := by simpa using hj
  have hq' : q < 8 := hq
  have hsz : hKeeper.sz = 8 := rfl
  have hold := hKeeper.flat_at us j hj' q hq
  rw [hsz] at hold ⊢
  by_cases e : j = k
  · subst e
    rw [el_set_same hj']
    rw [he] at hold
    rcases (show q = 0 ∨ q = 1 ∨ q = 2 ∨ q = 3 ∨ q = 4 ∨ q = 5 ∨ q = 6 ∨ q = 7 from by omega) with rfl | rfl | rfl | rfl | rfl | rfl | rfl | rfl
    · rw [set_far (by omega), hold]; rfl
    · rw [set_far (by omega), hold]; rfl
    · rw [set_far (by omega), hold]; rfl
    · rw [set_far (by omega), hold]; rfl
    · rw [set_far (by omega), hold]; rfl
    · rw [set_far (by omega), hold]; rfl
    · rw [set_at (by omega)]; rfl
    · rw [set_far (by omega), hold]; rfl
  · rw [el_set_other e, set_far (by omega), hold]
theorem head_ov {lo hi : Nat} {W : World} {g c : Nat} {us : List LKeeper} (h : hKeeper.Fresh lo hi W (some ⟨g, 0, none⟩) c us) {k : Nat} (hk : k < us.length) {kd mr wi up ch : Int} {ro : Option Addr} {rc : Nat} {r : List Bool} {fo : Option Addr} {fc : Nat} {f : List Int} {ov : Bool} (he : el us k = (kd, mr, wi, up, ch, (ro, rc, r), (fo, fc, f), ov)) (b : Bool) : hKeeper.Fresh lo hi (W.setCell ⟨g, k * 8 + 7, none⟩ (.bool b)) (some ⟨g, 0, none⟩) c (us.set k (kd, mr, wi, up, ch, (ro, rc, r), (fo, fc, f), b)) := by
  obtain ⟨g2, e2, hg1, hg2, hg3, ho⟩ := h.at (show 0 < us.length by omega)
  simp at e2; subst e2
  have hs := (World.ownsRow.stored ho (k * 8 + 7) (.bool b)).1
  rw [flat_ov hk he] at hs
  refine .inr ⟨g, rfl, hg2, ?_⟩
  simpa using hs
theorem head_fa {lo hi : Nat} {W : World} {g c : Nat} {us : List LKeeper} (h : hKeeper.Fresh lo hi W (some ⟨g, 0, none⟩) c us) {k : Nat} (hk : k < us.length) {kd mr wi up ch : Int} {ro : Option Addr} {rc : Nat} {r : List Bool} {fo : Option Addr} {fc : Nat} {f : List Int} {ov : Bool} (he : el us k = (kd, mr, wi, up, ch, (ro, rc, r), (fo, fc, f), ov)) (fo' : Option Addr) (fc' : Nat) (f' : List Int) : hKeeper.Fresh lo hi (W.setCell ⟨g, k * 8 + 6, none⟩ (.slice fo' f'.length fc')) (some ⟨g, 0, none⟩) c (us.set k (kd, mr, wi, up, ch, (ro, rc, r), (fo', fc', f'), ov)) := by
  obtain ⟨g2, e2, hg1, hg2, hg3, ho⟩ := h.at (show 0 < us.length by omega)
  simp at e2; subst e2
  have hs := (World.ownsRow.stored ho (k * 8 + 6) (.slice fo' f'.length fc')).1
  rw [flat_fa hk he] at hs
  refine .inr ⟨g, rfl, hg2, ?_⟩
  simpa using hs
/-- The runs of a keeper are turned. -/
theorem DFr.rowR {lo hi : Nat} {W W' : World} {ao : Option Addr} {c : Nat} {us : List LKeeper} (h : DFr dKeeper lo hi W ao c us) {k : Nat} (hk : k < us.length) {kd mr wi up ch : Int} {ro : Option Addr} {rc : Nat} {r : List Bool} {fo : Option Addr} {fc : Nat} {f : List Int} {ov : Bool} (he : el us k = (kd, mr, wi, up, ch, (ro, rc, r), (fo, fc, f), ov)) {r' : List Bool} (hl : r'.length = r.length) (hF : kB.Fresh lo hi W' ro rc r') (hO : OnlyAt (eff ro r.length) W W') :
    DFr dKeeper lo hi W' ao c (us.set k (kd, mr, wi, up, ch, (ro, rc, r'), (fo, fc, f), ov)) := by
  have hf := h.2.1 k hk
  rw [he] at hf
  have h1 : hKeeper.Fresh lo hi W ao c us := h.1
  have hr : kB.Fresh lo hi W ro rc r := hf.1
  have hfa : kI.Fresh lo hi W fo fc f := hf.2
  refine DFr.put dKeeper_ok h hk ?_ ⟨hF, hfa.keepB fun b hb => only_own hO (not_row hfa hr ne_IB hb)⟩ (fun b => ?_) fun b _ h2 => only_own hO fun h3 => h2 (by rw [he]; exact .inl h3)
  · show hKeeper.Fresh _ _ _ _ _ _
    have e : hKeeper.flat (us.set k (kd, mr, wi, up, ch, (ro, rc, r'), (fo, fc, f), ov)) = hKeeper.flat us := by
      refine (hKeeper.flat_of _ _ (by rw [hKeeper.flat_len]; simp) fun j hj q hq => ?_).symm
      have hj' : j < us.length := by simpa using hj
      rw [hKeeper.flat_at us j hj' q hq]
      by_cases e : j = k
      · subst e; rw [el_set_same hj', he]; simp only [hKeeper, hl]
      · rw [el_set_other e]
    have hkk : hKeeper.Fresh lo hi W' ao c us := h1.keepB fun b hb => only_own hO (not_row h1 hr ne_HB hb)
    rcases hkk with hkk | ⟨g, e1, hg, ho⟩
    · rw [hkk] at hk; simp at hk
    · refine .inr ⟨g, e1, hg, ?_⟩
      rw [e]; simpa using ho
  · rw [he]
    show (rowOwn _ r' b ∨ rowOwn _ f b) ↔ (rowOwn _ r b ∨ rowOwn _ f b)
    rw [rowOwn_len hl]
theorem nil_fresh (lo hi : Nat) (W : World) : kI.Fresh lo hi W none 0 [] := .inl rfl
/-- A keeper is over, and has no faults. -/
theorem DFr.endH {lo hi : Nat} {W : World} {g c : Nat} {us : List LKeeper} (h : DFr dKeeper lo hi W (some ⟨g, 0, none⟩) c us) {k : Nat} (hk : k < us.length) {kd mr wi up ch : Int} {ro : Option Addr} {rc : Nat} {r : List Bool} {fo : Option Addr} {fc : Nat} {f : List Int} {ov : Bool} (he : el us k = (kd, mr, wi, up, ch, (ro, rc, r), (fo, fc, f), ov)) :
    DFr dKeeper lo hi ((W.setCell ⟨g, k * 8 + 7, none⟩ (.bool true)).setCell ⟨g, k * 8 + 6, none⟩ (.slice none 0 0)) (some ⟨g, 0, none⟩) c (us.set k (kd, mr, wi, up, ch, (ro, rc, r), (none, 0, []), true)) := by
  have h1 : hKeeper.Fresh lo hi W (some ⟨g, 0, none⟩) c us := h.1
  have h2 := head_ov h1 hk he true
  have h3 := head_fa h2 (by simpa using hk) (el_set_same hk) none 0 []
  rw [List.set_set] at h3
  have hblk : ∀ b, b ≠ g → ((W.setCell ⟨g, k * 8 + 7, none⟩ (.bool true)).setCell ⟨g, k * 8 + 6, none⟩ (.slice none 0 0)).heap[b]? = W.heap[b]? := fun b hb => by
    rw [Below.heap_setCell _ _ _ _ (by simpa using hb), Below.heap_setCell _ _ _ _ (by simpa using hb)]
  have keepJ : ∀ j, j < us.length → dKeeper.Fr lo hi ((W.setCell ⟨g, k * 8 + 7, none⟩ (.bool true)).setCell ⟨g, k * 8 + 6, none⟩ (.slice none 0 0)) (el us j) := fun j hj =>
    dKeeper_ok.keep (h.2.1 j hj) fun b hob => hblk b fun e => by subst e; exact h.head dKeeper_ok hj hob ⟨by omega, rfl⟩
  refine ⟨h3, fun j hj => ?_, fun i j hij hj b h4 h5 => ?_⟩
  · have hj' : j < us.length := by simpa using hj
    by_cases e : j = k
    · subst e; rw [el_set_same hk]
      have := keepJ j hk
      rw [he] at this
      exact ⟨this.1, nil_fresh _ _ _⟩
    · rw [el_set_other e]; exact keepJ j hj'
  · have hj' : j < us.length := by simpa using hj
    have old : ∀ q, q < us.length → dKeeper.own (el (us.set k (kd, mr, wi, up, ch, (ro, rc, r), (none, 0, []), true)) q) b → dKeeper.own (el us q) b := fun q hq h => by
      by_cases e : q = k
      · subst e; rw [el_set_same hk] at h; rw [he]
        rcases h with h | h
        · exact .inl h
        · exact absurd h.1 (by simp)
      · rw [el_set_other e] at h; exact h
    exact h.2.2 i j hij hj' b (old i (by omega) h4) (old j hj' h5)
/-- Where the runs of a keeper lie. -/
def radr (a : LKeeper) : Option Addr × Nat := (a.2.2.2.2.2.1.1, a.2.2.2.2.2.1.2.1)
/-- Keepers at work behind a pointer. -/
def LiveW (t : TypeId) (lo hi : Nat) (W : World) (p : Nat) (ra : List (Option Addr × Nat)) (s : St) : Prop :=
  ∃ (g kc : Nat) (av : Value) (ls : List LKeeper), W.heap[p]? = some (.cells #[.slice (some ⟨g, 0, none⟩) s.1.length kc, av] t (0, 0)) ∧ DFr dKeeper lo hi W (some ⟨g, 0, none⟩) kc ls ∧ kA.Own lo W av s.2 ∧ ls.map valKeeper = s.1 ∧ ls.map radr = ra ∧ lo ≤ p ∧ hi ≤ W.heap.size
/-- The types of the blocks that work writes. -/
def WorkT (t : TypeId) : Prop := t = hKeeper.ty ∨ t = kB.ty ∨ t = kA.ty ∨ t = 62 ∨ t = 54
theorem work_int : ¬ WorkT kI.ty := by unfold WorkT; decide
theorem work_w : WorkT 62 := .inr (.inr (.inr (.inl rfl)))
theorem work_s : WorkT 54 := .inr (.inr (.inr (.inr rfl)))
/-- Blocks of other types are as they were. -/
def IntsKept (W W' : World) : Prop := ∀ (b : Nat) (cur : Array Value) (ty : TypeId), W.heap[b]? = some (Obj.cells cur ty (0, 0)) → ¬ WorkT ty → W'.heap[b]? = W.heap[b]?
theorem IntsKept.refl (W : World) : IntsKept W W := fun _ _ _ _ _ => rfl
theorem IntsKept.trans {a b c : World} (h : IntsKept a b) (k : IntsKept b c) : IntsKept a c := fun q cur ty e hn => (k q cur ty ((h q cur ty e hn).trans e) hn).trans (h q cur ty e hn)
theorem IntsKept.later {W W' : World} (h : Below W.heap.size W W') : IntsKept W W' := fun b _ _ e _ => h.block b (Array.getElem?_eq_some_iff.1 e).1
theorem IntsKept.own {W W' : World} {lo : Nat} {v : Value} {xs : List Int} (h : IntsKept W W') (ho : kI.Own lo W v xs) : kI.Own lo W' v xs := by
  rcases ho.2 with ⟨e, h0⟩ | ⟨g, cap, cur, e, hb, hh, r⟩
  · exact ⟨ho.1, .inl ⟨e, h0⟩⟩
  · exact ⟨ho.1, .inr ⟨g, cap, cur, e, hb, by rw [h g _ _ hh work_int]; exact hh, r⟩⟩
theorem IntsKept.set {W : World} {g i : Nat} {v : Value} {t : TypeId} {cs : Array Value} {fr : Nat × Nat} (hg : W.heap[g]? = some (.cells cs t fr)) (ht : WorkT t) : IntsKept W (W.setCell ⟨g, i, none⟩ v) := fun b cur ty e hn => by
  refine Below.heap_setCell _ _ _ _ fun e2 => ?_
  subst e2
  rw [hg] at e; simp at e
  exact hn (e.2.1 ▸ ht)
theorem LiveW.later {t : TypeId} {lo hi : Nat} {W W' : World} {p : Nat} {ra : List (Option Addr × Nat)} {s : St} (h : LiveW t lo hi W p ra s) (hb : Below W.heap.size W W') : LiveW t lo hi W' p ra s := by
  obtain ⟨g, kc, av, ls, hp, hD, hO, hv, hr, hlo, hhi⟩ := h
  exact ⟨g, kc, av, ls, by rw [hb.block p (Array.getElem?_eq_some_iff.1 hp).1]; exact hp, hD.later dKeeper_ok hb, hO.below hb, hv, hr, hlo, Nat.le_trans hhi hb.size⟩
theorem el_map_val {ls : List LKeeper} {ps : List PKeeper} (hv : ls.map valKeeper = ps) {k : Nat} (hk : k < ls.length) : el ps k = valKeeper (el ls k) := by rw [← hv]; exact el_map _ hk
theorem len_ls {ls : List LKeeper} {ps : List PKeeper} (hv : ls.map valKeeper = ps) : ls.length = ps.length := by rw [← hv]; simp
theorem owns_keepA {W W' : World} {lo : Nat} {v : Value} {xs : List (Int × Int × Int)} (ho : kA.Own lo W v xs) (h : ∀ (g : Nat) (cur : Array Value), W.heap[g]? = some (Obj.cells cur kA.ty (0, 0)) → W'.heap[g]? = W.heap[g]?) : kA.Own lo W' v xs := by
  rcases ho.2 with ⟨e, h0⟩ | ⟨g, cap, cur, e, hb, hh, r⟩
  · exact ⟨ho.1, .inl ⟨e, h0⟩⟩
  · exact ⟨ho.1, .inr ⟨g, cap, cur, e, hb, by rw [h g _ hh]; exact hh, r⟩⟩
/-- A child's run is written. -/
theorem LiveW.putRun {t : TypeId} {lo hi : Nat} {W : World} {p g kc : Nat} {av : Value} {ls : List LKeeper} {ra : List (Option Addr × Nat)} {s : St} (ht : t ≠ kB.ty) (hp : W.heap[p]? = some (.cells #[.slice (some ⟨g, 0, none⟩) s.1.length kc, av] t (0, 0))) (hD : DFr dKeeper lo hi W (some ⟨g, 0, none⟩) kc ls) (hO : kA.Own lo W av s.2) (hv : ls.map valKeeper = s.1) (hr : ls.map radr = ra) (hlo : lo ≤ p) (hhi : hi ≤ W.heap.size)
    {k c : Nat} (hk : k < ls.length) {kd mr wi up ch : Int} {b rc : Nat} {r : List Bool} {fo : Option Addr} {fc : Nat} {f : List Int} {ov : Bool} (he : el ls k = (kd, mr, wi, up, ch, (some ⟨b, 0, none⟩, rc, r), (fo, fc, f), ov)) (hc : c < r.length) (v : Bool) :
    LiveW t lo hi (W.setCell ⟨b, c, none⟩ (.bool v)) p ra (setRun s.1 k c v, s.2) ∧ IntsKept W (W.setCell ⟨b, c, none⟩ (.bool v)) ∧ lo ≤ b ∧ (W.cell? ⟨b, c, none⟩ = some (.bool (el r c)) ∧ W.frozen? ⟨b, c, none⟩ = false) := by
  have hf := hD.2.1 k hk
  rw [he] at hf
  have hrf : kB.Fresh lo hi W (some ⟨b, 0, none⟩) rc r := hf.1
  obtain ⟨g2, e2, hg1, hg2, hg3, ho⟩ := hrf.at (show 0 < r.length by omega)
  simp at e2; subst e2
  obtain ⟨cur, hcur⟩ := owns_type ho
  have hev := el_map_val hv hk
  rw [he] at hev
  have hevk : el s.1 k = (kd, mr, wi, up, ch, r, f, ov) := hev
  have hs := (World.ownsRow.stored ho c (.bool v)).1
  have hfl : kB.flat (r.set c v) = (kB.flat r).set c (.bool v) := by rw [kB_flat, kB_flat, List.map_set]
  have hF : kB.Fresh lo hi (W.setCell ⟨b, c, none⟩ (.bool v)) (some ⟨b, 0, none⟩) rc (r.set c v) := .inr ⟨b, rfl, hg2, by rw [hfl]; simpa using hs⟩
  have hne : ∀ q, q ≠ b → (W.setCell ⟨b, c, none⟩ (.bool v)).heap[q]? = W.heap[q]? := fun q hq => Below.heap_setCell _ _ _ _ hq
  have hpb : p ≠ b := fun e => by subst e; rw [hp] at hcur; simp at hcur; exact ht hcur.2
  refine ⟨⟨g, kc, av, ls.set k (kd, mr, wi, up, ch, (some ⟨b, 0, none⟩, rc, r.set c v), (fo, fc, f), ov), ?_, ?_, ?_, ?_, ?_, hlo, by simpa [World.setCell] using hhi⟩, IntsKept.set hcur (.inr (.inl rfl)), hg1, ?_, ho.frozenAt c⟩
  · rw [hne p hpb, hp]; simp [setRun]
  · have := hD.rowR hk he (r' := r.set c v) (by simp) hF (by rw [eff_pos (by omega)]; exact OnlyAt.set b c W _)
    simpa using this
  · refine owns_keepA hO fun q cur' hq => hne q fun e => ?_
    subst e; rw [hcur] at hq; simp at hq
    exact absurd hq.2 (by decide)
  · rw [List.map_set, hv, setRun, hevk]; rfl
  · rw [List.map_set, ← hr]
    refine el_ext (by simp) fun j hj => ?_
    have hj' : j < ls.length := by simpa using hj
    by_cases e : j = k
    · subst e; rw [el_set_same (by simpa using hj'), el_map _ hj', he]; rfl
    · rw [el_set_other e]
  · obtain ⟨b0, off, eb, _, hcc⟩ := bools_at hrf.in hc
    obtain ⟨rfl, rfl⟩ : b0 = b ∧ off = 0 := by simp at eb; exact ⟨eb.1.symm, eb.2.symm⟩
    simpa using hcc c hc
end Go.Proofs.YtbpacibfboldcaaDoor
