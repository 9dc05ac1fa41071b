
/- A clock whose timers lie in their own memory; what the specification's steps leave of it. No conditions but those written. -/
import Derived.Test.YtpbgkkemaioidaaXr
import Derived.Test.YtpbgkkemaioidaaOIf
import Derived.Test.YtpbgkkemaioidaaOIh
import Derived.Test.YtpbgkkemaioidaaODg
import Derived.Deep.RegionLawGrows
namespace Go.Proofs.Ytpbgkkemaioidaa
open Go.RowKit

theorem timers_old {n : Nat} {W : World} {ao : Option Addr} {ts : List Old.T3} (h : kT.In n W ao ts) : Old.TimersIn n W ao ts := by
  rcases Nat.eq_zero_or_pos ts.length with h0 | h0
  · exact .inl (List.length_eq_zero_iff.1 h0)
  · obtain ⟨b, off, e, hb, hc⟩ := kT_at h h0
    exact .inr ⟨b, off, e, hb, hc⟩
theorem old_T {lo hi : Nat} {W : World} {to : Option Addr} {tc : Nat} {ts : List Old.T3} (h : Old.FreshC lo hi W to tc ts) (hn : 0 < ts.length) : kT.RW lo hi W to tc ts := by
  rcases h with rfl | ⟨g, xs, rfl, hg, ho, hp⟩
  · simp at hn
  · have e : xs = kT.flat ts := kT.flat_of xs ts ho.1 fun j hj i hi => by
      have hi' : i < 3 := hi
      rcases (show i = 0 ∨ i = 1 ∨ i = 2 from by omega) with rfl | rfl | rfl
      · exact (hp j hj).1
      · exact (hp j hj).2.1
      · exact (hp j hj).2.2
    subst e
    exact ⟨ho, fun g' o e => by cases e; exact hg⟩
/-- A row of timers in its own memory, or empty and without room. -/
def CW (lo hi : Nat) (W : World) (to : Option Addr) (tc : Nat) (ts : List Old.T3) : Prop := (ts = [] ∧ tc = 0) ∨ kT.RW lo hi W to tc ts
section
variable {lo hi : Nat} {W W' : World} {to : Option Addr} {tc : Nat} {ts : List Old.T3}
theorem CW.keep (h : CW lo hi W to tc ts) (hk : ∀ k, lo ≤ k → k < hi → k < W.heap.size → W'.heap[k]? = W.heap[k]?) : CW lo hi W' to tc ts := h.elim .inl fun h => .inr (h.keep hk)
theorem CW.later (h : CW lo hi W to tc ts) (hb : Below W.heap.size W W') : CW lo hi W' to tc ts := h.keep fun k _ _ hk => hb.block k hk
theorem CW.grew {p : Nat} (h : CW lo hi W to tc ts) (hg : Grew p W W') (hp : p < lo) : CW lo hi W' to tc ts := h.keep fun k h1 _ hk => hg.block k hk (by omega)
theorem CW.setOff (h : CW lo hi W to tc ts) {a : Addr} (ha : a.block < lo ∨ hi ≤ a.block) (u : Value) : CW lo hi (W.setCell a u) to tc ts := h.keep fun k h1 h2 _ => Below.heap_setCell W a u k (by omega)
theorem CW.wide {lo' hi' : Nat} (h : CW lo hi W to tc ts) (h1 : lo' ≤ lo) (h2 : hi ≤ hi') : CW lo' hi' W to tc ts := h.elim .inl fun h => .inr (h.wide h1 h2)
theorem CW.no (h : CW lo hi W to tc ts) : to = none → tc = 0 := h.elim (fun h _ => h.2) fun h => h.no
theorem CW.cap (h : CW lo hi W to tc ts) : ts.length ≤ tc := h.elim (fun h => by rw [h.1]; simp) fun h => h.cap
theorem CW.in (h : CW lo hi W to tc ts) : kT.In W.heap.size W to ts := h.elim (fun h => .inl h.1) fun h => h.in
theorem CW.nil : CW lo hi W none 0 [] := .inl ⟨rfl, rfl⟩
theorem cw_of (hT : Old.FreshC lo hi W to tc ts) (h0 : ts = [] → tc = 0) : CW lo hi W to tc ts := by
  rcases Nat.eq_zero_or_pos ts.length with e | e
  · have := List.length_eq_zero_iff.1 e
    exact .inl ⟨this, h0 this⟩
  · exact .inr (old_T hT e)
end
theorem ats_iff (ts : List Old.T3) : Old.AtsIn ts ↔ ∀ t ∈ ts, Old.I64 t.2.1 := by
  unfold Old.AtsIn Old.t3
  constructor
  · intro h t ht
    obtain ⟨j, hj, e⟩ := List.mem_iff_getElem.1 ht
    have := h j hj
    simp [hj, e] at this
    exact this
  · intro h j hj
    simp [hj]
    exact h _ (List.getElem_mem hj)
theorem ats_nil : Old.AtsIn [] := fun j hj => by simp at hj
theorem ats_ins {ts : List Old.T3} {t : Old.T3} (h : Old.AtsIn ts) (ht : Old.I64 t.2.1) : Old.AtsIn (Old.insT ts t) := by
  rw [ats_iff] at *
  intro x hx
  unfold Old.insT at hx
  rcases List.mem_append.1 hx with hx | hx
  · exact h x (List.mem_of_mem_take hx)
  · rcases List.mem_cons.1 hx with rfl | hx
    · exact ht
    · exact h x (List.mem_of_mem_drop hx)
theorem ats_cut {ts : List Old.T3} {k : Nat} (h : Old.AtsIn ts) : Old.AtsIn (ts.take k ++ ts.drop (k + 1)) := by
  rw [ats_iff] at *
  intro x hx
  rcases List.mem_append.1 hx with hx | hx
  · exact h x (List.mem_of_mem_take hx)
  · exact h x (List.mem_of_mem_drop hx)
/-- What a step that is done leaves: the time as it was, at most thirty timers at times that are ints. -/
def StepC (now vnow : Int) (vts : List Old.T3) : Prop := vnow = now ∧ vts.length ≤ 30 ∧ Old.AtsIn vts
theorem stop_step {now sq : Int} {ts : List Old.T3} {id : Int} (hA : Old.AtsIn ts) (h : (Old.stopR now sq ts id).2.2.2 = 0) : StepC now (Old.stopR now sq ts id).1 (Old.stopR now sq ts id).2.2.1 := by
  unfold Old.stopR at h ⊢
  by_cases hg : Old.goodB now sq ts = true
  case neg => rw [if_neg hg] at h; simp at h
  rw [if_pos hg] at h ⊢
  have hl := (Old.good_parts hg).2.2.2.1
  split at h
  · simp at h
  · rename_i k hk
    exact ⟨rfl, by simp; omega, ats_cut hA⟩
theorem arm_step {now sq : Int} {ts : List Old.T3} {id d : Int} (hn : Old.I64 now) (hd : Old.I64 d) (hA : Old.AtsIn ts) (h : (Old.armR now sq ts id d).2.2.2 = 0) : StepC now (Old.armR now sq ts id d).1 (Old.armR now sq ts id d).2.2.1 ∧ (Old.armR now sq ts id d).2.2.1 ≠ [] := by
  unfold Old.armR at h ⊢
  by_cases hg : Old.mayB now sq ts = true
  case neg => rw [if_neg hg] at h; simp at h
  rw [if_pos hg] at h ⊢
  have hl := (Old.good_parts (Old.may_parts hg).1).2.2.2.1
  split at h
  · simp at h
  · by_cases h30 : ts.length = 30
    · rw [if_pos h30] at h; simp at h
    · rw [if_neg h30]
      have hi := Old.insT_len ts (id, Old.laterI now d, sq + 1)
      refine ⟨⟨rfl, by show (Old.insT ts _).length ≤ 30; omega, ats_ins hA (Old.laterI_in hn hd)⟩, fun e => ?_⟩
      have : (Old.insT ts (id, Old.laterI now d, sq + 1)).length = 0 := by dsimp only at e; rw [e]; rfl
      omega
theorem reset_step {now sq : Int} {ts : List Old.T3} {id d : Int} (hn : Old.I64 now) (hd : Old.I64 d) (hA : Old.AtsIn ts) (h : (Old.resetR now sq ts id d).2.2.2 = 0) : StepC now (Old.resetR now sq ts id d).1 (Old.resetR now sq ts id d).2.2.1 ∧ (Old.resetR now sq ts id d).2.2.1 ≠ [] := by
  unfold Old.resetR at h ⊢
  by_cases hg : Old.mayB now sq ts = true
  case neg => rw [if_neg hg] at h; simp at h
  rw [if_pos hg] at h ⊢
  have hl := (Old.good_parts (Old.may_parts hg).1).2.2.2.1
  split at h
  · simp at h
  · rename_i k hk
    have hkl := Old.findT_lt hk
    have he := Old.eraseT_len ts k hkl
    have hi := Old.insT_len (Old.eraseT ts k) (id, Old.laterI now d, sq + 1)
    refine ⟨⟨rfl, by show (Old.insT _ _).length ≤ 30; omega, ats_ins ?_ (Old.laterI_in hn hd)⟩, fun e => ?_⟩
    · exact ats_cut hA
    · have : (Old.insT (Old.eraseT ts k) (id, Old.laterI now d, sq + 1)).length = 0 := by dsimp only at e; rw [e]; rfl
      omega
/-- What a step answers: a clock and a code; the clock is its own where the code is 0. -/
def Left (w w' : World) (now vnow : Int) (vto : Option Addr) (vtc : Nat) (vts : List Old.T3) (cv : Int) : Prop := cv = 0 → StepC now vnow vts ∧ CW w.heap.size w'.heap.size w' vto vtc vts
section
variable {lo hi : Nat} (now sq : Int) (to : Option Addr) (tc : Nat) (ts : List Old.T3)
theorem stepStop (id : Int) (w : World) (hA : Old.AtsIn ts) (ht : ts.length ≤ 1048576) (hD : CW lo hi w to tc ts) :
    Calls Try.prog 19 #[.agg #[.int .i64 now, .int .i64 sq, .slice to ts.length tc], .int .i64 id] w fun e w' => (∃ vnow vsq vto vtc vts cv, e = .returned (.tuple #[.agg #[.int .i64 vnow, .int .i64 vsq, .slice vto vts.length vtc], .int .i64 cv]) ∧ Left w w' now vnow vto vtc vts cv) ∧ Below w.heap.size w w' :=
  (Old.specStop_any now sq to tc ts id w hD.no ht hD.cap (timers_old hD.in)).mono fun _ _ ⟨⟨o, c, e, hT, hz⟩, hb⟩ => ⟨⟨_, _, o, c, _, _, e, fun h => ⟨stop_step hA h, cw_of hT (hz h)⟩⟩, hb⟩
theorem stepReset (id d : Int) (w : World) (hn : Old.I64 now) (hd : Old.I64 d) (hA : Old.AtsIn ts) (ht : ts.length ≤ 1048576) (hD : CW lo hi w to tc ts) :
    Calls Try.prog 20 #[.agg #[.int .i64 now, .int .i64 sq, .slice to ts.length tc], .int .i64 id, .int .i64 d] w fun e w' => (∃ vnow vsq vto vtc vts cv, e = .returned (.tuple #[.agg #[.int .i64 vnow, .int .i64 vsq, .slice vto vts.length vtc], .int .i64 cv]) ∧ Left w w' now vnow vto vtc vts cv) ∧ Below w.heap.size w w' :=
  (Old.specReset_any now sq to tc ts id d w hD.no hn hd hA ht hD.cap (timers_old hD.in)).mono fun _ _ ⟨⟨o, c, e, hT⟩, hb⟩ => ⟨⟨_, _, o, c, _, _, e, fun h => ⟨(reset_step hn hd hA h).1, cw_of hT fun e => ((reset_step hn hd hA h).2 e).elim⟩⟩, hb⟩
theorem stepArm (id d : Int) (w : World) (hn : Old.I64 now) (hd : Old.I64 d) (hA : Old.AtsIn ts) (ht : ts.length ≤ 1048576) (hD : CW lo hi w to tc ts) :
    Calls Try.prog 21 #[.agg #[.int .i64 now, .int .i64 sq, .slice to ts.length tc], .int .i64 id, .int .i64 d] w fun e w' => (∃ vnow vsq vto vtc vts cv, e = .returned (.tuple #[.agg #[.int .i64 vnow, .int .i64 vsq, .slice vto vts.length vtc], .int .i64 cv]) ∧ Left w w' now vnow vto vtc vts cv) ∧ Below w.heap.size w w' :=
  (Old.specArm_any now sq to tc ts id d w hD.no hn hd hA ht hD.cap (timers_old hD.in)).mono fun _ _ ⟨⟨o, c, e, hT⟩, hb⟩ => ⟨⟨_, _, o, c, _, _, e, fun h => ⟨(arm_step hn hd hA h).1, cw_of hT fun e => ((arm_step hn hd hA h).2 e).elim⟩⟩, hb⟩
end
/-- One timer is put behind a clock's row. -/
theorem appC {ops : Array Oper} {o : Oper} {a : Act} {K' : Act → World → Prop} {Q : Exit → Act → World → Prop} {E : Prop} {lo hi : Nat} (W : World) (to : Option Addr) (tc : Nat) (ts : List Old.T3) (hD : CW lo hi W to tc ts) (hg : o.guard = none) (s x : Operand) (hop : o.op = Op.call { callee := Callee.builtin Builtin.append, args := #[s, x], argTypes := #[23, 23] })
    (hs : a.eval s = .slice to ts.length tc) (hlo : lo ≤ W.heap.size) (b : Nat) (z : Old.T3) (hx : a.eval x = .slice (some ⟨b, 0, none⟩) 1 1) (n : Nat) (hz : kT.In n W (some ⟨b, 0, none⟩) [z]) (hl : ts.length ≤ 1048576)
    (hk : ∀ qo' qc' w', Below lo W w' → CW lo w'.heap.size w' qo' qc' (ts ++ [z]) → K' (a.put o.dst (.slice qo' (ts ++ [z]).length qc')) w') :
    if Region.wanted o (yielded ops a.tmps) = true then Oper.wp Try.prog o a W K' Q else E := by
  rcases hD with ⟨rfl, rfl⟩ | hR
  · obtain ⟨i0, z0, hin, hz0, hz1, hz2, hz3⟩ := kT_ok.info
    refine step_append_grows hg s x 23 hop kT.ty i0 z0 kT.sz i0.bytes kT_ok.und hin hz0 hz1 rfl hz2 kT_ok.pos to 0 0 [] hs (fun _ => ⟨rfl, rfl⟩) rfl (by simp) ⟨b, 0, none⟩ 1 1 (kT.flat [z]) hx (kT.flat_len [z]) hz.src (kT.flat_one [z]) (by omega) (by unfold maxLen; omega) (by omega) ?_
    intro v' w' hown hgr
    have hO : kT.Own W.heap.size w' v' ([] ++ [z]) := hown
    have hb : Below W.heap.size W w' := (Below.refl _ _).grown hgr (Nat.le_refl _) (fun k e => by cases e)
    obtain ⟨ao, c, rfl, hO2⟩ := hO.as
    exact hk ao c w' (hb.mono hlo) (.inr ((Kind.RW.of hO2).wide hlo (Nat.le_refl _)))
  · refine Kind.appS kT_ok W hg s x hop lo (.slice to ts.length tc) ts hs hR.1 hlo (some ⟨b, 0, none⟩) [z] 1 1 hx rfl (by simp) n hz (by simp; omega) ?_
    intro v' w' hO hB hG hn
    obtain ⟨ao, c, rfl, hO2⟩ := hO.as
    exact hk ao c w' hB (.inr (Kind.RW.of hO2))
end Go.Proofs.Ytpbgkkemaioidaa
