
/- A channel whose rows lie in their own memory; what the specification's steps leave of it. No conditions but those written. -/
import Derived.Test.YtdfmmidokfcjfaaXr
import Derived.Test.YtdfmmidokfcjfaaOJd
import Derived.Test.YtdfmmidokfcjfaaOMe
import Derived.Test.YtdfmmidokfcjfaaOFc
import Derived.Test.YtdfmmidokfcjfaaONa
import Derived.Deep.RegionLawGrows
namespace Go.Proofs.Ytdfmmidokfcjfaa
open Go.RowKit

theorem timers_old {n : Nat} {W : World} {ao : Option Addr} {ts : List Old.T3} (h : kT.In n W ao ts) : Old.TimersIn n W ao ts := by
  rcases Nat.eq_zero_or_pos ts.length with h0 | h0
  · exact .inl (List.length_eq_zero_iff.1 h0)
  · obtain ⟨b, off, e, hb, hc⟩ := kT_at h h0
    exact .inr ⟨b, off, e, hb, hc⟩
theorem ints_old {n : Nat} {W : World} {ao : Option Addr} {zs : List Int} (h : kI.In n W ao zs) : Old.IntsIn n W ao zs := by
  rcases Nat.eq_zero_or_pos zs.length with h0 | h0
  · exact .inl (List.length_eq_zero_iff.1 h0)
  · obtain ⟨b, off, e, hb, hc⟩ := ints_at h h0
    exact .inr ⟨b, off, e, hb, hc⟩
theorem old_ints {n : Nat} {W : World} {ao : Option Addr} {zs : List Int} (h : Old.IntsIn n W ao zs) : kI.In n W ao zs := by
  rcases h with h | ⟨b, off, e, hb, hc⟩
  · exact .inl h
  · refine .inr ⟨b, off, e, hb, fun j hj i hi => ?_⟩
    have hi' : i < 1 := hi
    obtain rfl : i = 0 := by omega
    have := hc j hj
    show W.cell? ⟨b, off + (j * 1 + 0), none⟩ = _
    rw [Nat.mul_one, Nat.add_zero]
    exact this
/-- A row in its own memory, or empty and without room. -/
def RN {α : Type} (K : Kind α) (lo hi : Nat) (W : World) (ao : Option Addr) (c : Nat) (xs : List α) : Prop := (xs = [] ∧ c = 0) ∨ K.RW lo hi W ao c xs
section
variable {α : Type} {K : Kind α} {lo hi : Nat} {W W' : World} {ao : Option Addr} {c : Nat} {xs : List α}
theorem RN.keep (h : RN K lo hi W ao c xs) (hk : ∀ k, lo ≤ k → k < hi → k < W.heap.size → W'.heap[k]? = W.heap[k]?) : RN K lo hi W' ao c xs := h.elim .inl fun h => .inr (h.keep hk)
theorem RN.wide {lo' hi' : Nat} (h : RN K lo hi W ao c xs) (h1 : lo' ≤ lo) (h2 : hi ≤ hi') : RN K lo' hi' W ao c xs := h.elim .inl fun h => .inr (h.wide h1 h2)
theorem RN.no [Inhabited α] (h : RN K lo hi W ao c xs) : ao = none → c = 0 := h.elim (fun h _ => h.2) fun h => h.no
theorem RN.in [Inhabited α] (h : RN K lo hi W ao c xs) : K.In W.heap.size W ao xs := h.elim (fun h => .inl h.1) fun h => h.in
end
theorem rn_T {lo hi : Nat} {W : World} {ao : Option Addr} {c : Nat} {ts : List Old.T3} (h : Old.FreshC lo hi W ao c ts) : RN kT lo hi W ao c ts := by
  rcases h with h | ⟨g, xs, rfl, hg, ho, hp⟩
  · exact .inl h
  · have e : xs = kT.flat ts := kT.flat_of xs ts ho.1 fun j hj i hi => by
      have hi' : i < 3 := hi
      rcases (show i = 0 ∨ i = 1 ∨ i = 2 from by omega) with rfl | rfl | rfl
      · exact (hp j hj).1
      · exact (hp j hj).2.1
      · exact (hp j hj).2.2
    subst e
    exact .inr ⟨ho, fun g' o e => by cases e; exact hg⟩
theorem flat_ints (q : List Int) : q.map (Value.int .i64) = kI.flat q := by
  refine kI.flat_of _ _ (by simp [kI]) fun j hj i hi => ?_
  have hi' : i < 1 := hi
  obtain rfl : i = 0 := by omega
  show (q.map (Value.int .i64))[j * 1 + 0]? = some (.int .i64 (el q j))
  simp [el, hj]
theorem rn_I {lo hi : Nat} {W : World} {ao : Option Addr} {c : Nat} {q : List Int} (h : Old.FreshI lo hi W ao c q) : RN kI lo hi W ao c q := by
  rcases h with h | ⟨g, rfl, hg, ho⟩
  · exact .inl h
  · rw [flat_ints] at ho
    exact .inr ⟨ho, fun g' o e => by cases e; exact hg⟩
/-- A channel's rows, each in its own memory. -/
def XW (lo hi : Nat) (W : World) (bo : Option Addr) (bc : Nat) (b : List Int) (so : Option Addr) (sc : Nat) (s : List Old.T3) (ro : Option Addr) (rc : Nat) (r : List Old.T3) : Prop :=
  RN kI lo hi W bo bc b ∧ RN kT lo hi W so sc s ∧ RN kT lo hi W ro rc r ∧ Old.Apart so sc s ro rc r
section
variable {lo hi : Nat} {W W' : World} {bo : Option Addr} {bc : Nat} {b : List Int} {so : Option Addr} {sc : Nat} {s : List Old.T3} {ro : Option Addr} {rc : Nat} {r : List Old.T3}
theorem XW.keep (h : XW lo hi W bo bc b so sc s ro rc r) (hk : ∀ k, lo ≤ k → k < hi → k < W.heap.size → W'.heap[k]? = W.heap[k]?) : XW lo hi W' bo bc b so sc s ro rc r := ⟨h.1.keep hk, h.2.1.keep hk, h.2.2.1.keep hk, h.2.2.2⟩
theorem XW.later (h : XW lo hi W bo bc b so sc s ro rc r) (hb : Below W.heap.size W W') : XW lo hi W' bo bc b so sc s ro rc r := h.keep fun k _ _ hk => hb.block k hk
theorem XW.grew {p : Nat} (h : XW lo hi W bo bc b so sc s ro rc r) (hg : Grew p W W') (hp : p < lo) : XW lo hi W' bo bc b so sc s ro rc r := h.keep fun k h1 _ hk => hg.block k hk (by omega)
theorem XW.setOff (h : XW lo hi W bo bc b so sc s ro rc r) {a : Addr} (ha : a.block < lo ∨ hi ≤ a.block) (u : Value) : XW lo hi (W.setCell a u) bo bc b so sc s ro rc r := h.keep fun k h1 h2 _ => Below.heap_setCell W a u k (by omega)
theorem XW.wide {lo' hi' : Nat} (h : XW lo hi W bo bc b so sc s ro rc r) (h1 : lo' ≤ lo) (h2 : hi ≤ hi') : XW lo' hi' W bo bc b so sc s ro rc r := ⟨h.1.wide h1 h2, h.2.1.wide h1 h2, h.2.2.1.wide h1 h2, h.2.2.2⟩
theorem XW.wf (h : XW lo hi W bo bc b so sc s ro rc r) : Old.Wf3 bo bc so sc ro rc := ⟨h.1.no, h.2.1.no, h.2.2.1.no⟩
theorem XW.chan (h : XW lo hi W bo bc b so sc s ro rc r) : Old.ChanIn W.heap.size W bo b so s ro r := ⟨ints_old h.1.in, timers_old h.2.1.in, timers_old h.2.2.1.in⟩
theorem xw_nil : XW lo hi W none 0 [] none 0 [] none 0 [] := ⟨.inl ⟨rfl, rfl⟩, .inl ⟨rfl, rfl⟩, .inl ⟨rfl, rfl⟩, .inl ⟨rfl, rfl⟩⟩
theorem xw_of (h : Old.FreshCh lo hi W bo bc b so sc s ro rc r) : XW lo hi W bo bc b so sc s ro rc r := ⟨rn_I h.1, rn_T h.2.1, rn_T h.2.2.1, h.2.2.2⟩
end
/-- A channel's rows, each its own or empty without room; two may share a block. -/
def XV (lo hi : Nat) (W : World) (bo : Option Addr) (bc : Nat) (b : List Int) (so : Option Addr) (sc : Nat) (s : List Old.T3) (ro : Option Addr) (rc : Nat) (r : List Old.T3) : Prop :=
  RN kI lo hi W bo bc b ∧ RN kT lo hi W so sc s ∧ RN kT lo hi W ro rc r
section
variable {lo hi : Nat} {W W' : World} {bo : Option Addr} {bc : Nat} {b : List Int} {so : Option Addr} {sc : Nat} {s : List Old.T3} {ro : Option Addr} {rc : Nat} {r : List Old.T3}
theorem XW.xv (h : XW lo hi W bo bc b so sc s ro rc r) : XV lo hi W bo bc b so sc s ro rc r := ⟨h.1, h.2.1, h.2.2.1⟩
theorem XV.keep (h : XV lo hi W bo bc b so sc s ro rc r) (hk : ∀ k, lo ≤ k → k < hi → k < W.heap.size → W'.heap[k]? = W.heap[k]?) : XV lo hi W' bo bc b so sc s ro rc r := ⟨h.1.keep hk, h.2.1.keep hk, h.2.2.keep hk⟩
theorem XV.later (h : XV lo hi W bo bc b so sc s ro rc r) (hb : Below W.heap.size W W') : XV lo hi W' bo bc b so sc s ro rc r := h.keep fun k _ _ hk => hb.block k hk
theorem XV.grew {p : Nat} (h : XV lo hi W bo bc b so sc s ro rc r) (hg : Grew p W W') (hp : p < lo) : XV lo hi W' bo bc b so sc s ro rc r := h.keep fun k h1 _ hk => hg.block k hk (by omega)
theorem XV.setOff (h : XV lo hi W bo bc b so sc s ro rc r) {a : Addr} (ha : a.block < lo ∨ hi ≤ a.block) (u : Value) : XV lo hi (W.setCell a u) bo bc b so sc s ro rc r := h.keep fun k h1 h2 _ => Below.heap_setCell W a u k (by omega)
theorem XV.wide {lo' hi' : Nat} (h : XV lo hi W bo bc b so sc s ro rc r) (h1 : lo' ≤ lo) (h2 : hi ≤ hi') : XV lo' hi' W bo bc b so sc s ro rc r := ⟨h.1.wide h1 h2, h.2.1.wide h1 h2, h.2.2.wide h1 h2⟩
theorem XV.wf (h : XV lo hi W bo bc b so sc s ro rc r) : Old.Wf3 bo bc so sc ro rc := ⟨h.1.no, h.2.1.no, h.2.2.no⟩
theorem XV.chan (h : XV lo hi W bo bc b so sc s ro rc r) : Old.ChanIn W.heap.size W bo b so s ro r := ⟨ints_old h.1.in, timers_old h.2.1.in, timers_old h.2.2.in⟩
end
/-- What a step leaves: short rows. -/
def Short (R : Int × Bool × List Int × List Old.T3 × List Old.T3 × List Old.T4 × Int) : Prop := R.2.2.1.length ≤ 41 ∧ R.2.2.2.1.length ≤ 41 ∧ R.2.2.2.2.1.length ≤ 41
theorem more_short {s : List Old.T3} {t : Old.T3} (h : s.length ≤ 40) : (Old.moreW s t).1.length ≤ 41 := by
  unfold Old.moreW; split
  · dsimp only; omega
  · simp; omega
theorem send_short {kap : Int} {cl : Bool} {b : List Int} {s r : List Old.T3} {t : Old.T3} : Short (Old.sendR kap cl b s r t) := by
  unfold Old.sendR
  split
  · rename_i h
    simp only [Bool.and_eq_true] at h
    obtain ⟨_, h2, h3, h4, h5⟩ := Old.goodC_len h.1
    have := more_short (t := t) h4
    repeat' split
    all_goals (simp [Short]; omega)
  · simp [Short]
theorem recv_short {kap : Int} {cl : Bool} {b : List Int} {s r : List Old.T3} {t : Old.T3} : Short (Old.recvR kap cl b s r t) := by
  unfold Old.recvR
  split
  · rename_i h
    simp only [Bool.and_eq_true] at h
    obtain ⟨_, h2, h3, h4, h5⟩ := Old.goodC_len h.1
    have := more_short (t := t) h5
    unfold Old.recvI
    repeat' split
    all_goals (simp [Short]; omega)
  · simp [Short]
theorem close_short {kap : Int} {cl : Bool} {b : List Int} {s r : List Old.T3} : Short (Old.closeR kap cl b s r) := by
  unfold Old.closeR
  split
  · rename_i h
    obtain ⟨_, h2, h3, h4, h5⟩ := Old.goodC_len h
    split
    all_goals (simp [Short]; omega)
  · simp [Short]
section
variable {lo hi : Nat} (kap : Int) (cl : Bool) (bo : Option Addr) (bc : Nat) (b : List Int) (so : Option Addr) (sc : Nat) (s : List Old.T3) (ro : Option Addr) (rc : Nat) (r : List Old.T3)
/-- What a step answers: a channel of its own with short rows, who is woken, and a code. -/
def AnsX (w : World) (e : Ending) (w' : World) : Prop := (∃ (vk : Int) (vcl : Bool) (vbo : Option Addr) (vbc : Nat) (vb : List Int) (vso : Option Addr) (vsc : Nat) (vs : List Old.T3) (vro : Option Addr) (vrc : Nat) (vr : List Old.T3) (ko : Option Addr) (kn kc : Nat) (cv : Int), e = .returned (.tuple #[.agg #[.int .i64 vk, .bool vcl, .slice vbo vb.length vbc, .slice vso vs.length vsc, .slice vro vr.length vrc], .slice ko kn kc, .int .i64 cv]) ∧ (vb.length ≤ 41 ∧ vs.length ≤ 41 ∧ vr.length ≤ 41) ∧ XW w.heap.size w'.heap.size w' vbo vbc vb vso vsc vs vro vrc vr) ∧ Below w.heap.size w w'
theorem ansX_of {w : World} {R : Int × Bool × List Int × List Old.T3 × List Old.T3 × List Old.T4 × Int} {e : Ending} {w' : World} (h : Old.AnsU w R e w') (hs : Short R) : AnsX w e w' := by
  obtain ⟨⟨bo, bc, so, sc, ro, rc, ko, kc, e, hF, _, _⟩, hb⟩ := h
  exact ⟨⟨_, _, bo, bc, _, so, sc, _, ro, rc, _, ko, _, kc, _, e, hs, xw_of hF⟩, hb⟩
theorem stepSend (t1 t2 tv : Int) (w : World) (h1 : b.length ≤ 1048576) (h2 : s.length ≤ 1048576) (h3 : r.length ≤ 1048576) (hD : XW lo hi w bo bc b so sc s ro rc r) :
    Calls Try.prog 6 #[.agg #[.int .i64 kap, .bool cl, .slice bo b.length bc, .slice so s.length sc, .slice ro r.length rc], .agg #[.int .i64 t1, .int .i64 t2, .int .i64 tv]] w (AnsX w) :=
  (Old.specSend_any kap cl bo bc b so sc s ro rc r t1 t2 tv w h1 h2 h3 hD.chan hD.wf).mono fun _ _ h => ansX_of h send_short
theorem stepRecv (t1 t2 tv : Int) (w : World) (h1 : b.length ≤ 1048576) (h2 : s.length ≤ 1048576) (h3 : r.length ≤ 1048576) (hD : XW lo hi w bo bc b so sc s ro rc r) :
    Calls Try.prog 30 #[.agg #[.int .i64 kap, .bool cl, .slice bo b.length bc, .slice so s.length sc, .slice ro r.length rc], .agg #[.int .i64 t1, .int .i64 t2, .int .i64 tv]] w (AnsX w) :=
  (Old.specRecv_any kap cl bo bc b so sc s ro rc r t1 t2 tv w h1 h2 h3 hD.chan hD.wf).mono fun _ _ h => ansX_of h recv_short
theorem stepClose (w : World) (h1 : b.length ≤ 1048576) (h2 : s.length ≤ 1048576) (h3 : r.length ≤ 1048576) (hD : XW lo hi w bo bc b so sc s ro rc r) :
    Calls Try.prog 31 #[.agg #[.int .i64 kap, .bool cl, .slice bo b.length bc, .slice so s.length sc, .slice ro r.length rc]] w (AnsX w) :=
  (Old.specClose_any kap cl bo bc b so sc s ro rc r w h1 h2 h3 hD.chan hD.wf).mono fun _ _ h => ansX_of h close_short
end
theorem specNew_some (z : Int) (w : World) :
    Calls Try.prog 27 #[.int .i64 z] w fun e w' => (∃ (k : Int) (x : Bool), e = .returned (.tuple #[.agg #[.int .i64 k, .bool false, .slice none 0 0, .slice none 0 0, .slice none 0 0], .bool x])) ∧ Below w.heap.size w w' :=
  (Old.specNew_any z w).mono fun _ _ h => ⟨⟨_, _, h.1⟩, h.2⟩
theorem rw_grown {α β : Type} {K : Kind α} {K' : Kind β} (ht : K.ty ≠ K'.ty) {lo hi lo' : Nat} {W W' : World} {v : Value} {ta : Option Addr} {tc : Nat} {xs : List α} {ys : List β} (h : K.RW lo hi W ta tc xs) (hv : K'.Own lo' W v ys) (hG : W.grownBy W' v.ownBlock) : K.RW lo hi W' ta tc xs := by
  refine ⟨?_, h.2⟩
  obtain ⟨h1, h2⟩ := h.1
  refine ⟨h1, ?_⟩
  rcases h2 with h2 | ⟨g, cap, cur, hv2, hg, hb, r⟩
  · exact .inl h2
  · refine .inr ⟨g, cap, cur, hv2, hg, ?_, r⟩
    rw [hG.block g (Array.getElem?_eq_some_iff.1 hb).1 ?_]
    · exact hb
    · intro e
      rcases hv.2 with ⟨hv', _⟩ | ⟨g', cap', cur', hv', _, hb', _⟩
      · subst hv'; simp [Value.ownBlock] at e
      · subst hv'
        simp [Value.ownBlock] at e
        subst e
        rw [hb] at hb'
        simp at hb'
        exact ht hb'.2
theorem rw_apart {α : Type} {K : Kind α} {lo hi : Nat} {W W' : World} {v : Value} {ta : Option Addr} {tc : Nat} {xs : List α} (h : K.RW lo hi W ta tc xs) (hne : ∀ g, ta = some ⟨g, 0, none⟩ → v.ownBlock ≠ some g) (hG : W.grownBy W' v.ownBlock) : K.RW lo hi W' ta tc xs := by
  refine ⟨?_, h.2⟩
  obtain ⟨h1, h2⟩ := h.1
  refine ⟨h1, ?_⟩
  rcases h2 with h2 | ⟨g, cap, cur, hv2, hg, hb, r⟩
  · exact .inl h2
  · refine .inr ⟨g, cap, cur, hv2, hg, ?_, r⟩
    have e : ta = some ⟨g, 0, none⟩ := by simp at hv2; exact hv2.1
    rw [hG.block g (Array.getElem?_eq_some_iff.1 hb).1 (fun x => hne g e x.symm)]
    exact hb
/-- One waiter is put behind a channel's receivers. -/
theorem appX {ops : Array Oper} {o : Oper} {a : Act} {K' : Act → World → Prop} {Q : Exit → Act → World → Prop} {E : Prop} {lo hi : Nat} (W : World) {bo : Option Addr} {bc : Nat} {b : List Int} {so : Option Addr} {sc : Nat} {s : List Old.T3} (ro : Option Addr) (rc : Nat) (r : List Old.T3) (hD : XW lo hi W bo bc b so sc s ro rc r) (hg : o.guard = none) (sl x : Operand) (hop : o.op = Op.call { callee := Callee.builtin Builtin.append, args := #[sl, x], argTypes := #[24, 24] })
    (hs : a.eval sl = .slice ro r.length rc) (hlo : lo ≤ W.heap.size) (q : Nat) (z : Old.T3) (hx : a.eval x = .slice (some ⟨q, 0, none⟩) 1 1) (n : Nat) (hz : kT.In n W (some ⟨q, 0, none⟩) [z]) (hl : r.length ≤ 1048576)
    (hk : ∀ qo' qc' w', Below lo W w' → XV lo w'.heap.size w' bo bc b so sc s qo' qc' (r ++ [z]) → K' (a.put o.dst (.slice qo' (r ++ [z]).length qc')) w') :
    if Region.wanted o (yielded ops a.tmps) = true then Oper.wp Try.prog o a W K' Q else E := by
  have hw : ∀ {β : Type} {K : Kind β} {ao : Option Addr} {c : Nat} {xs : List β} {w' : World}, Below W.heap.size W w' → RN K lo hi W ao c xs → RN K lo w'.heap.size w' ao c xs := by
    intro β K ao c xs w' hb h
    rcases h with h | h
    · exact .inl h
    · exact .inr (Kind.RW.of (h.later hb).1)
  by_cases h00 : r = [] ∧ rc = 0
  · obtain ⟨rfl, rfl⟩ := h00
    obtain ⟨i0, z0, hin, hz0, hz1, hz2, hz3⟩ := kT_ok.info
    refine step_append_grows hg sl x 24 hop kT.ty i0 z0 kT.sz i0.bytes kT_ok.und hin hz0 hz1 rfl hz2 kT_ok.pos ro 0 0 [] hs (fun _ => ⟨rfl, rfl⟩) rfl (by simp) ⟨q, 0, none⟩ 1 1 (kT.flat [z]) hx (kT.flat_len [z]) hz.src (kT.flat_one [z]) (by omega) (by unfold maxLen; omega) (by omega) ?_
    intro v' w' hown hgr
    have hO : kT.Own W.heap.size w' v' ([] ++ [z]) := hown
    have hb : Below W.heap.size W w' := (Below.refl _ _).grown hgr (Nat.le_refl _) (fun k e => by cases e)
    obtain ⟨ao, c, rfl, hO2⟩ := hO.as
    exact hk ao c w' (hb.mono hlo) ⟨hw hb hD.1, hw hb hD.2.1, .inr ((Kind.RW.of hO2).wide hlo (Nat.le_refl _))⟩
  · have hR : kT.RW lo hi W ro rc r := hD.2.2.1.elim (fun h => absurd h h00) id
    refine Kind.appS kT_ok W hg sl x hop lo (.slice ro r.length rc) r hs hR.1 hlo (some ⟨q, 0, none⟩) [z] 1 1 hx rfl (by simp) n hz (by simp; omega) ?_
    intro v' w' hO hB hG hn
    obtain ⟨ao, c, rfl, hO2⟩ := hO.as
    refine hk ao c w' hB ⟨?_, ?_, .inr (Kind.RW.of hO2)⟩
    · rcases hD.1 with h | h
      · exact .inl h
      · exact .inr (Kind.RW.of (rw_grown (by decide) h hR.1 hG).1)
    · rcases hD.2.1 with h | h
      · exact .inl h
      · rcases hD.2.2.2 with h' | h' | h'
        · exact .inl h'
        · exact absurd h' h00
        · refine .inr (Kind.RW.of (rw_apart h (fun g e hv => ?_) hG).1)
          rcases hR.1.2 with ⟨e1, _⟩ | ⟨g1, c1, _, e1, _⟩
          · rw [e1] at hv; simp [Value.ownBlock] at hv
          · rw [e1] at hv
            simp [Value.ownBlock] at hv
            subst hv
            simp at e1
            exact h' (e.trans e1.1.symm)
end Go.Proofs.Ytdfmmidokfcjfaa
