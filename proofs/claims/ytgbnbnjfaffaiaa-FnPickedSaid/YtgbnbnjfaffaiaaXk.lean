
/- A board whose rows are its own; what the specification's steps leave of it. No conditions but those written. -/
import Derived.Test.YtgbnbnjfaffaiaaXr
import Derived.Test.YtgbnbnjfaffaiaaPn
import Derived.Test.YtgbnbnjfaffaiaaOSc
import Derived.Test.YtgbnbnjfaffaiaaOMj
import Derived.Test.YtgbnbnjfaffaiaaOQb
import Derived.Deep.RegionLawGrows
namespace Go.Proofs.Ytgbnbnjfaffaiaa
open Go.RowKit

theorem tasks_old {n : Nat} {W : World} {ao : Option Addr} {ts : List (Int × Int)} (h : kT.In n W ao ts) : Old.TasksIn n W ao ts := by
  rcases Nat.eq_zero_or_pos ts.length with h0 | h0
  · exact .inl (List.length_eq_zero_iff.1 h0)
  · obtain ⟨b, off, e, hb, hc⟩ := kT_at h h0
    exact .inr ⟨b, off, e, hb, hc⟩
theorem ints_old {n : Nat} {W : World} {ao : Option Addr} {zs : List Int} (h : kI.In n W ao zs) : Old.IntsIn n W ao zs := by
  rcases Nat.eq_zero_or_pos zs.length with h0 | h0
  · exact .inl (List.length_eq_zero_iff.1 h0)
  · obtain ⟨b, off, e, hb, hc⟩ := ints_at h h0
    exact .inr ⟨b, off, e, hb, hc⟩
theorem old_T {lo hi : Nat} {W : World} {to : Option Addr} {tc : Nat} {ts : List (Int × Int)} (h : Old.FreshT lo hi W to tc ts) (hn : 0 < ts.length) : kT.RW lo hi W to tc ts := by
  rcases h with rfl | ⟨g, xs, rfl, hg, ho, hp⟩
  · simp at hn
  · have e : xs = kT.flat ts := kT.flat_of xs ts ho.1 fun j hj i hi => by
      have hi' : i < 2 := hi
      rcases (show i = 0 ∨ i = 1 from by omega) with rfl | rfl
      · exact (hp j hj).1
      · exact (hp j hj).2
    subst e
    exact ⟨ho, fun g' o e => by cases e; exact hg⟩
theorem flat_ints (q : List Int) : q.map (Value.int .i64) = kI.flat q := by
  refine kI.flat_of _ _ (by simp [kI]) fun j hj i hi => ?_
  have hi' : i < 1 := hi
  obtain rfl : i = 0 := by omega
  show (q.map (Value.int .i64))[j * 1 + 0]? = some (.int .i64 (el q j))
  simp [el, hj]
theorem old_I {lo hi : Nat} {W : World} {to : Option Addr} {tc : Nat} {q : List Int} (h : Old.FreshI lo hi W to tc q) (hn : 0 < q.length) : kI.RW lo hi W to tc q := by
  rcases h with rfl | ⟨g, rfl, hg, ho⟩
  · simp at hn
  · rw [flat_ints] at ho
    exact ⟨ho, fun g' o e => by cases e; exact hg⟩
theorem rw_grown {α β : Type} {K : Kind α} {K' : Kind β} (ht : K.ty ≠ K'.ty) {lo hi lo' : Nat} {W W' : World} {v : Value} {to : Option Addr} {tc : Nat} {xs : List α} {ys : List β} (h : K.RW lo hi W to tc xs) (hv : K'.Own lo' W v ys) (hG : W.grownBy W' v.ownBlock) : K.RW lo hi W' to tc xs := by
  refine ⟨?_, h.2⟩
  obtain ⟨h1, h2⟩ := h.1
  refine ⟨h1, ?_⟩
  rcases h2 with h2 | ⟨g, cap, cur, hv2, hg, hb, r⟩
  · exact .inl h2
  · refine .inr ⟨g, cap, cur, hv2, hg, ?_, r⟩
    rw [hG.block g (Array.getElem?_eq_some_iff.1 hb).1 ?_]
    · exact hb
    · intro e
      rcases hv.2 with ⟨hv', _⟩ | ⟨g', cap', cur', hv', _, hb', _⟩
      · subst hv'; simp [Value.ownBlock] at e
      · subst hv'
        simp [Value.ownBlock] at e
        subst e
        rw [hb] at hb'
        simp at hb'
        exact ht hb'.2
/-- A queue in its own memory, or empty and without room. -/
def QW (lo hi : Nat) (W : World) (qo : Option Addr) (qc : Nat) (q : List Int) : Prop := (q = [] ∧ qc = 0) ∨ kI.RW lo hi W qo qc q
/-- A board in its own memory. -/
def BW (lo hi : Nat) (W : World) (to : Option Addr) (tc : Nat) (ts : List (Int × Int)) (qo : Option Addr) (qc : Nat) (q : List Int) : Prop := kT.RW lo hi W to tc ts ∧ QW lo hi W qo qc q
section
variable {lo hi : Nat} {W W' : World} {to : Option Addr} {tc : Nat} {ts : List (Int × Int)} {qo : Option Addr} {qc : Nat} {q : List Int}
theorem BW.keep (h : BW lo hi W to tc ts qo qc q) (hk : ∀ k, lo ≤ k → k < hi → k < W.heap.size → W'.heap[k]? = W.heap[k]?) : BW lo hi W' to tc ts qo qc q :=
  ⟨h.1.keep hk, h.2.elim .inl fun h => .inr (h.keep hk)⟩
theorem BW.later (h : BW lo hi W to tc ts qo qc q) (hb : Below W.heap.size W W') : BW lo hi W' to tc ts qo qc q := h.keep fun k _ _ hk => hb.block k hk
theorem BW.grew {p : Nat} (h : BW lo hi W to tc ts qo qc q) (hg : Grew p W W') (hp : p < lo) : BW lo hi W' to tc ts qo qc q := h.keep fun k h1 _ hk => hg.block k hk (by omega)
theorem BW.setOff (h : BW lo hi W to tc ts qo qc q) {a : Addr} (ha : a.block < lo ∨ hi ≤ a.block) (u : Value) : BW lo hi (W.setCell a u) to tc ts qo qc q := h.keep fun k h1 h2 _ => Below.heap_setCell W a u k (by omega)
theorem BW.wide {lo' hi' : Nat} (h : BW lo hi W to tc ts qo qc q) (h1 : lo' ≤ lo) (h2 : hi ≤ hi') : BW lo' hi' W to tc ts qo qc q := ⟨h.1.wide h1 h2, h.2.elim .inl fun h => .inr (h.wide h1 h2)⟩
theorem BW.no (h : BW lo hi W to tc ts qo qc q) : (to = none → tc = 0) ∧ (qo = none → qc = 0) := ⟨h.1.no, h.2.elim (fun h _ => h.2) fun h => h.no⟩
theorem BW.tasks (h : BW lo hi W to tc ts qo qc q) : kT.In W.heap.size W to ts := h.1.in
theorem BW.ints (h : BW lo hi W to tc ts qo qc q) : kI.In W.heap.size W qo q := h.2.elim (fun h => .inl h.1) fun h => h.in
theorem bw_nil : BW lo hi W none 0 [] none 0 [] := ⟨Kind.RW.nil, .inl ⟨rfl, rfl⟩⟩
theorem bw_of (hT : Old.FreshT lo hi W to tc ts) (hn : 0 < ts.length) (hI : Old.FreshI lo hi W qo qc q) (h0 : q = [] → qc = 0) : BW lo hi W to tc ts qo qc q := by
  refine ⟨old_T hT hn, ?_⟩
  rcases Nat.eq_zero_or_pos q.length with e | e
  · have := List.length_eq_zero_iff.1 e
    exact .inl ⟨this, h0 this⟩
  · exact .inr (old_I hI e)
end
/-- What a step answers: a board, maybe an id, a code; the board is its own where the code is 0. -/
def Left (w w' : World) (vto : Option Addr) (vtc : Nat) (vts : List (Int × Int)) (vqo : Option Addr) (vqc : Nat) (vq : List Int) (cv : Int) : Prop := cv = 0 → Old.StepB vts vq ∧ BW w.heap.size w'.heap.size w' vto vtc vts vqo vqc vq
section
variable {lo hi : Nat} (to : Option Addr) (tc : Nat) (ts : List (Int × Int)) (qo : Option Addr) (qc : Nat) (q : List Int)
theorem stepSpawn (w : World) (ht : ts.length ≤ 1048576) (hq : q.length ≤ 1048576) (hD : BW lo hi w to tc ts qo qc q) :
    Calls Try.prog 32 #[.agg #[.slice to ts.length tc, .slice qo q.length qc]] w fun e w' => (∃ vto vtc vts vqo vqc vq iv cv, e = .returned (.tuple #[.agg #[.slice vto vts.length vtc, .slice vqo vq.length vqc], .int .i64 iv, .int .i64 cv]) ∧ Left w w' vto vtc vts vqo vqc vq cv) ∧ Below w.heap.size w w' :=
  (Old.specSpawn_any to tc ts qo qc q w hD.no ht hq (tasks_old hD.tasks) (ints_old hD.ints)).mono fun _ _ ⟨⟨o, c, o2, c2, e, hT, hI⟩, hb⟩ => ⟨⟨o, c, _, o2, c2, _, _, _, e, fun h => ⟨(Old.spawn_step h).1, bw_of hT (Old.spawn_step h).1.1 hI fun e => ((Old.spawn_step h).2 e).elim⟩⟩, hb⟩
theorem stepPick (iv : Int) (w : World) (ht : ts.length ≤ 1048576) (hq : q.length ≤ 1048576) (hD : BW lo hi w to tc ts qo qc q) :
    Calls Try.prog 6 #[.agg #[.slice to ts.length tc, .slice qo q.length qc], .int .i64 iv] w fun e w' => (∃ vto vtc vts vqo vqc vq iv cv, e = .returned (.tuple #[.agg #[.slice vto vts.length vtc, .slice vqo vq.length vqc], .int .i64 iv, .int .i64 cv]) ∧ Left w w' vto vtc vts vqo vqc vq cv) ∧ Below w.heap.size w w' :=
  (Old.specPick_any to tc ts qo qc q iv w hD.no ht hq (tasks_old hD.tasks) (ints_old hD.ints)).mono fun _ _ ⟨⟨o, c, o2, c2, e, hT, hI, h0⟩, hb⟩ => ⟨⟨o, c, _, o2, c2, _, _, _, e, fun h => ⟨Old.pick_step h, bw_of hT (Old.pick_step h).1 hI (h0 h)⟩⟩, hb⟩
theorem stepYield (w : World) (ht : ts.length ≤ 1048576) (hq : q.length ≤ 1048576) (hD : BW lo hi w to tc ts qo qc q) :
    Calls Try.prog 12 #[.agg #[.slice to ts.length tc, .slice qo q.length qc]] w fun e w' => (∃ vto vtc vts vqo vqc vq cv, e = .returned (.tuple #[.agg #[.slice vto vts.length vtc, .slice vqo vq.length vqc], .int .i64 cv]) ∧ Left w w' vto vtc vts vqo vqc vq cv) ∧ Below w.heap.size w w' :=
  (Old.specYield_any to tc ts qo qc q w hD.no ht hq (tasks_old hD.tasks) (ints_old hD.ints)).mono fun _ _ ⟨⟨o, c, o2, c2, e, hT, hI, h0⟩, hb⟩ => ⟨⟨o, c, _, o2, c2, _, _, e, fun h => ⟨Old.leave_step h, bw_of hT (Old.leave_step h).1 hI (h0 h)⟩⟩, hb⟩
theorem stepPark (w : World) (ht : ts.length ≤ 1048576) (hq : q.length ≤ 1048576) (hD : BW lo hi w to tc ts qo qc q) :
    Calls Try.prog 33 #[.agg #[.slice to ts.length tc, .slice qo q.length qc]] w fun e w' => (∃ vto vtc vts vqo vqc vq cv, e = .returned (.tuple #[.agg #[.slice vto vts.length vtc, .slice vqo vq.length vqc], .int .i64 cv]) ∧ Left w w' vto vtc vts vqo vqc vq cv) ∧ Below w.heap.size w w' :=
  (Old.specPark_any to tc ts qo qc q w hD.no ht hq (tasks_old hD.tasks) (ints_old hD.ints)).mono fun _ _ ⟨⟨o, c, o2, c2, e, hT, hI, h0⟩, hb⟩ => ⟨⟨o, c, _, o2, c2, _, _, e, fun h => ⟨Old.leave_step h, bw_of hT (Old.leave_step h).1 hI (h0 h)⟩⟩, hb⟩
theorem stepEnd (w : World) (ht : ts.length ≤ 1048576) (hq : q.length ≤ 1048576) (hD : BW lo hi w to tc ts qo qc q) :
    Calls Try.prog 35 #[.agg #[.slice to ts.length tc, .slice qo q.length qc]] w fun e w' => (∃ vto vtc vts vqo vqc vq cv, e = .returned (.tuple #[.agg #[.slice vto vts.length vtc, .slice vqo vq.length vqc], .int .i64 cv]) ∧ Left w w' vto vtc vts vqo vqc vq cv) ∧ Below w.heap.size w w' :=
  (Old.specEnd_any to tc ts qo qc q w hD.no ht hq (tasks_old hD.tasks) (ints_old hD.ints)).mono fun _ _ ⟨⟨o, c, o2, c2, e, hT, hI, h0⟩, hb⟩ => ⟨⟨o, c, _, o2, c2, _, _, e, fun h => ⟨Old.leave_step h, bw_of hT (Old.leave_step h).1 hI (h0 h)⟩⟩, hb⟩
theorem stepWake (iv : Int) (w : World) (ht : ts.length ≤ 1048576) (hq : q.length ≤ 1048576) (hD : BW lo hi w to tc ts qo qc q) :
    Calls Try.prog 34 #[.agg #[.slice to ts.length tc, .slice qo q.length qc], .int .i64 iv] w fun e w' => (∃ vto vtc vts vqo vqc vq cv, e = .returned (.tuple #[.agg #[.slice vto vts.length vtc, .slice vqo vq.length vqc], .int .i64 cv]) ∧ Left w w' vto vtc vts vqo vqc vq cv) ∧ Below w.heap.size w w' :=
  (Old.specWake_any to tc ts qo qc q iv w hD.no ht hq (tasks_old hD.tasks) (ints_old hD.ints)).mono fun _ _ ⟨⟨o, c, o2, c2, e, hT, hI⟩, hb⟩ => ⟨⟨o, c, _, o2, c2, _, _, e, fun h => ⟨(Old.wake_step h).1, bw_of hT (Old.wake_step h).1.1 hI fun e => ((Old.wake_step h).2 e).elim⟩⟩, hb⟩
end
/-- One number is put behind a board's queue. -/
theorem appQ {ops : Array Oper} {o : Oper} {a : Act} {K' : Act → World → Prop} {Q : Exit → Act → World → Prop} {E : Prop} {lo hi : Nat} (W : World) {to : Option Addr} {tc : Nat} {ts : List (Int × Int)} (qo : Option Addr) (qc : Nat) (q : List Int) (hD : BW lo hi W to tc ts qo qc q) (hg : o.guard = none) (s x : Operand) (hop : o.op = Op.call { callee := Callee.builtin Builtin.append, args := #[s, x], argTypes := #[24, 24] })
    (hs : a.eval s = .slice qo q.length qc) (hlo : lo ≤ W.heap.size) (b : Nat) (z : Int) (hx : a.eval x = .slice (some ⟨b, 0, none⟩) 1 1) (n : Nat) (hz : kI.In n W (some ⟨b, 0, none⟩) [z]) (hl : q.length ≤ 1048576)
    (hk : ∀ qo' qc' w', Below lo W w' → BW lo w'.heap.size w' to tc ts qo' qc' (q ++ [z]) → K' (a.put o.dst (.slice qo' (q ++ [z]).length qc')) w') :
    if Region.wanted o (yielded ops a.tmps) = true then Oper.wp Try.prog o a W K' Q else E := by
  rcases hD.2 with ⟨rfl, rfl⟩ | hR
  · obtain ⟨i0, z0, hin, hz0, hz1, hz2, hz3⟩ := kI_ok.info
    refine step_append_grows hg s x 24 hop kI.ty i0 z0 kI.sz i0.bytes kI_ok.und hin hz0 hz1 rfl hz2 kI_ok.pos qo 0 0 [] hs (fun _ => ⟨rfl, rfl⟩) rfl (by simp) ⟨b, 0, none⟩ 1 1 (kI.flat [z]) hx (kI.flat_len [z]) hz.src (kI.flat_one [z]) (by omega) (by unfold maxLen; omega) (by omega) ?_
    intro v' w' hown hgr
    have hO : kI.Own W.heap.size w' v' ([] ++ [z]) := hown
    have hb : Below W.heap.size W w' := (Below.refl _ _).grown hgr (Nat.le_refl _) (fun k e => by cases e)
    obtain ⟨ao, c, rfl, hO2⟩ := hO.as
    exact hk ao c w' (hb.mono hlo) ⟨Kind.RW.of (hD.1.later hb).1, .inr ((Kind.RW.of hO2).wide hlo (Nat.le_refl _))⟩
  · refine Kind.appS kI_ok W hg s x hop lo (.slice qo q.length qc) q hs hR.1 hlo (some ⟨b, 0, none⟩) [z] 1 1 hx rfl (by simp) n hz (by simp; omega) ?_
    intro v' w' hO hB hG hn
    obtain ⟨ao, c, rfl, hO2⟩ := hO.as
    refine hk ao c w' hB ⟨?_, .inr (Kind.RW.of hO2)⟩
    exact Kind.RW.of (rw_grown (by decide) hD.1 hR.1 hG).1
/-- A board's tasks, and one of them passed over so many times. -/
theorem tasks_pass {lo hi : Nat} {W : World} {to : Option Addr} {tc : Nat} {ts : List (Int × Int)} {qo : Option Addr} {qc : Nat} {q : List Int} (h : BW lo hi W to tc ts qo qc q) (hn : 0 < ts.length) :
    ∃ g, to = some ⟨g, 0, none⟩ ∧ lo ≤ g ∧ g < hi ∧ g < W.heap.size ∧ (∀ j, j < ts.length → W.cell? ⟨g, j * 2 + 1, none⟩ = some (.int .i64 (ts[j]?.getD (0, 0)).2)) ∧ (∀ j, W.frozen? ⟨g, j, none⟩ = false) ∧
      ∀ (id : Nat) (v : Int), id < ts.length → BW lo hi (W.setCell ⟨g, id * 2 + 1, none⟩ (.int .i64 v)) to tc (ts.set id ((ts[id]?.getD (0, 0)).1, v)) qo qc q := by
  have hT : Old.FreshT lo hi W to tc ts := by
    rcases h.1.1.2 with ⟨_, h'⟩ | ⟨g, cap, cur, hv, hg, hb, r⟩
    · omega
    · simp at hv
      obtain ⟨rfl, rfl⟩ := hv
      refine .inr ⟨g, kT.flat ts, rfl, h.1.2 g 0 rfl, h.1.1, fun j hj => ⟨?_, ?_⟩⟩
      · exact kT.flat_at ts j hj 0 (by decide)
      · exact kT.flat_at ts j hj 1 (by decide)
  obtain ⟨g, rfl, h1, h2, h3, h4, h5, h6⟩ := hT.pass hn
  refine ⟨g, rfl, h1, h2, h3, fun j hj => (h4 j hj).2, h5, fun id v hid => ⟨old_T (h6 id v hid) (by simpa using hn), ?_⟩⟩
  rcases h.2 with h' | h'
  · exact .inl h'
  · refine .inr ?_
    refine ⟨?_, h'.2⟩
    obtain ⟨k1, k2⟩ := h'.1
    refine ⟨k1, ?_⟩
    rcases k2 with k2 | ⟨g', cap', cur', hv', hg', hb', r'⟩
    · exact .inl k2
    · refine .inr ⟨g', cap', cur', hv', hg', ?_, r'⟩
      rw [Below.heap_setCell W _ _ g' ?_]
      · exact hb'
      · intro e
        simp at e
        subst e
        rcases h.1.1.2 with ⟨_, h'⟩ | ⟨g2, cap2, cur2, hv2, _, hb2, _⟩
        · omega
        · simp at hv2
          obtain ⟨rfl, _⟩ := hv2
          rw [hb2] at hb'
          simp at hb'
          exact absurd hb'.2 (by decide)
end Go.Proofs.Ytgbnbnjfaffaiaa
