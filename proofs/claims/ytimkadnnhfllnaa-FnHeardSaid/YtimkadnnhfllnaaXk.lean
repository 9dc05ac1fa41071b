
/- A topic in its own memory; what the specification's steps leave of it. No conditions but those written. -/
import Derived.Test.YtimkadnnhfllnaaXr
import Derived.Test.YtimkadnnhfllnaaPn
import Derived.Test.YtimkadnnhfllnaaYe
import Derived.Test.YtimkadnnhfllnaaYd
import Derived.Test.YtimkadnnhfllnaaTi
import Derived.Test.YtimkadnnhfllnaaUz
import Derived.Test.YtimkadnnhfllnaaPz
import Derived.Test.YtimkadnnhfllnaaSb
import Derived.Deep.RegionLawGrows
namespace Go.Proofs.Ytimkadnnhfllnaa
open Go.RowKit

/-- Hearers in their own memory, or none and no room; each one's queue in new memory. -/
def TW (lo hi : Nat) (W : World) (o : Option Addr) (c : Nat) (us : List LSub) : Prop :=
  ((us = [] ∧ c = 0) ∨ hSub.RW lo hi W o c us) ∧ ∀ j, j < us.length → kI.Fresh lo hi W (el us j).2.2.2.2.1 (el us j).2.2.2.2.2.1 (el us j).2.2.2.2.2.2
section
variable {lo hi : Nat} {W W' : World} {o : Option Addr} {c : Nat} {us : List LSub}
theorem TW.keep (h : TW lo hi W o c us) (hk : ∀ k, lo ≤ k → k < hi → k < W.heap.size → W'.heap[k]? = W.heap[k]?) : TW lo hi W' o c us := ⟨h.1.elim .inl fun h => .inr (h.keep hk), fun j hj => (h.2 j hj).keep hk⟩
theorem TW.later (h : TW lo hi W o c us) (hb : Below W.heap.size W W') : TW lo hi W' o c us := h.keep fun k _ _ hk => hb.block k hk
theorem TW.grew {p : Nat} (h : TW lo hi W o c us) (hg : Grew p W W') (hp : p < lo) : TW lo hi W' o c us := h.keep fun k h1 _ hk => hg.block k hk (by omega)
theorem TW.setOff (h : TW lo hi W o c us) {a : Addr} (ha : a.block < lo ∨ hi ≤ a.block) (u : Value) : TW lo hi (W.setCell a u) o c us := h.keep fun k h1 h2 _ => Below.heap_setCell W a u k (by omega)
theorem TW.wide {lo' hi' : Nat} (h : TW lo hi W o c us) (h1 : lo' ≤ lo) (h2 : hi ≤ hi') : TW lo' hi' W o c us := ⟨h.1.elim .inl fun h => .inr (h.wide h1 h2), fun j hj => (h.2 j hj).wide h1 h2⟩
theorem TW.in (h : TW lo hi W o c us) : DIn dSub W.heap.size W o us := ⟨h.1.elim (fun h => .inl h.1) fun h => h.in, fun j hj => (h.2 j hj).in⟩
theorem tw_nil : TW lo hi W none 0 [] := ⟨.inl ⟨rfl, rfl⟩, fun j hj => by simp at hj⟩
theorem rw_fresh {α : Type} {K : Kind α} {ao : Option Addr} {xs : List α} (h : K.Fresh lo hi W ao c xs) (hn : 0 < xs.length) : K.RW lo hi W ao c xs := by
  rcases h with rfl | ⟨g, rfl, hg, ho⟩
  · simp at hn
  · exact ⟨ho, fun g' o e => by cases e; exact hg⟩
theorem fresh_rw {α : Type} {K : Kind α} {ao : Option Addr} {xs : List α} (h : K.RW lo hi W ao c xs) (hn : 0 < xs.length) : K.Fresh lo hi W ao c xs := by
  rcases h.1.2 with ⟨e, h0⟩ | ⟨g, c2, cur, e, r⟩
  · omega
  · have e1 : ao = some ⟨g, 0, none⟩ := by simp at e; exact e.1
    exact .inr ⟨g, e1, h.2 g 0 e1, by rw [← e1]; exact h.1⟩
theorem tw_of (h : DFr dSub lo hi W o c us) (h0 : us = [] → c = 0) : TW lo hi W o c us := by
  refine ⟨?_, fun j hj => h.2.1 j hj⟩
  rcases Nat.eq_zero_or_pos us.length with e | e
  · have := List.length_eq_zero_iff.1 e
    exact .inl ⟨this, h0 this⟩
  · exact .inr (rw_fresh h.1 e)
end
/-- Few hearers with short queues. -/
def LN (us : List LSub) : Prop := us.length ≤ 10 ∧ ∀ a ∈ us, a.2.2.2.2.2.2.length ≤ 20
theorem ln_of {us : List LSub} {ps : List PSub} (h : us.map valSub = ps) (hn : Neat ps) : LN us := by
  subst h
  exact ⟨by simpa using hn.1, fun a ha => hn.2 _ (List.mem_map.2 ⟨a, ha, rfl⟩)⟩
theorem ln_nil : LN [] := ⟨by simp, fun a ha => by simp at ha⟩
theorem LN.fits {us : List LSub} (h : LN us) : Fits us := fun a ha => Nat.le_trans (h.2 a ha) (by omega)
/-- What a step leaves where its code is 0. -/
def LeftT (w w' : World) (o : Option Addr) (c : Nat) (us : List LSub) (cv : Int) : Prop := cv = 0 → LN us ∧ TW w.heap.size w'.heap.size w' o c us
section
variable {lo hi : Nat} (sd : Int) (o : Option Addr) (c : Nat) (us : List LSub)
theorem stepSub (id sz : Int) (dr : Bool) (w : World) (hl : us.length ≤ 1048576) (hf : Fits us) (hD : TW lo hi w o c us) :
    Calls Try.prog 27 #[.agg #[.int .i64 sd, .slice o us.length c], .int .i64 id, .int .i64 sz, .bool dr] w fun e w' => (∃ vsd vo vc vus cv, e = .returned (.tuple #[.agg #[.int .i64 vsd, .slice vo vus.length vc], .int .i64 cv]) ∧ LeftT w w' vo vc vus cv) ∧ Below w.heap.size w w' :=
  (specSubs_any sd o c us id sz dr w hl hf hD.in).mono fun _ _ ⟨⟨vo, vc, vus, e, h2, h3⟩, hb⟩ => ⟨⟨(subR sd (us.map valSub) id sz dr).1, vo, vc, vus, (subR sd (us.map valSub) id sz dr).2.2, by rw [e, ← h2, List.length_map], fun h => ⟨ln_of h2 (sub_neat h).1, tw_of h3 fun e0 => absurd (by rw [← h2, e0]; rfl) (sub_neat h).2⟩⟩, hb⟩
theorem stepHear (id : Int) (w : World) (hl : us.length ≤ 1048576) (hf : Fits us) (hD : TW lo hi w o c us) :
    Calls Try.prog 28 #[.agg #[.int .i64 sd, .slice o us.length c], .int .i64 id] w fun e w' => (∃ vsd vo vc vus x cv, e = .returned (.tuple #[.agg #[.int .i64 vsd, .slice vo vus.length vc], .int .i64 x, .int .i64 cv]) ∧ LeftT w w' vo vc vus cv) ∧ Below w.heap.size w w' :=
  (specHear_any sd o c us id w hl hf hD.in).mono fun _ _ ⟨⟨vo, vc, vus, e, h2, h3⟩, hb⟩ => ⟨⟨(hearR sd (us.map valSub) id).1, vo, vc, vus, (hearR sd (us.map valSub) id).2.2.1, (hearR sd (us.map valSub) id).2.2.2, by rw [e, ← h2, List.length_map], fun h => ⟨ln_of h2 (hear_neat h).1, tw_of h3 fun e0 => absurd (by rw [← h2, e0]; rfl) (hear_neat h).2⟩⟩, hb⟩
theorem stepUns (id : Int) (w : World) (hl : us.length ≤ 1048576) (hf : Fits us) (hD : TW lo hi w o c us) :
    Calls Try.prog 29 #[.agg #[.int .i64 sd, .slice o us.length c], .int .i64 id] w fun e w' => (∃ vsd vo vc vus go gn gc cv, e = .returned (.tuple #[.agg #[.int .i64 vsd, .slice vo vus.length vc], .slice go gn gc, .int .i64 cv]) ∧ LeftT w w' vo vc vus cv) ∧ Below w.heap.size w w' :=
  (specUnsuZ_any sd o c us id w hl hf hD.in).mono fun _ _ ⟨⟨vo, vc, vus, go, qc, e, h2, h3, _, _, hz⟩, hb⟩ => ⟨⟨(unsR sd (us.map valSub) id).1, vo, vc, vus, go, (unsR sd (us.map valSub) id).2.2.1.length, qc, (unsR sd (us.map valSub) id).2.2.2, by rw [e, ← h2, List.length_map], fun h => ⟨ln_of h2 (uns_neat h), tw_of h3 (hz h)⟩⟩, hb⟩
theorem stepPub (v : Int) (w : World) (hl : us.length ≤ 1048576) (hf : Fits us) (hD : TW lo hi w o c us) :
    Calls Try.prog 6 #[.agg #[.int .i64 sd, .slice o us.length c], .int .i64 v] w fun e w' => (∃ vsd vo vc vus go gn gc cv, e = .returned (.tuple #[.agg #[.int .i64 vsd, .slice vo vus.length vc], .slice go gn gc, .int .i64 cv]) ∧ LeftT w w' vo vc vus cv) ∧ Below w.heap.size w w' := by
  by_cases h0 : us = []
  · subst h0
    exact (specPubl_nil sd o c v w).mono fun _ _ ⟨⟨vsd, vo, vc, go, gn, gc, cv, e, hz⟩, hb⟩ => ⟨⟨vsd, vo, vc, [], go, gn, gc, cv, e, fun h => ⟨ln_nil, ⟨.inl ⟨rfl, hz h⟩, fun j hj => by simp at hj⟩⟩⟩, hb⟩
  · refine (specPubl_any sd o c us v w hl hf hD.in).mono fun _ _ ⟨⟨vo, vc, vus, go, qc, e, h2, h3, _, _⟩, hb⟩ => ⟨⟨(pubR sd (us.map valSub) v).1, vo, vc, vus, go, (pubR sd (us.map valSub) v).2.2.1.length, qc, (pubR sd (us.map valSub) v).2.2.2, by rw [e, ← h2, List.length_map], fun h => ⟨ln_of h2 (pub_neat h).1, tw_of h3 fun e0 => absurd ((pub_neat h).2 (by rw [← h2, e0]; rfl)) (by simpa using h0)⟩⟩, hb⟩
end
theorem rw_grown {α β : Type} {K : Kind α} {K' : Kind β} (ht : K.ty ≠ K'.ty) {lo hi lo' : Nat} {W W' : World} {v : Value} {ta : Option Addr} {tc : Nat} {xs : List α} {ys : List β} (h : K.RW lo hi W ta tc xs) (hv : K'.Own lo' W v ys) (hG : W.grownBy W' v.ownBlock) : K.RW lo hi W' ta tc xs := by
  refine ⟨?_, h.2⟩
  obtain ⟨h1, h2⟩ := h.1
  refine ⟨h1, ?_⟩
  rcases h2 with h2 | ⟨g, cap, cur, hv2, hg, hb, r⟩
  · exact .inl h2
  · refine .inr ⟨g, cap, cur, hv2, hg, ?_, r⟩
    rw [hG.block g (Array.getElem?_eq_some_iff.1 hb).1 ?_]
    · exact hb
    · intro e
      rcases hv.2 with ⟨hv', _⟩ | ⟨g', cap', cur', hv', _, hb', _⟩
      · subst hv'; simp [Value.ownBlock] at e
      · subst hv'
        simp [Value.ownBlock] at e
        subst e
        rw [hb] at hb'
        simp at hb'
        exact ht hb'.2
theorem fresh_grown {α β : Type} {K : Kind α} {K' : Kind β} (ht : K.ty ≠ K'.ty) {lo hi lo' : Nat} {W W' : World} {v : Value} {ta : Option Addr} {tc : Nat} {xs : List α} {ys : List β} (h : K.Fresh lo hi W ta tc xs) (hv : K'.Own lo' W v ys) (hG : W.grownBy W' v.ownBlock) : K.Fresh lo hi W' ta tc xs := by
  rcases Nat.eq_zero_or_pos xs.length with e | e
  · exact .inl (List.length_eq_zero_iff.1 e)
  · exact fresh_rw (rw_grown ht (rw_fresh h e) hv hG) e
/-- One hearer without a queue is put behind a topic's hearers. -/
theorem appT {ops : Array Oper} {o : Oper} {a : Act} {K' : Act → World → Prop} {Q : Exit → Act → World → Prop} {E : Prop} {lo hi : Nat} (W : World) (ta : Option Addr) (tc : Nat) (us : List LSub) (hD : TW lo hi W ta tc us) (hg : o.guard = none) (s x : Operand) (hop : o.op = Op.call { callee := Callee.builtin Builtin.append, args := #[s, x], argTypes := #[23, 23] })
    (hs : a.eval s = .slice ta us.length tc) (hlo : lo ≤ W.heap.size) (b : Nat) (z1 z2 z4 : Int) (z3 : Bool) (hx : a.eval x = .slice (some ⟨b, 0, none⟩) 1 1) (n : Nat) (hz : hSub.In n W (some ⟨b, 0, none⟩) [((z1, z2, z3, z4, (none, 0, [])) : LSub)]) (hl : us.length ≤ 1048576)
    (hk : ∀ qo' qc' w', Below lo W w' → TW lo w'.heap.size w' qo' qc' (us ++ [((z1, z2, z3, z4, (none, 0, [])) : LSub)]) → K' (a.put o.dst (.slice qo' (us ++ [((z1, z2, z3, z4, (none, 0, [])) : LSub)]).length qc')) w') :
    if Region.wanted o (yielded ops a.tmps) = true then Oper.wp Try.prog o a W K' Q else E := by
  have hq : ∀ {w' : World}, (∀ j, j < us.length → kI.Fresh lo w'.heap.size w' (el us j).2.2.2.2.1 (el us j).2.2.2.2.2.1 (el us j).2.2.2.2.2.2) → ∀ j, j < (us ++ [((z1, z2, z3, z4, (none, 0, [])) : LSub)]).length → kI.Fresh lo w'.heap.size w' (el (us ++ [((z1, z2, z3, z4, (none, 0, [])) : LSub)]) j).2.2.2.2.1 (el (us ++ [((z1, z2, z3, z4, (none, 0, [])) : LSub)]) j).2.2.2.2.2.1 (el (us ++ [((z1, z2, z3, z4, (none, 0, [])) : LSub)]) j).2.2.2.2.2.2 := by
    intro w' h j hj
    by_cases hj' : j < us.length
    · have e : el (us ++ [((z1, z2, z3, z4, (none, 0, [])) : LSub)]) j = el us j := by simp [el, List.getElem?_append_left hj']
      rw [e]; exact h j hj'
    · have hj2 : j = us.length := by simp at hj; omega
      subst hj2
      have e : el (us ++ [((z1, z2, z3, z4, (none, 0, [])) : LSub)]) us.length = (z1, z2, z3, z4, (none, 0, [])) := by simp [el]
      rw [e]; exact .inl rfl
  rcases hD.1 with ⟨rfl, rfl⟩ | hR
  · obtain ⟨i0, z0, hin, hz0, hz1, hz2, hz3⟩ := hSub_ok.info
    refine step_append_grows hg s x 23 hop hSub.ty i0 z0 hSub.sz i0.bytes hSub_ok.und hin hz0 hz1 rfl hz2 hSub_ok.pos ta 0 0 [] hs (fun _ => ⟨rfl, rfl⟩) rfl (by simp) ⟨b, 0, none⟩ 1 1 (hSub.flat [((z1, z2, z3, z4, (none, 0, [])) : LSub)]) hx (hSub.flat_len _) hz.src (hSub.flat_one _) (by omega) (by unfold maxLen; omega) (by omega) ?_
    intro v' w' hown hgr
    have hO : hSub.Own W.heap.size w' v' ([] ++ [((z1, z2, z3, z4, (none, 0, [])) : LSub)]) := hown
    have hb : Below W.heap.size W w' := (Below.refl _ _).grown hgr (Nat.le_refl _) (fun k e => by cases e)
    obtain ⟨ao, c, rfl, hO2⟩ := hO.as
    exact hk ao c w' (hb.mono hlo) ⟨.inr ((Kind.RW.of hO2).wide hlo (Nat.le_refl _)), hq fun j hj => by simp at hj⟩
  · refine Kind.appS hSub_ok W hg s x hop lo (.slice ta us.length tc) us hs hR.1 hlo (some ⟨b, 0, none⟩) [((z1, z2, z3, z4, (none, 0, [])) : LSub)] 1 1 hx rfl (by simp) n hz (by simp; omega) ?_
    intro v' w' hO hB hG hn
    obtain ⟨ao, c, rfl, hO2⟩ := hO.as
    exact hk ao c w' hB ⟨.inr (Kind.RW.of hO2), hq fun j hj => (fresh_grown (K' := hSub) (by decide) (hD.2 j hj) hR.1 hG).low (Nat.le_refl _)⟩
/-- The first hearer's count of lost ones is written. -/
theorem dropT {lo hi : Nat} {W : World} {ta : Option Addr} {tc : Nat} {us : List LSub} (h : TW lo hi W ta tc us) (hn : 0 < us.length) :
    ∃ g nd kap dp dr x, ta = some ⟨g, 0, none⟩ ∧ el us 0 = (nd, kap, dr, dp, x) ∧ lo ≤ g ∧ g < hi ∧ g < W.heap.size ∧ W.cell? ⟨g, 2, none⟩ = some (.bool dr) ∧ W.cell? ⟨g, 3, none⟩ = some (.int .i64 dp) ∧ W.frozen? ⟨g, 3, none⟩ = false ∧ ∀ d : Int, TW lo hi (W.setCell ⟨g, 3, none⟩ (.int .i64 d)) ta tc (us.set 0 (nd, kap, dr, d, x)) := by
  have hR : hSub.RW lo hi W ta tc us := h.1.elim (fun e => by rw [e.1] at hn; simp at hn) id
  have hF := fresh_rw hR hn
  obtain ⟨g, rfl, h1, h2, h3, ho⟩ := hF.at hn
  obtain ⟨⟨nd, kap, dr, dp, ⟨qo, qc, q⟩⟩, ex⟩ : ∃ v, v = el us 0 := ⟨_, rfl⟩
  obtain ⟨hc, hf, _⟩ := head_at hF hn ex.symm
  obtain ⟨cur, hcur⟩ := owns_type ho
  refine ⟨g, nd, kap, dp, dr, (qo, qc, q), rfl, ex.symm, h1, h2, h3, by simpa using hc.2.2.1, by simpa using hc.2.2.2.1, by simpa using hf 3, fun d => ⟨.inr ?_, fun j hj => ?_⟩⟩
  · have := head_d hF hn ex.symm d
    exact rw_fresh (by simpa using this) (by simpa using hn)
  · have hj' : j < us.length := by simpa using hj
    have e : (el (us.set 0 (nd, kap, dr, d, (qo, qc, q))) j).2.2.2.2 = (el us j).2.2.2.2 := by
      by_cases e0 : j = 0
      · subst e0; rw [← ex]; simp [el, hn]
      · simp [el, Ne.symm e0]
    rw [e]
    rcases Nat.eq_zero_or_pos (el us j).2.2.2.2.2.2.length with el0 | el0
    · exact .inl (List.length_eq_zero_iff.1 el0)
    · obtain ⟨g2, e2, hg2, hl2, hs2, ho2⟩ := (h.2 j hj').at el0
      obtain ⟨cur2, hcur2⟩ := owns_type ho2
      refine .inr ⟨g2, e2, hl2, owns_block ho2 (Below.heap_setCell W _ _ g2 ?_)⟩
      intro eq
      simp at eq
      subst eq
      rw [hcur] at hcur2
      simp at hcur2
      exact absurd hcur2.2 (by decide)
end Go.Proofs.Ytimkadnnhfllnaa
