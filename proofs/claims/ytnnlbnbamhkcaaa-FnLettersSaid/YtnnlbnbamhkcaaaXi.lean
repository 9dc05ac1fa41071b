
/- The operations on a box whose rows are its own. No conditions but those written. -/
import Derived.Test.YtnnlbnbamhkcaaaXh
namespace Go.Proofs.Ytnnlbnbamhkcaaa
open Go.RowKit

/-- A box and a number as an ending: its rows are its own, and short where the number is 0. -/
def StepO (W : World) (e : Ending) (w' : World) : Prop :=
  (∃ (kap : Int) (cl : Bool) (bo : Option Addr) (bc : Nat) (b : List Int) (so : Option Addr) (sc : Nat) (s : List (Int × Int × Int)) (ro : Option Addr) (rc : Nat) (r : List (Int × Int × Int)) (c : Int), e = .returned (.tuple #[.agg #[.int .i64 kap, .bool cl, .slice bo b.length bc, .slice so s.length sc, .slice ro r.length rc], .int .i64 c]) ∧ (c = 0 → Small b s r) ∧ WB W.heap.size w'.heap.size w' bo bc b so sc s ro rc r) ∧ Below W.heap.size W w'
/-- The same with a word and a letter. -/
def StepT (W : World) (e : Ending) (w' : World) : Prop :=
  (∃ (kap : Int) (cl : Bool) (bo : Option Addr) (bc : Nat) (b : List Int) (so : Option Addr) (sc : Nat) (s : List (Int × Int × Int)) (ro : Option Addr) (rc : Nat) (r : List (Int × Int × Int)) (x y1 y2 y3 c : Int), e = .returned (.tuple #[.agg #[.int .i64 kap, .bool cl, .slice bo b.length bc, .slice so s.length sc, .slice ro r.length rc], .int .i64 x, .agg #[.int .i64 y1, .int .i64 y2, .int .i64 y3], .int .i64 c]) ∧ (c = 0 → Small b s r) ∧ WB W.heap.size w'.heap.size w' bo bc b so sc s ro rc r) ∧ Below W.heap.size W w'
theorem AnsO.step {w : World} {R : Int × Bool × List Int × List (Int × Int × Int) × List (Int × Int × Int) × Int} {e : Ending} {w' : World} (h : AnsO w R e w') (hs : R.2.2.2.2.2 = 0 → Small R.2.2.1 R.2.2.2.1 R.2.2.2.2.1) : StepO w e w' := by
  obtain ⟨⟨vb, vs, vr, rfl, hW⟩, hb⟩ := h
  obtain ⟨bo, bc, so, sc, ro, rc, rfl, rfl, rfl, _, _⟩ := hW.in
  exact ⟨⟨_, _, _, _, _, _, _, _, _, _, _, _, rfl, hs, WB.of hW⟩, hb⟩
theorem AnsTO.step {w : World} {R : Int × Bool × List Int × List (Int × Int × Int) × List (Int × Int × Int) × Int × Int × Int × Int × Int} {e : Ending} {w' : World} (h : AnsTO w R e w') (hs : R.2.2.2.2.2.2.2.2.2 = 0 → Small R.2.2.1 R.2.2.2.1 R.2.2.2.2.1) : StepT w e w' := by
  obtain ⟨⟨vb, vs, vr, rfl, hW⟩, hb⟩ := h
  obtain ⟨bo, bc, so, sc, ro, rc, rfl, rfl, rfl, _, _⟩ := hW.in
  exact ⟨⟨_, _, _, _, _, _, _, _, _, _, _, _, _, _, _, _, rfl, hs, WB.of hW⟩, hb⟩
theorem stepS {lo hi : Nat} (kap : Int) (cl : Bool) (bo : Option Addr) (bc : Nat) (b : List Int) (so : Option Addr) (sc : Nat) (s : List (Int × Int × Int)) (ro : Option Addr) (rc : Nat) (r : List (Int × Int × Int)) (iv : Int) (w : World) (hS : Small b s r) (hD : WB lo hi w bo bc b so sc s ro rc r) :
    Calls Try.prog 37 #[.agg #[.int .i64 kap, .bool cl, .slice bo b.length bc, .slice so s.length sc, .slice ro r.length rc], .int .i64 iv] w fun e w' => StepO w e w' :=
  ((specPutS_own kap cl bo bc b so sc s ro rc r iv w (by have := hS.1; omega) (by have := hS.2.1; omega) (by have := hS.2.2; omega) hD.all.2 hD.all.1).mono fun _ _ h => h.step sysR_small).mono fun _ _ h => h
theorem stepL {lo hi : Nat} (kap : Int) (cl : Bool) (bo : Option Addr) (bc : Nat) (b : List Int) (so : Option Addr) (sc : Nat) (s : List (Int × Int × Int)) (ro : Option Addr) (rc : Nat) (r : List (Int × Int × Int)) (iv jv : Int) (w : World) (hS : Small b s r) (hD : WB lo hi w bo bc b so sc s ro rc r) :
    Calls Try.prog 40 #[.agg #[.int .i64 kap, .bool cl, .slice bo b.length bc, .slice so s.length sc, .slice ro r.length rc], .int .i64 iv, .int .i64 jv] w fun e w' => StepO w e w' :=
  ((specPutL_own kap cl bo bc b so sc s ro rc r iv jv w (by have := hS.1; omega) (by have := hS.2.1; omega) (by have := hS.2.2; omega) hD.all.2 hD.all.1).mono fun _ _ h => h.step putR_small).mono fun _ _ h => h
theorem stepD {lo hi : Nat} (kap : Int) (cl : Bool) (bo : Option Addr) (bc : Nat) (b : List Int) (so : Option Addr) (sc : Nat) (s : List (Int × Int × Int)) (ro : Option Addr) (rc : Nat) (r : List (Int × Int × Int)) (iv : Int) (w : World) (hS : Small b s r) (hD : WB lo hi w bo bc b so sc s ro rc r) :
    Calls Try.prog 38 #[.agg #[.int .i64 kap, .bool cl, .slice bo b.length bc, .slice so s.length sc, .slice ro r.length rc], .int .i64 iv] w fun e w' => StepO w e w' :=
  ((specDone_own kap cl bo bc b so sc s ro rc r iv w (by have := hS.1; omega) (by have := hS.2.1; omega) (by have := hS.2.2; omega) hD.all.2 hD.all.1).mono fun _ _ h => h.step doneR_small).mono fun _ _ h => h
theorem stepG {lo hi : Nat} (kap : Int) (cl : Bool) (bo : Option Addr) (bc : Nat) (b : List Int) (so : Option Addr) (sc : Nat) (s : List (Int × Int × Int)) (ro : Option Addr) (rc : Nat) (r : List (Int × Int × Int)) (w : World) (hS : Small b s r) (hD : WB lo hi w bo bc b so sc s ro rc r) :
    Calls Try.prog 39 #[.agg #[.int .i64 kap, .bool cl, .slice bo b.length bc, .slice so s.length sc, .slice ro r.length rc]] w fun e w' => StepO w e w' :=
  ((specGive_own kap cl bo bc b so sc s ro rc r  w (by have := hS.1; omega) (by have := hS.2.1; omega) (by have := hS.2.2; omega) hD.all.2 hD.all.1).mono fun _ _ h => h.step giveR_small).mono fun _ _ h => h
theorem stepT {lo hi : Nat} (kap : Int) (cl : Bool) (bo : Option Addr) (bc : Nat) (b : List Int) (so : Option Addr) (sc : Nat) (s : List (Int × Int × Int)) (ro : Option Addr) (rc : Nat) (r : List (Int × Int × Int)) (w : World) (hS : Small b s r) (hD : WB lo hi w bo bc b so sc s ro rc r) :
    Calls Try.prog 6 #[.agg #[.int .i64 kap, .bool cl, .slice bo b.length bc, .slice so s.length sc, .slice ro r.length rc]] w fun e w' => StepT w e w' :=
  ((specTake_own kap cl bo bc b so sc s ro rc r  w (by have := hS.1; omega) (by have := hS.2.1; omega) (by have := hS.2.2; omega) hD.all.2 hD.all.1).mono fun _ _ h => h.step takeR_small).mono fun _ _ h => h
/-- A box's rows, nil or each a row of its own, in blocks from lo on. -/
def RB (lo : Nat) (W : World) (bo : Option Addr) (bc : Nat) (b : List Int) (so : Option Addr) (sc : Nat) (s : List (Int × Int × Int)) (ro : Option Addr) (rc : Nat) (r : List (Int × Int × Int)) : Prop := kI.Own lo W (.slice bo b.length bc) b ∧ kL.Own lo W (.slice so s.length sc) s ∧ kL.Own lo W (.slice ro r.length rc) r
theorem own_grown2 {α : Type} {K : Kind α} {lo : Nat} {W W' : World} {v : Value} {o : Option Nat} {xs : List α} (h : K.Own lo W v xs) (hg : W.grownBy W' o) (hne : ∀ g, v.ownBlock = some g → o ≠ some g) : K.Own lo W' v xs := by
  obtain ⟨h1, h2⟩ := h
  refine ⟨h1, ?_⟩
  rcases h2 with h2 | ⟨g, cap, cur, hv, hl, hb, r⟩
  · exact .inl h2
  · exact .inr ⟨g, cap, cur, hv, hl, by rw [hg.block g (Array.getElem?_eq_some_iff.1 hb).1 (fun e => hne g (by rw [hv]; rfl) e.symm)]; exact hb, r⟩
theorem own_kinds {α β : Type} {K : Kind α} {L : Kind β} {lo lo' : Nat} {W : World} {v u : Value} {xs : List α} {ys : List β} (h : K.Own lo W v xs) (k : L.Own lo' W u ys) (hne : K.ty ≠ L.ty) : ∀ g, u.ownBlock = some g → v.ownBlock ≠ some g := by
  intro g e1 e2
  rcases h.2 with ⟨hv, _⟩ | ⟨g1, _, c1, hv, _, hb, _⟩
  · rw [hv] at e2; simp [Value.ownBlock] at e2
  rcases k.2 with ⟨hu, _⟩ | ⟨g2, _, c2, hu, _, hc, _⟩
  · rw [hu] at e1; simp [Value.ownBlock] at e1
  rw [hv] at e2; rw [hu] at e1
  simp [Value.ownBlock] at e1 e2
  subst e1; subst e2
  rw [hb] at hc
  simp at hc
  exact hne hc.2
theorem Kind.Own.as {α : Type} [Inhabited α] {K : Kind α} {lo : Nat} {W : World} {v : Value} {xs : List α} (h : K.Own lo W v xs) : ∃ ao c, v = .slice ao xs.length c ∧ K.Own lo W (.slice ao xs.length c) xs := by
  obtain ⟨ao, c, rfl, _, _⟩ := h.in
  exact ⟨ao, c, rfl, h⟩
section
variable {lo hi : Nat} {W W' : World} {bo : Option Addr} {bc : Nat} {b : List Int} {so : Option Addr} {sc : Nat} {s : List (Int × Int × Int)} {ro : Option Addr} {rc : Nat} {r : List (Int × Int × Int)}
theorem WB.rb (h : WB lo hi W bo bc b so sc s ro rc r) : RB lo W bo bc b so sc s ro rc r := ⟨h.1.1, h.1.2.1, h.1.2.2.1⟩
theorem RB.keep (h : RB lo W bo bc b so sc s ro rc r) (hk : ∀ k, lo ≤ k → k < W.heap.size → W'.heap[k]? = W.heap[k]?) : RB lo W' bo bc b so sc s ro rc r := ⟨h.1.keep hk, h.2.1.keep hk, h.2.2.keep hk⟩
theorem RB.later (h : RB lo W bo bc b so sc s ro rc r) (hb : Below W.heap.size W W') : RB lo W' bo bc b so sc s ro rc r := h.keep fun k _ hk => hb.block k hk
theorem RB.grew {p : Nat} (h : RB lo W bo bc b so sc s ro rc r) (hg : Grew p W W') (hp : p < lo) : RB lo W' bo bc b so sc s ro rc r := h.keep fun k h1 hk => hg.block k hk (by omega)
theorem RB.setOff (h : RB lo W bo bc b so sc s ro rc r) {a : Addr} (ha : a.block < lo) (u : Value) : RB lo (W.setCell a u) bo bc b so sc s ro rc r := h.keep fun k h1 _ => Below.heap_setCell W a u k (by omega)
theorem RB.low {lo' : Nat} (h : RB lo W bo bc b so sc s ro rc r) (hl : lo' ≤ lo) : RB lo' W bo bc b so sc s ro rc r := ⟨own_less h.1 hl, own_less h.2.1 hl, own_less h.2.2 hl⟩
theorem RB.all (h : RB lo W bo bc b so sc s ro rc r) : WfBox bo bc so sc ro rc ∧ InBox W.heap.size W bo b so s ro r := by
  obtain ⟨bo', bc', e1, wb, hb⟩ := h.1.in
  obtain ⟨so', sc', e2, ws, hs⟩ := h.2.1.in
  obtain ⟨ro', rc', e3, wr, hr⟩ := h.2.2.in
  simp at e1 e2 e3
  obtain ⟨rfl, rfl⟩ := e1
  obtain ⟨rfl, rfl⟩ := e2
  obtain ⟨rfl, rfl⟩ := e3
  exact ⟨⟨wb, ws, wr⟩, hb, hs, hr⟩
theorem RB.putB (h : RB lo W bo bc b so sc s ro rc r) {bo' : Option Addr} {bc' : Nat} {zs : List Int} (ho : kI.Own lo W' (.slice bo' zs.length bc') zs) (hG : W.grownBy W' (Value.slice bo b.length bc).ownBlock) : RB lo W' bo' bc' zs so sc s ro rc r :=
  ⟨ho, own_grown2 h.2.1 hG (own_kinds h.1 h.2.1 (by decide)), own_grown2 h.2.2 hG (own_kinds h.1 h.2.2 (by decide))⟩
theorem WB.putR (h : WB lo hi W bo bc b so sc s ro rc r) {ro' : Option Addr} {rc' : Nat} {zs : List (Int × Int × Int)} (ho : kL.Own lo W' (.slice ro' zs.length rc') zs) (hG : W.grownBy W' (Value.slice ro r.length rc).ownBlock) : RB lo W' bo bc b so sc s ro' rc' zs :=
  ⟨own_grown2 h.1.1 hG (own_kinds h.1.2.2.1 h.1.1 (by decide)), own_grown2 h.1.2.1 hG (fun g e e2 => h.1.2.2.2 g e e2), ho⟩
end
theorem Cur.below {W W' : World} {p : Nat} {co : Option Addr} {cap : Nat} {bs : List Int} {k : Nat} {sd : Int} (h : Cur W p co cap bs k sd) {n : Nat} (hb : Below n W W') (hp : p < n) : Cur W' p co cap bs k sd := h.keep hb.size fun j hj => hb.block j (by omega)
theorem Grew.of_below2 {p n : Nat} {w W W' : World} (h : Grew p w W) (hb : Below n W W') (hn : w.heap.size ≤ n) : Grew p w W' := ⟨hb.os.trans h.os, hb.tape.trans h.tape, hb.output.trans h.output, Nat.le_trans h.size hb.size, fun j hj hp => (hb.block j (by omega)).trans (h.block j hj hp)⟩
theorem bx_nums {W : World} {q : Nat} {zs : List Int} (h : Bx W q (zs.map fun z => .int .i64 z)) : ∀ j, j < zs.length → W.cell? ⟨q, 0 + j, none⟩ = some (.int .i64 (zs[j]?.getD 0)) := by
  intro j hj
  rw [Nat.zero_add]
  exact h.c j (by simp [hj])
theorem among_some (zs : List Int) (q p : Nat) (co : Option Addr) (cap : Nat) (bs : List Int) (k : Nat) (sd : Int) (w : World) (hl : bs.length ≤ 1048576) (ha : k ≤ 1099511627770) (hC : Cur w p co cap bs k sd) (h0 : 0 < zs.length) (h9 : zs.length ≤ 1048576) (hz : Bx w q (zs.map fun z => .int .i64 z)) (hb : q ≠ p) :
    Calls Try.prog 41 #[.pointer (some ⟨p, 0, none⟩), .slice (some ⟨q, 0, none⟩) zs.length zs.length] w fun e w' => (∃ z, e = .returned (.int .i64 z)) ∧ Drawn w p co cap bs k 2 w' :=
  (among_any q 0 zs zs.length p co cap bs k sd w hl ha hC h0 h9 (bx_nums hz) hb).mono fun _ _ h => ⟨⟨_, h.1.choose_spec.2⟩, h.2⟩
end Go.Proofs.Ytnnlbnbamhkcaaa
