
/- A region that draws its order, walked once: what yields the same wherever S holds comes first; behind the last operations S need not hold. No conditions but those written. -/
import Derived.Test.YtekadjjofcicaaaDoorBx
import Derived.OrdersHeld
import Derived.Deep.RegionHeld3
namespace Go.Proofs.YtekadjjofcicaaaDoor
open Go Go.RowKit

section
variable {P : Program} {ops : Array Oper} {Q : Exit → Act → World → Prop} {md : Region.Mode} {S : World → Prop} {zs : Nat → Bool}
/-- In whatever order: behind each operation S holds, but behind the last ones. -/
def Walks (P : Program) (md : Region.Mode) (ops : Array Oper) (Q : Exit → Act → World → Prop) (S : World → Prop) (zs : Nat → Bool) : Nat → Array Bool → Act → World → Prop
  | 0, ls, a, w => Region.ready md ops ls = [] ∧ Q .normal a w
  | n + 1, ls, a, w => (Region.ready md ops ls = [] → Q .normal a w) ∧
      ∀ i, i ∈ Region.ready md ops ls → wpOp P ops Q i (fun b y => (zs i = false → S y) ∧ Walks P md ops Q S zs n (ls.setIfInBounds i true) b y) a w
theorem Walks.any : ∀ {n : Nat} {ls : Array Bool} {a : Act} {w : World}, Walks P md ops Q S zs n ls a w → wpAny P md ops Q n ls a w
  | 0, _, _, _, h => h
  | _ + 1, _, _, _, h => ⟨h.1, fun i hi => wpOp_mono (fun _ _ hb => hb.2.any) (h.2 i hi)⟩
/-- Whoever is last waits for i. -/
def lastWait (md : Region.Mode) (ops : Array Oper) (zs : List Nat) (i : Nat) : Bool := zs.all fun z => match ops[z]? with | some o => o.after.any fun e => Region.binds md e && e.on == i | none => true
theorem lastWait_not {zl : List Nat} {i j : Nat} {ls : Array Bool} (h : lastWait md ops zl i = true) (hi : i ∈ Region.ready md ops ls) (hj : j ∈ Region.ready md ops ls) : zl.contains j = false := by
  cases hc : zl.contains j with
  | false => rfl
  | true =>
    exfalso
    obtain ⟨_, o, ho, hall⟩ := mem_ready.1 hj
    have h1 := List.all_eq_true.1 h j (by simpa using hc)
    rw [ho] at h1
    obtain ⟨k, hk, he⟩ := Array.any_eq_true.1 h1
    simp only [Bool.and_eq_true, beq_iff_eq] at he
    have h2 := hall _ (Array.getElem_mem hk) he.1
    have h0 := (mem_ready.1 hi).1
    rw [he.2] at h2
    rcases Nat.lt_or_ge i ls.size with hl | hl
    · simp [hl] at h0 h2; rw [h0] at h2; cases h2
    · simp [Array.getElem?_eq_none hl] at h2
/-- An operation that yields the same in every world that meets S may come first. -/
theorem Walks.take {zl : List Nat} {i : Nat} {oi : Oper} {v : Value} (ho : ops[i]? = some oi) (hs : Region.noSelect ops = true) (hl : lastWait md ops zl i = true) (hQ : ∀ c a w, Q (.panic c) (a.put oi.dst v) w → Q (.panic c) a w) :
    ∀ (n : Nat) (ls : Array Bool) (a : Act) (w : World), Region.free md ops ls i = true → (Region.ready md ops ls).contains i = true → YieldsIf P ops S oi v a → S w →
      Walks P md ops Q S (zl.contains ·) n (ls.setIfInBounds i true) (a.put oi.dst v) w → Walks P md ops Q S (zl.contains ·) (n + 1) ls a w := by
  suffices H : ∀ (n : Nat) (ls : Array Bool) (a : Act) (w : World), (∀ j o, ops[j]? = some o → j ≠ i → ls.getD j true = false → (∀ e ∈ o.after, Region.binds md e = true → e.on ≠ i) → oi.apart ops o = true) → i ∈ Region.ready md ops ls → YieldsIf P ops S oi v a → S w →
      Walks P md ops Q S (zl.contains ·) n (ls.setIfInBounds i true) (a.put oi.dst v) w → Walks P md ops Q S (zl.contains ·) (n + 1) ls a w from
    fun n ls a w hf hr => H n ls a w (Region.free_spec ho hf) (by simpa using hr)
  have hsel := Region.noSelect_spec hs
  intro n
  induction n with
  | zero =>
    intro ls a w _ hr hy hS h
    refine ⟨fun e => (by rw [e] at hr; cases hr), fun j hj => ?_⟩
    rcases Decidable.em (j = i) with rfl | hne
    · exact hy.wpOp ho hS ⟨fun _ => hS, h⟩
    · have hm := ready_mono hj hne
      rw [h.1] at hm; cases hm
  | succ n ih =>
    intro ls a w hf hr hy hS h
    refine ⟨fun e => (by rw [e] at hr; cases hr), fun j hj => ?_⟩
    rcases Decidable.em (j = i) with rfl | hne
    · exact hy.wpOp ho hS ⟨fun _ => hS, h⟩
    have hz := lastWait_not hl hr hj
    obtain ⟨hun, oj, hoj, hall⟩ := mem_ready.1 hj
    have hno : ∀ e ∈ oj.after, Region.binds md e = true → e.on ≠ i := fun e he hb hon => by
      have h2 := hall e he hb
      have h0 := (mem_ready.1 hr).1
      rw [hon] at h2
      rcases Nat.lt_or_ge i ls.size with hl | hl
      · simp [hl] at h0 h2; rw [h0] at h2; cases h2
      · simp [Array.getElem?_eq_none hl] at h2
    refine wpOp_mono (fun b y hb => ?_) (wpOp_putIf hoj (hf j oj hoj hne hun hno) (fun c d => hsel i oi c d ho) (fun c d => hsel j oj c d hoj) hQ hy (h.2 j (ready_mono hj hne)))
    obtain ⟨hy2, hS2, h2⟩ := hb
    refine ⟨fun _ => hS2 hz, ih _ b y (fun k ok hk hki hku hkn => hf k ok hk hki ?_ hkn) (ready_mono hr (Ne.symm hne)) hy2 (hS2 hz) (by rw [Array.setIfInBounds_comm _ _ hne]; exact h2)⟩
    rcases Decidable.em (j = k) with rfl | hjk
    · exact hun
    · rw [getD_set_ne true hjk] at hku; exact hku
theorem Walks.one {n i : Nat} {ls : Array Bool} {a : Act} {w : World} {o : Oper} (hr : Region.ready md ops ls = [i]) (ho : ops[i]? = some o)
    (h : ∀ K : Act → World → Prop, Shut (∀ b y, (zs i = false → S y) → ((zs i = false → S y) → Walks P md ops Q S zs n (ls.setIfInBounds i true) b y) → K b y) → if Region.wanted o (yielded ops a.tmps) = true then Oper.wp P o a w K Q else K (a.put o.dst undef) w) : Walks P md ops Q S zs (n + 1) ls a w :=
  ⟨fun e => (by rw [hr] at e; cases e), fun j hj => by
    rw [hr] at hj
    obtain rfl := List.mem_singleton.1 hj
    exact wpOp_step ho fun K hK => h K fun b y h1 h2 => hK b y ⟨h1, h2 h1⟩⟩
theorem Walks.done {ls : Array Bool} {a : Act} {w : World} (hr : Region.ready md ops ls = []) (h : Q .normal a w) : ∀ n, Walks P md ops Q S zs n ls a w
  | 0 => ⟨hr, h⟩
  | _ + 1 => ⟨fun _ => h, fun i hi => by rw [hr] at hi; cases hi⟩
/-- What is held may grow on the way. -/
theorem Walks.weaken {S' : World → Prop} (hS : ∀ y, S' y → S y) : ∀ {n : Nat} {ls : Array Bool} {a : Act} {w : World}, Walks P md ops Q S' zs n ls a w → Walks P md ops Q S zs n ls a w
  | 0, _, _, _, h => h
  | _ + 1, _, _, _, h => ⟨h.1, fun i hi => wpOp_mono (fun _ _ hb => ⟨fun hz => hS _ (hb.1 hz), hb.2.weaken hS⟩) (h.2 i hi)⟩
theorem wp_walks {zl : List Nat} {id : Nat} {a : Act} {w : World} (hm : P.follows .mixedOrders = true) (hS : S w.drew)
    (h : S w.drew → Walks P .any ops Q S (zl.contains ·) ops.size (Array.replicate ops.size false) a w.drew) : (Code.region id ops true).wp P Q a w := wp_region_any hm (h hS).any
end
end Go.Proofs.YtekadjjofcicaaaDoor
