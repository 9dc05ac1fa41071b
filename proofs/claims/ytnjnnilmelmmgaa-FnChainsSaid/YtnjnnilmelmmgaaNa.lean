
/- Rows of rows of ints. No conditions but those written. -/
import Derived.Test.YtnjnnilmelmmgaaIa
import Derived.Test.YtnjnnilmelmmgaaBx
namespace Go.Proofs.Ytnjnnilmelmmgaa
open Go.RowKit

/-- A row of slices: where each begins, its length, its room. -/
def kR : Kind (Option Addr × Nat × Nat) := ⟨28, 43, 1, fun t => [.slice t.1 t.2.1 t.2.2], fun _ => rfl, fun a v h => by simp at h; subst h; rfl⟩
theorem Try.info28 : (Try.prog.info? 28).map (fun i => (i.zero, i.size, i.bytes)) = some (some (.slice none 0 0), 1, 24) := by kernel_rfl
theorem kR_ok : kR.Ok := kind_ok (K := kR) Try.underlying43 Try.info28 rfl (by decide) (by decide)
theorem kR_at {n : Nat} {W : World} {ao : Option Addr} {hs : List (Option Addr × Nat × Nat)} (h : kR.In n W ao hs) {k : Nat} (hk : k < hs.length) :
    ∃ b off, ao = some ⟨b, off, none⟩ ∧ b < n ∧ ∀ j, j < hs.length → W.cell? ⟨b, off + j, none⟩ = some (.slice (el hs j).1 (el hs j).2.1 (el hs j).2.2) := by
  obtain ⟨b, off, e, hb, hc⟩ := h.pos hk
  refine ⟨b, off, e, hb, fun j hj => ?_⟩
  have := hc j hj 0 (by decide)
  simpa [kR] using this
/-- The rows ls lie below n; their heads hs lie at ao. -/
def InRR (n : Nat) (W : World) (ao : Option Addr) (hs : List (Option Addr × Nat × Nat)) (ls : List (List Int)) : Prop :=
  kR.In n W ao hs ∧ hs.length = ls.length ∧ ∀ j, j < ls.length → (el hs j).2.1 = (el ls j).length ∧ kI.In n W (el hs j).1 (el ls j)
theorem InRR.below {n : Nat} {W W' : World} {ao : Option Addr} {hs : List (Option Addr × Nat × Nat)} {ls : List (List Int)} (h : InRR n W ao hs ls) (hb : Below n W W') : InRR n W' ao hs ls :=
  ⟨h.1.below hb, h.2.1, fun j hj => ⟨(h.2.2 j hj).1, (h.2.2 j hj).2.below hb⟩⟩
theorem InRR.up {n m : Nat} {W : World} {ao : Option Addr} {hs : List (Option Addr × Nat × Nat)} {ls : List (List Int)} (h : InRR n W ao hs ls) (hm : n ≤ m) : InRR m W ao hs ls :=
  ⟨h.1.up hm, h.2.1, fun j hj => ⟨(h.2.2 j hj).1, (h.2.2 j hj).2.up hm⟩⟩
theorem InRR.later {W W' : World} {ao : Option Addr} {hs : List (Option Addr × Nat × Nat)} {ls : List (List Int)} (h : InRR W.heap.size W ao hs ls) (hb : Below W.heap.size W W') : InRR W'.heap.size W' ao hs ls := (h.below hb).up hb.size
theorem InRR.nil (n : Nat) (W : World) (ao : Option Addr) : InRR n W ao [] [] := ⟨.inl rfl, rfl, fun j hj => by simp at hj⟩
/-- One of the heads, and its row. -/
theorem InRR.at {n : Nat} {W : World} {ao : Option Addr} {hs : List (Option Addr × Nat × Nat)} {ls : List (List Int)} (h : InRR n W ao hs ls) {k : Nat} (hk : k < ls.length) :
    ∃ b off o c, ao = some ⟨b, off, none⟩ ∧ b < n ∧ W.cell? ⟨b, off + k, none⟩ = some (.slice o (el ls k).length c) ∧ el hs k = (o, (el ls k).length, c) ∧ kI.In n W o (el ls k) := by
  obtain ⟨b, off, e, hb, hc⟩ := kR_at h.1 (k := k) (by rw [h.2.1]; exact hk)
  obtain ⟨h1, h2⟩ := h.2.2 k hk
  refine ⟨b, off, (el hs k).1, (el hs k).2.2, e, hb, ?_, ?_, h2⟩
  · rw [hc k (by rw [h.2.1]; exact hk), h1]
  · rw [← h1]
/-- The rows ls are of their own, from lo on and before hi, apart from one another; their heads hs too. -/
def FrRR (lo hi : Nat) (W : World) (ao : Option Addr) (c : Nat) (hs : List (Option Addr × Nat × Nat)) (ls : List (List Int)) : Prop :=
  kR.Fresh lo hi W ao c hs ∧ hs.length = ls.length ∧ (∀ j, j < ls.length → (el hs j).2.1 = (el ls j).length ∧ kI.Fresh lo hi W (el hs j).1 (el hs j).2.2 (el ls j)) ∧
    (∀ i j, i < j → j < ls.length → Off (el hs i).1 (el ls i).length (el hs j).1 (el ls j).length)
section
variable {lo hi : Nat} {W W' : World} {ao : Option Addr} {c : Nat} {hs : List (Option Addr × Nat × Nat)} {ls : List (List Int)}
theorem FrRR.in (h : FrRR lo hi W ao c hs ls) : InRR W.heap.size W ao hs ls := ⟨h.1.in, h.2.1, fun j hj => ⟨(h.2.2.1 j hj).1, (h.2.2.1 j hj).2.in⟩⟩
theorem FrRR.keep (h : FrRR lo hi W ao c hs ls) (hk : ∀ k, lo ≤ k → k < hi → k < W.heap.size → W'.heap[k]? = W.heap[k]?) : FrRR lo hi W' ao c hs ls :=
  ⟨h.1.keep hk, h.2.1, fun j hj => ⟨(h.2.2.1 j hj).1, (h.2.2.1 j hj).2.keep hk⟩, h.2.2.2⟩
theorem FrRR.later (h : FrRR lo hi W ao c hs ls) (hb : Below W.heap.size W W') : FrRR lo hi W' ao c hs ls := h.keep fun k _ _ hk => hb.block k hk
theorem FrRR.wide {lo' hi' : Nat} (h : FrRR lo hi W ao c hs ls) (h1 : lo' ≤ lo) (h2 : hi ≤ hi') : FrRR lo' hi' W ao c hs ls :=
  ⟨h.1.wide h1 h2, h.2.1, fun j hj => ⟨(h.2.2.1 j hj).1, (h.2.2.1 j hj).2.wide h1 h2⟩, h.2.2.2⟩
theorem FrRR.between' {lo' hi' : Nat} (h : FrRR lo hi W ao c hs ls) (hb : Between lo' hi' W W') (hd : hi ≤ lo' ∨ hi' ≤ lo) : FrRR lo hi W' ao c hs ls :=
  h.keep fun k h1 h2 h3 => hb.block k h3 (by omega)
theorem FrRR.nil (lo hi : Nat) (W : World) (ao : Option Addr) (c : Nat) : FrRR lo hi W ao c [] [] := ⟨.inl rfl, rfl, fun j hj => by simp at hj, fun i j _ hj => by simp at hj⟩
/-- One of the rows is written. -/
theorem FrRR.set {k : Nat} {x : List Int} (h : FrRR lo hi W ao c hs ls) (hk : k < ls.length) (hx : x.length = (el ls k).length) (hF : kI.Fresh lo hi W' (el hs k).1 (el hs k).2.2 x) (hO : OnlyAt (eff (el hs k).1 (el ls k).length) W W') : FrRR lo hi W' ao c hs (ls.set k x) := by
  have he : ∀ j, j < ls.length → el (ls.set k x) j = if j = k then x else el ls j := by
    intro j hj
    by_cases e : j = k
    · subst e; simp [el, hj]
    · simp [el, e, Ne.symm e]
  have hlen : ∀ j, j < ls.length → (el (ls.set k x) j).length = (el ls j).length := by
    intro j hj
    rw [he j hj]
    split
    · rename_i e; rw [hx, e]
    · rfl
  refine ⟨?_, by rw [List.length_set]; exact h.2.1, ?_, ?_⟩
  · refine h.1.off (h.1.rowAt.off (h.2.2.1 k hk).2.rowAt ?_) hO
    show (28 : TypeId) ≠ 3
    decide
  · intro j hj
    rw [List.length_set] at hj
    refine ⟨by rw [hlen j hj]; exact (h.2.2.1 j hj).1, ?_⟩
    rw [he j hj]
    split
    · rename_i e; subst e; exact hF
    · rename_i e
      refine (h.2.2.1 j hj).2.off ?_ hO
      rcases Nat.lt_or_ge j k with hjk | hjk
      · exact h.2.2.2 j k hjk hk
      · exact (h.2.2.2 k j (by omega) hj).symm
  · intro i j hij hj
    rw [List.length_set] at hj
    rw [hlen i (by omega), hlen j hj]
    exact h.2.2.2 i j hij hj
end
/-- How many there are in all. -/
def tot (ls : List (List Int)) : Nat := (ls.map List.length).sum
theorem tot_nil : tot [] = 0 := rfl
theorem tot_take {ls : List (List Int)} {k : Nat} (h : k < ls.length) : tot (ls.take (k + 1)) = tot (ls.take k) + (el ls k).length := by
  rw [take_succ_el h]; simp [tot]
theorem tot_le (ls : List (List Int)) (k : Nat) : tot (ls.take k) ≤ tot ls := by
  induction ls generalizing k with
  | nil => simp [tot]
  | cons x r ih =>
    cases k with
    | zero => simp [tot]
    | succ k => simp only [List.take_succ_cons, tot, List.map_cons, List.sum_cons]; have := ih k; simp only [tot] at this; omega
theorem tot_el {ls : List (List Int)} {k : Nat} (h : k < ls.length) : tot (ls.take k) + (el ls k).length ≤ tot ls := by
  rw [← tot_take h]; exact tot_le ls _
end Go.Proofs.Ytnjnnilmelmmgaa
