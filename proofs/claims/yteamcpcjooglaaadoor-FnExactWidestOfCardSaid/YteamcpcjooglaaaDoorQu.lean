
/- A queue of ints in memory of its own: its head taken, others put behind. No conditions but those written. -/
import Derived.Test.YteamcpcjooglaaaDoorAo
import Derived.Test.YteamcpcjooglaaaDoorIa
import Derived.Deep.AppendSrc
import Derived.Lib.EndianMore
import Derived.Deep.Upon
namespace Go.Proofs.YteamcpcjooglaaaDoor
open Go.RowKit

/-- A queue: where it begins in its block, and what it holds. -/
def Qu (lo : Nat) (W : World) (v : Value) (xs : List Int) : Prop :=
  ∃ g off cap, v = .slice (some ⟨g, off, none⟩) xs.length cap ∧ lo ≤ g ∧ g < W.heap.size ∧ xs.length ≤ cap ∧ (∀ j, j < cap → (W.cell? ⟨g, off + j, none⟩).isSome = true ∧ W.frozen? ⟨g, off + j, none⟩ = false) ∧ ∀ j, j < xs.length → W.cell? ⟨g, off + j, none⟩ = some (.int .i64 (el xs j))
def quBlock : Value → Option Nat | .slice (some a) _ _ => some a.block | _ => none
theorem Qu.of {lo : Nat} {W : World} {g cap : Nat} {xs : List Int} (h : kI.Own lo W (.slice (some ⟨g, 0, none⟩) xs.length cap) xs) : Qu lo W (.slice (some ⟨g, 0, none⟩) xs.length cap) xs := by
  obtain ⟨cur, hh, hcl, hb, hn, _⟩ := owns_open h
  have hcl' : cur.length = cap := by rw [hcl]; show cap * 1 = cap; omega
  have hcell : ∀ j, W.cell? ⟨g, j, none⟩ = cur[j]? := fun j => by simp [World.cell?, hh]
  refine ⟨g, 0, cap, rfl, hb, (Array.getElem?_eq_some_iff.1 hh).1, hn, fun j hj => ⟨?_, ?_⟩, fun j hj => ?_⟩
  · rw [Nat.zero_add, hcell, List.getElem?_eq_getElem (by omega)]; rfl
  · rw [Nat.zero_add]; exact World.ownsRow.frozenAt h j
  · rw [Nat.zero_add, World.ownsRow.cellAt h j (by show j < xs.length * 1; omega), kI_flat, List.getElem?_map, List.getElem?_eq_getElem hj, el_at hj]; rfl
theorem Qu.keep {lo : Nat} {W W' : World} {v : Value} {xs : List Int} (h : Qu lo W v xs) (hs : W.heap.size ≤ W'.heap.size) (hb : ∀ g, quBlock v = some g → W'.heap[g]? = W.heap[g]?) : Qu lo W' v xs := by
  obtain ⟨g, off, cap, rfl, h1, h2, h3, h4, h5⟩ := h
  have hc : ∀ j, W'.cell? ⟨g, j, none⟩ = W.cell? ⟨g, j, none⟩ := fun j => World.cell?_of_block (a := ⟨g, j, none⟩) (hb g rfl)
  have hf : ∀ j, W'.frozen? ⟨g, j, none⟩ = W.frozen? ⟨g, j, none⟩ := fun j => World.frozen?_of_block (a := ⟨g, j, none⟩) (hb g rfl)
  exact ⟨g, off, cap, rfl, h1, by omega, h3, fun j hj => by rw [hc, hf]; exact h4 j hj, fun j hj => by rw [hc]; exact h5 j hj⟩
theorem Qu.lt {lo : Nat} {W : World} {v : Value} {xs : List Int} (h : Qu lo W v xs) {g : Nat} (hg : quBlock v = some g) : lo ≤ g ∧ g < W.heap.size := by
  obtain ⟨g', off, cap, rfl, h1, h2, r⟩ := h
  simp [quBlock] at hg
  subst hg
  exact ⟨h1, h2⟩
theorem Qu.later {lo : Nat} {W W' : World} {v : Value} {xs : List Int} (h : Qu lo W v xs) (hb : Below W.heap.size W W') : Qu lo W' v xs := h.keep hb.size fun _ hg => hb.block _ (h.lt hg).2
theorem Qu.slice {lo : Nat} {W : World} {v : Value} {xs : List Int} (h : Qu lo W v xs) : ∃ g off cap, v = .slice (some ⟨g, off, none⟩) xs.length cap ∧ xs.length ≤ cap := by
  obtain ⟨g, off, cap, e, _, _, h3, _⟩ := h
  exact ⟨g, off, cap, e, h3⟩
/-- The head, and the rest. -/
theorem Qu.pop {lo : Nat} {W : World} {g off cap : Nat} {x : Int} {xs : List Int} (h : Qu lo W (.slice (some ⟨g, off, none⟩) (xs.length + 1) cap) (x :: xs)) :
    W.cell? ⟨g, off, none⟩ = some (.int .i64 x) ∧ (cap ≠ 1 → Qu lo W (.slice (some ⟨g, off + 1, none⟩) xs.length (cap - 1)) xs) ∧ (cap = 1 → Qu lo W (.slice (some ⟨g, off, none⟩) xs.length (cap - 1)) xs) := by
  obtain ⟨g', off', cap', e, h1, h2, h3, h4, h5⟩ := h
  simp at e
  obtain ⟨⟨rfl, rfl⟩, rfl⟩ := e
  have h3' : xs.length + 1 ≤ cap := by simpa using h3
  refine ⟨?_, fun _ => ⟨g, off + 1, cap - 1, rfl, h1, h2, by omega, fun j hj => ?_, fun j hj => ?_⟩, fun e => ⟨g, off, cap - 1, rfl, h1, h2, by omega, fun j hj => by omega, fun j hj => by omega⟩⟩
  · have := h5 0 (by simp)
    rwa [el_zero, Nat.add_zero] at this
  · rw [show off + 1 + j = off + (j + 1) by omega]; exact h4 (j + 1) (by omega)
  · have := h5 (j + 1) (by simp; omega)
    rw [el_cons] at this
    rw [show off + 1 + j = off + (j + 1) by omega]; exact this
theorem Qu.app {ops : Array Oper} {rest : List Oper} {o : Oper} {a : Act} {Q : Exit → Act → World → Prop} (W : World) (hg : o.guard = none) (s x : Operand) (hop : o.op = Op.call { callee := Callee.builtin Builtin.append, args := #[s, x], argTypes := #[kI.st, kI.st] })
    (lo : Nat) (v : Value) (xs : List Int) (hs : a.eval s = v) (hq : Qu lo W v xs) (hlo : lo ≤ W.heap.size)
    (ao : Option Addr) (ys : List Int) (m c : Nat) (hx : a.eval x = .slice ao m c) (hm : ys.length = m) (n : Nat) (hz : kI.In n W ao ys) (hl : xs.length + ys.length ≤ 4194304)
    (hk : ∀ v' w', Qu lo w' v' (xs ++ ys) → Below lo W w' → (∀ b, b < W.heap.size → quBlock v ≠ some b → w'.heap[b]? = W.heap[b]?) → (quBlock v' = quBlock v ∨ quBlock v' = some W.heap.size) → wpList Tryd.prog ops Q rest (a.put o.dst v') w') :
    wpList Tryd.prog ops Q (o :: rest) a W := by
  obtain ⟨i0, z0, hin, hz0, hz1, hz2, hz3⟩ := kI_ok.info
  have hz1' : i0.size = 1 := hz1
  obtain ⟨g, off, cap, rfl, h1, h2, h3, h4, h5⟩ := hq
  subst hm
  have hfl : (kI.flat ys).length = ys.length := by rw [kI_flat, List.length_map]
  have hsrc : Src Tryd.prog i0.size kI.st (.slice ao ys.length c) ys.length (kI.flat ys) W := by
    cases ao with
    | none =>
      have hy : ys = [] := by rcases hz with h | ⟨b, off, e, _⟩; exact h; cases e
      subst hy
      exact Src.ofNil (w := W) kI_ok.und c
    | some ad => exact Src.ofSlice (w := W) kI_ok.und ad ys.length c (kI.flat ys) (by rw [hz1', hfl, Nat.mul_one]) hz.src (kI.flat_one ys)
  have hel : ∀ j, j < (xs ++ ys).length → xs.length ≤ j → (kI.flat ys)[j - xs.length]? = some (.int .i64 (el (xs ++ ys) j)) := fun j hj hge => by
    have hj' : j - xs.length < ys.length := by simp at hj; omega
    rw [kI_flat, List.getElem?_map, List.getElem?_eq_getElem hj', el, List.getElem?_append_right hge, List.getElem?_eq_getElem hj']; rfl
  by_cases hroom : xs.length + ys.length ≤ cap
  · have hr := run_append_room_src (P := Tryd.prog) (w := W) kI.st kI.st o.type kI.ty i0 kI_ok.und hin g off xs.length cap _ ys.length (kI.flat ys) hsrc hroom (fun j hj => by rw [hz1', Nat.mul_one, Nat.add_assoc]; exact (h4 (xs.length + j) (by omega)).1) (fun j hj => by rw [hz1', Nat.mul_one, Nat.add_assoc]; exact (h4 (xs.length + j) (by omega)).2)
    rw [hz1', Nat.mul_one] at hr
    refine wpList_plain hg fun K' hK' => ?_
    unfold Oper.wp execOp
    simp only [hop, resolve, invoke, builtin, Sem.run_bind, Sem.run_pure, Result.andThen_ok, List.map_toArray, List.map_cons, List.map_nil, hs, hx, hr]
    have hsome : ∀ j, j < (kI.flat ys).length → (W.cell? ⟨g, off + xs.length + j, none⟩).isSome = true := fun j hj => by rw [Nat.add_assoc]; exact (h4 (xs.length + j) (by omega)).1
    have hB := Lib.below_setCells_w (g := g) h1 (kI.flat ys) (off + xs.length) W
    refine hK' _ _ ?_
    have := hk (.slice (some ⟨g, off, none⟩) (xs ++ ys).length cap) (W.setCells g (off + xs.length) (kI.flat ys)) ⟨g, off, cap, rfl, h1, Nat.lt_of_lt_of_le h2 hB.size, by simp; omega, fun j hj => ⟨?_, ?_⟩, fun j hj => ?_⟩ hB (fun b hb hne => World.heap_setCells_other W g _ _ hb (fun e => hne (by rw [e]; rfl))) (.inl rfl)
    · rw [List.length_append] at this; exact this
    · by_cases hin' : xs.length ≤ j ∧ j < xs.length + (kI.flat ys).length
      · have h := World.cell?_setCells_in g (kI.flat ys) (off + xs.length) W hsome (j - xs.length) (by omega)
        rw [show off + xs.length + (j - xs.length) = off + j by omega] at h
        rw [h]; rfl
      · rw [World.cell?_setCells_out g (kI.flat ys) (off + xs.length) W ⟨g, off + j, none⟩ (fun _ _ => by simp only; omega)]; exact (h4 j hj).1
    · rw [World.frozen?_setCells]; exact (h4 j hj).2
    · by_cases hge : xs.length ≤ j
      · have hjl : j - xs.length < (kI.flat ys).length := by simp at hj; omega
        have h := World.cell?_setCells_in g (kI.flat ys) (off + xs.length) W hsome (j - xs.length) hjl
        rw [show off + xs.length + (j - xs.length) = off + j by omega] at h
        rw [h, ← hel j hj hge, List.getElem?_eq_getElem hjl]
      · rw [World.cell?_setCells_out g (kI.flat ys) (off + xs.length) W ⟨g, off + j, none⟩ (fun _ _ => by simp only; omega), h5 j (by omega), el_app_left (by omega)]
  · have hfirst : (Builtin.firstCells i0.size xs.length (.slice (some ⟨g, off, none⟩) xs.length cap)).run Tryd.prog W.drew = .ok (kI.flat xs).toArray W.drew := by
      refine run_firstCells_some (P := Tryd.prog) W.drew i0.size xs.length ⟨g, off, none⟩ xs.length cap (kI.flat xs) (by rw [hz1', Nat.mul_one, kI_flat, List.length_map]) fun j u hu => ?_
      have hj : j < xs.length := by have := (List.getElem?_eq_some_iff.1 hu).1; rw [kI_flat, List.length_map] at this; exact this
      have h := h5 j hj
      rw [kI_flat, List.getElem?_map, List.getElem?_eq_getElem hj] at hu
      simp at hu
      subst hu
      rw [el_at hj] at h
      have e : (⟨g, off, none⟩ : Addr).add j = ⟨g, off + j, none⟩ := by simp [Addr.add]
      rw [e]
      exact h
    have hb8 : (xs.length + ys.length) * i0.bytes ≤ 140737488355328 := by
      have : (xs.length + ys.length) * i0.bytes ≤ 4194304 * 4096 := Nat.mul_le_mul hl hz3
      omega
    have hr := run_append_grow_src (P := Tryd.prog) (w := W) kI.st kI.st o.type kI.ty i0 z0 kI_ok.und hin hz0 (some ⟨g, off, none⟩) xs.length cap (kI.flat xs) hfirst _ ys.length (kI.flat ys) hsrc (by omega) (by omega) (growslice_fits (by omega) hb8)
    refine wpList_plain hg fun K' hK' => ?_
    unfold Oper.wp execOp
    simp only [hop, resolve, invoke, builtin, Sem.run_bind, Sem.run_pure, Result.andThen_ok, List.map_toArray, List.map_cons, List.map_nil, hs, hx, hr]
    refine hK' _ _ ?_
    obtain ⟨C, hC⟩ : ∃ C, C = grownCap W (xs.length + ys.length) cap kI.ty := ⟨_, rfl⟩
    rw [← hC]
    have hCge : xs.length + ys.length ≤ C := by rw [hC]; exact grownCap_ge W _ _ _
    obtain ⟨A, hA⟩ : ∃ A : Array Value, A = (kI.flat xs ++ kI.flat ys).toArray ++ Builtin.zeroCells z0.cells (C - (xs.length + ys.length)) := ⟨_, rfl⟩
    rw [← hA]
    have hAs : A.size = C := by
      rw [hA]
      simp only [Array.size_append, List.size_toArray, List.length_append, kI_flat, List.length_map, size_zeroCells, hz2]
      show _ + _ * 1 = _
      omega
    have hAj : ∀ j, j < xs.length + ys.length → A[j]? = some (.int .i64 (el (xs ++ ys) j)) := fun j hj => by
      have hl2 : j < ((xs ++ ys).map (Value.int .i64)).length := by simp; omega
      rw [hA, Array.getElem?_append_left (by simp [kI_flat]; omega), List.getElem?_toArray, kI_flat, kI_flat, ← List.map_append, List.getElem?_map, List.getElem?_eq_getElem (show j < (xs ++ ys).length by simp; omega), el_at (show j < (xs ++ ys).length by simp; omega)]; rfl
    have hcell : ∀ j, (W.drew.alloc (.cells A kI.ty)).cell? ⟨W.heap.size, j, none⟩ = A[j]? := fun j => World.cell?_alloc_new (w := W.drew) A kI.ty j
    have hB : Below W.heap.size W (W.drew.alloc (.cells A kI.ty)) := ((Below.refl _ _).drew).alloc (Nat.le_refl _) _
    have := hk (.slice (some ⟨W.heap.size, 0, none⟩) (xs ++ ys).length C) (W.drew.alloc (.cells A kI.ty)) ⟨W.heap.size, 0, C, rfl, hlo, by show W.heap.size < (W.heap.push _).size; rw [Array.size_push]; omega, by rw [List.length_append]; exact hCge, fun j hj => ⟨?_, ?_⟩, fun j hj => ?_⟩ (hB.mono hlo) (fun b hb _ => hB.block b hb) (.inr rfl)
    · rw [List.length_append] at this; exact this
    · rw [Nat.zero_add, hcell, Array.getElem?_eq_getElem (by omega)]; rfl
    · rw [Nat.zero_add]; exact World.frozen?_alloc_new (w := W.drew) A kI.ty j
    · rw [Nat.zero_add, hcell]; exact hAj j (by simpa using hj)
end Go.Proofs.YteamcpcjooglaaaDoor
