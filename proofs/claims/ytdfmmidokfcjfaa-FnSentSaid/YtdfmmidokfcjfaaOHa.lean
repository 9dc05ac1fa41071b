
/- The ring: an array of ten, where it begins and how many it holds. No conditions but those written. -/
import Derived.Test.YtdfmmidokfcjfaaOGc
import Derived.Deep.MidRow
namespace Go.Proofs.Ytdfmmidokfcjfaa.Old
open Go.RowKit

/-- Ten numbers: the list, and zeros. -/
def padR (zs : List Int) : List Int := zs ++ List.replicate (10 - zs.length) 0
theorem padR_len {zs : List Int} (h : zs.length ≤ 10) : (padR zs).length = 10 := by simp [padR]; omega
theorem ten {l : List Int} (h : l.length = 10) : ∃ g0 g1 g2 g3 g4 g5 g6 g7 g8 g9, l = [g0, g1, g2, g3, g4, g5, g6, g7, g8, g9] := by
  match l, h with
  | [a0, a1, a2, a3, a4, a5, a6, a7, a8, a9], _ => exact ⟨a0, a1, a2, a3, a4, a5, a6, a7, a8, a9, rfl⟩
/-- The cells of a ring. -/
def rcells (g : List Int) (f m : Int) : List Value := g.map (Value.int .i64) ++ [.int .i64 f, .int .i64 m]
/-- The block p is a ring. -/
def RingB (W : World) (p : Nat) (g : List Int) (f m : Int) : Prop := g.length = 10 ∧ W.heap[p]? = some (.cells (rcells g f m).toArray 52 (0, 0))
theorem RingB.lt {W : World} {p : Nat} {g : List Int} {f m : Int} (h : RingB W p g f m) : p < W.heap.size := (Array.getElem?_eq_some_iff.1 h.2).1
theorem RingB.cell {W : World} {p : Nat} {g : List Int} {f m : Int} (h : RingB W p g f m) {i : Nat} (hi : i < 10) : W.cell? ⟨p, i, none⟩ = some (.int .i64 (g[i]?.getD 0)) := by
  have h1 := h.1
  simp [World.cell?, h.2, rcells, List.getElem?_append, h1, hi]
theorem RingB.first {W : World} {p : Nat} {g : List Int} {f m : Int} (h : RingB W p g f m) : W.cell? ⟨p, 10, none⟩ = some (.int .i64 f) := by
  have h1 := h.1
  simp [World.cell?, h.2, rcells, h1]
theorem RingB.many {W : World} {p : Nat} {g : List Int} {f m : Int} (h : RingB W p g f m) : W.cell? ⟨p, 11, none⟩ = some (.int .i64 m) := by
  have h1 := h.1
  simp [World.cell?, h.2, rcells, h1]
theorem RingB.soft {W : World} {p : Nat} {g : List Int} {f m : Int} (h : RingB W p g f m) (i : Nat) : W.frozen? ⟨p, i, none⟩ = false := by simp [World.frozen?, h.2]
theorem RingB.later {W W' : World} {p : Nat} {g : List Int} {f m : Int} (h : RingB W p g f m) (hb : Below W.heap.size W W') : RingB W' p g f m := ⟨h.1, by rw [hb.block p h.lt]; exact h.2⟩
theorem RingB.put {W : World} {p : Nat} {g : List Int} {f m : Int} (h : RingB W p g f m) {i : Nat} (hi : i < 10) (v : Int) : RingB (W.setCell ⟨p, i, none⟩ (.int .i64 v)) p (g.set i v) f m := by
  refine ⟨by simpa using h.1, ?_⟩
  have h1 := h.1
  have := heap_setCell_same W p i (rcells g f m).toArray 52 (.int .i64 v) h.2
  rw [this]
  simp [rcells, h1, hi]
theorem RingB.setM {W : World} {p : Nat} {g : List Int} {f m : Int} (h : RingB W p g f m) (v : Int) : RingB (W.setCell ⟨p, 11, none⟩ (.int .i64 v)) p g f v := by
  refine ⟨h.1, ?_⟩
  have h1 := h.1
  have := heap_setCell_same W p 11 (rcells g f m).toArray 52 (.int .i64 v) h.2
  rw [this]
  simp [rcells, h1]
theorem RingB.setF {W : World} {p : Nat} {g : List Int} {f m : Int} (h : RingB W p g f m) (v : Int) : RingB (W.setCell ⟨p, 10, none⟩ (.int .i64 v)) p g v m := by
  refine ⟨h.1, ?_⟩
  have h1 := h.1
  have := heap_setCell_same W p 10 (rcells g f m).toArray 52 (.int .i64 v) h.2
  rw [this]
  simp [rcells, h1]
theorem RingB.range {W : World} {p : Nat} {g : List Int} {f m : Int} (h : RingB W p g f m) : W.rangeAt p 0 (rcells g f m) := by
  intro j v hv
  rw [Nat.zero_add]
  simpa [World.cell?, h.2] using hv
theorem rcells_one (g : List Int) (f m : Int) : ∀ v ∈ rcells g f m, v.oneCell' = true := by
  intro v hv
  simp [rcells] at hv
  rcases hv with ⟨a, _, rfl⟩ | rfl | rfl <;> rfl
theorem Try.size52 : (Try.prog.info? 52).map (·.size) = some 12 := by kernel_rfl
theorem below_setCells {n b : Nat} {w0 w : World} (hb : Below n w0 w) (hn : n ≤ b) : ∀ (o : Nat) (cs : List Value), Below n w0 (w.setCells b o cs) := by
  intro o cs
  induction cs generalizing o w with
  | nil => exact hb
  | cons c r ih => exact ih (hb.setCell (p := ⟨b, o, none⟩) hn c) (o + 1)
theorem ring_new (W : World) (g0 g1 g2 g3 g4 g5 g6 g7 g8 g9 f m : Int) : RingB (W.alloc (.cells #[.int .i64 g0, .int .i64 g1, .int .i64 g2, .int .i64 g3, .int .i64 g4, .int .i64 g5, .int .i64 g6, .int .i64 g7, .int .i64 g8, .int .i64 g9, .int .i64 f, .int .i64 m] 52)) W.heap.size [g0, g1, g2, g3, g4, g5, g6, g7, g8, g9] f m := by
  refine ⟨rfl, ?_⟩
  show (W.heap.push _)[W.heap.size]? = _
  simp [rcells]

theorem pad_cells (zs : List Int) (f m : Int) (hl : zs.length ≤ 10) : zs.map (Value.int .i64) ++ (rcells [0, 0, 0, 0, 0, 0, 0, 0, 0, 0] f m).drop zs.length = rcells (padR zs) f m := by
  have e : rcells [0, 0, 0, 0, 0, 0, 0, 0, 0, 0] f m = List.replicate 10 (Value.int .i64 0) ++ [.int .i64 f, .int .i64 m] := rfl
  rw [e, List.drop_append_of_le_length (by simpa using hl), List.drop_replicate, rcells, padR, List.map_append, List.map_replicate, List.append_assoc]

set_option maxRecDepth 100000 in
set_option maxHeartbeats 8000000 in
theorem ringOf_any (ao : Option Addr) (cap : Nat) (zs : List Int) (w : World) (hl : zs.length ≤ 10) (hz : IntsIn w.heap.size w ao zs) :
    Calls Try.prog 16 #[.slice ao zs.length cap] w fun e w' => e = .returned (.agg (rcells (padR zs) 0 zs.length).toArray) ∧ Below w.heap.size w w' := by
  obtain ⟨W2, hW2⟩ : ∃ W2, W2 = (w.alloc (.cells #[.int .i64 0, .int .i64 0, .int .i64 0, .int .i64 0, .int .i64 0, .int .i64 0, .int .i64 0, .int .i64 0, .int .i64 0, .int .i64 0, .int .i64 0, .int .i64 0] 52)).alloc (.cells #[.int .i64 0, .int .i64 0, .int .i64 0, .int .i64 0, .int .i64 0, .int .i64 0, .int .i64 0, .int .i64 0, .int .i64 0, .int .i64 0, .int .i64 0, .int .i64 zs.length] 52) := ⟨_, rfl⟩
  have hB2 : Below w.heap.size w W2 := by rw [hW2]; exact below2 _ _ _
  have hh : W2.heap[w.heap.size + 1]? = some (.cells (rcells [0, 0, 0, 0, 0, 0, 0, 0, 0, 0] 0 zs.length).toArray 52 (0, 0)) := by
    have h := (ring_new (w.alloc (.cells #[.int .i64 0, .int .i64 0, .int .i64 0, .int .i64 0, .int .i64 0, .int .i64 0, .int .i64 0, .int .i64 0, .int .i64 0, .int .i64 0, .int .i64 0, .int .i64 0] 52)) 0 0 0 0 0 0 0 0 0 0 0 zs.length).2
    rw [World.size_alloc] at h
    rw [hW2]; exact h
  have hR0 : W2.heap[w.heap.size]? = some (.cells #[.int .i64 0, .int .i64 0, .int .i64 0, .int .i64 0, .int .i64 0, .int .i64 0, .int .i64 0, .int .i64 0, .int .i64 0, .int .i64 0, .int .i64 0, .int .i64 0] 52 (0, 0)) := by
    rw [hW2, Below.heap_alloc _ _ _ (by simp)]
    show (w.heap.push _)[w.heap.size]? = _
    simp
  have hcopy : ∃ W3, (Builtin.copy_ #[23, 23] 3 #[.slice (some ⟨w.heap.size + 1, 0, none⟩) 10 10, .slice ao zs.length cap]).run Try.prog W2 = .ok (goInt zs.length) W3 ∧ RingB W3 (w.heap.size + 1) (padR zs) 0 zs.length ∧ OnlyAt (some ⟨w.heap.size + 1, 0, none⟩) W2 W3 := by
    rcases hz with rfl | ⟨b, off, rfl, hb, hc⟩
    · refine ⟨W2, run_copy_none (P := Try.prog) W2 23 23 3 3 _ _ _ _ _ _ Try.underlying23 Try.size3 (by simp), ⟨by simp [padR], ?_⟩, OnlyAt.refl _ _⟩
      simpa [padR] using hh
    · have h := run_copy_row (P := Try.prog) W2 23 23 3 3 (w.heap.size + 1) 0 10 10 ⟨b, off, none⟩ zs.length cap _ 52 (zs.map (Value.int .i64)) Try.underlying23 Try.size3 hh (by rw [List.length_map]; exact (Nat.min_eq_left hl).symm) (ints_src hB2 hb hc) (by simp [rcells]; omega) (ints_one zs)
      refine ⟨W2.setRow (w.heap.size + 1) (zs.map (Value.int .i64) ++ (rcells [0, 0, 0, 0, 0, 0, 0, 0, 0, 0] 0 zs.length).drop zs.length).toArray, by rw [h]; simp, ⟨padR_len hl, ?_⟩, ⟨rfl, rfl, rfl, by simp [World.setRow], fun k hk => setRow_other W2 (w.heap.size + 1) k _ (hk _ rfl)⟩⟩
      rw [setRow_heap W2 (w.heap.size + 1) _ _ 52 _ hh, pad_cells zs 0 zs.length hl]
  obtain ⟨W3, hrun, hR3, hO3⟩ := hcopy
  have hS : W3.heap[w.heap.size]? = some (.cells #[.int .i64 0, .int .i64 0, .int .i64 0, .int .i64 0, .int .i64 0, .int .i64 0, .int .i64 0, .int .i64 0, .int .i64 0, .int .i64 0, .int .i64 0, .int .i64 0] 52 (0, 0)) := by rw [hO3.block w.heap.size (fun g e => by cases e; omega)]; exact hR0
  obtain ⟨g0, g1, g2, g3, g4, g5, g6, g7, g8, g9, hg⟩ := ten (padR_len hl)
  have hB3 : Below w.heap.size w W3 := hB2.trans ⟨hO3.os, hO3.tape, hO3.output, by rw [hO3.size]; exact Nat.le_refl _, fun k hk => hO3.block k fun g e => by cases e; omega⟩
  rw [hg] at hR3
  have hthere : W3.there w.heap.size 0 12 := by
    intro j hj
    refine ⟨?_, by simp [World.frozen?, hS]⟩
    simp [World.cell?, hS]
    exact hj
  obtain ⟨W4, hW4⟩ : ∃ W4, W4 = ((((((((((((W3.setCell ⟨w.heap.size, 0, none⟩ (.int .i64 g0)).setCell ⟨w.heap.size, 1, none⟩ (.int .i64 g1)).setCell ⟨w.heap.size, 2, none⟩ (.int .i64 g2)).setCell ⟨w.heap.size, 3, none⟩ (.int .i64 g3)).setCell ⟨w.heap.size, 4, none⟩ (.int .i64 g4)).setCell ⟨w.heap.size, 5, none⟩ (.int .i64 g5)).setCell ⟨w.heap.size, 6, none⟩ (.int .i64 g6)).setCell ⟨w.heap.size, 7, none⟩ (.int .i64 g7)).setCell ⟨w.heap.size, 8, none⟩ (.int .i64 g8)).setCell ⟨w.heap.size, 9, none⟩ (.int .i64 g9)).setCell ⟨w.heap.size, 10, none⟩ (.int .i64 0)).setCell ⟨w.heap.size, 11, none⟩ (.int .i64 (zs.length : Int))) := ⟨_, rfl⟩
  have hback : (loadVar 52 ⟨w.heap.size, 0, none⟩).run Try.prog W4 = .ok (.agg #[.int .i64 g0, .int .i64 g1, .int .i64 g2, .int .i64 g3, .int .i64 g4, .int .i64 g5, .int .i64 g6, .int .i64 g7, .int .i64 g8, .int .i64 g9, .int .i64 0, .int .i64 (zs.length : Int)]) W4 := by
    have h := World.rangeAt_setCells_same W3 w.heap.size 0 [.int .i64 g0, .int .i64 g1, .int .i64 g2, .int .i64 g3, .int .i64 g4, .int .i64 g5, .int .i64 g6, .int .i64 g7, .int .i64 g8, .int .i64 g9, .int .i64 0, .int .i64 (zs.length : Int)] hthere
    have e : W3.setCells w.heap.size 0 [.int .i64 g0, .int .i64 g1, .int .i64 g2, .int .i64 g3, .int .i64 g4, .int .i64 g5, .int .i64 g6, .int .i64 g7, .int .i64 g8, .int .i64 g9, .int .i64 0, .int .i64 (zs.length : Int)] = W4 := by rw [hW4]; rfl
    rw [e] at h
    exact run_loadVar_mid (P := Try.prog) W4 w.heap.size 0 52 _ _ h Try.underlying52 rfl Try.size52
  have hB4 : Below w.heap.size w W4 := by rw [hW4]; exact ((((((((((((hB3.setCell (p := ⟨w.heap.size, 0, none⟩) (Nat.le_refl _) _).setCell (p := ⟨w.heap.size, 1, none⟩) (Nat.le_refl _) _).setCell (p := ⟨w.heap.size, 2, none⟩) (Nat.le_refl _) _).setCell (p := ⟨w.heap.size, 3, none⟩) (Nat.le_refl _) _).setCell (p := ⟨w.heap.size, 4, none⟩) (Nat.le_refl _) _).setCell (p := ⟨w.heap.size, 5, none⟩) (Nat.le_refl _) _).setCell (p := ⟨w.heap.size, 6, none⟩) (Nat.le_refl _) _).setCell (p := ⟨w.heap.size, 7, none⟩) (Nat.le_refl _) _).setCell (p := ⟨w.heap.size, 8, none⟩) (Nat.le_refl _) _).setCell (p := ⟨w.heap.size, 9, none⟩) (Nat.le_refl _) _).setCell (p := ⟨w.heap.size, 10, none⟩) (Nat.le_refl _) _).setCell (p := ⟨w.heap.size, 11, none⟩) (Nat.le_refl _) _)
  have c0 : W3.cell? ⟨w.heap.size + 1, 0, none⟩ = some (.int .i64 g0) := hR3.cell (i := 0) (by omega)
  have c1 : W3.cell? ⟨w.heap.size + 1, 1, none⟩ = some (.int .i64 g1) := hR3.cell (i := 1) (by omega)
  have c2 : W3.cell? ⟨w.heap.size + 1, 2, none⟩ = some (.int .i64 g2) := hR3.cell (i := 2) (by omega)
  have c3 : W3.cell? ⟨w.heap.size + 1, 3, none⟩ = some (.int .i64 g3) := hR3.cell (i := 3) (by omega)
  have c4 : W3.cell? ⟨w.heap.size + 1, 4, none⟩ = some (.int .i64 g4) := hR3.cell (i := 4) (by omega)
  have c5 : W3.cell? ⟨w.heap.size + 1, 5, none⟩ = some (.int .i64 g5) := hR3.cell (i := 5) (by omega)
  have c6 : W3.cell? ⟨w.heap.size + 1, 6, none⟩ = some (.int .i64 g6) := hR3.cell (i := 6) (by omega)
  have c7 : W3.cell? ⟨w.heap.size + 1, 7, none⟩ = some (.int .i64 g7) := hR3.cell (i := 7) (by omega)
  have c8 : W3.cell? ⟨w.heap.size + 1, 8, none⟩ = some (.int .i64 g8) := hR3.cell (i := 8) (by omega)
  have c9 : W3.cell? ⟨w.heap.size + 1, 9, none⟩ = some (.int .i64 g9) := hR3.cell (i := 9) (by omega)
  have c10 := hR3.first
  have c11 := hR3.many
  have r0 : W3.cell? ⟨w.heap.size, 0, none⟩ = some (.int .i64 0) := by simp [World.cell?, hS]
  have f0 : W3.frozen? ⟨w.heap.size, 0, none⟩ = false := by simp [World.frozen?, hS]
  have r1 : W3.cell? ⟨w.heap.size, 1, none⟩ = some (.int .i64 0) := by simp [World.cell?, hS]
  have f1 : W3.frozen? ⟨w.heap.size, 1, none⟩ = false := by simp [World.frozen?, hS]
  have r2 : W3.cell? ⟨w.heap.size, 2, none⟩ = some (.int .i64 0) := by simp [World.cell?, hS]
  have f2 : W3.frozen? ⟨w.heap.size, 2, none⟩ = false := by simp [World.frozen?, hS]
  have r3 : W3.cell? ⟨w.heap.size, 3, none⟩ = some (.int .i64 0) := by simp [World.cell?, hS]
  have f3 : W3.frozen? ⟨w.heap.size, 3, none⟩ = false := by simp [World.frozen?, hS]
  have r4 : W3.cell? ⟨w.heap.size, 4, none⟩ = some (.int .i64 0) := by simp [World.cell?, hS]
  have f4 : W3.frozen? ⟨w.heap.size, 4, none⟩ = false := by simp [World.frozen?, hS]
  have r5 : W3.cell? ⟨w.heap.size, 5, none⟩ = some (.int .i64 0) := by simp [World.cell?, hS]
  have f5 : W3.frozen? ⟨w.heap.size, 5, none⟩ = false := by simp [World.frozen?, hS]
  have r6 : W3.cell? ⟨w.heap.size, 6, none⟩ = some (.int .i64 0) := by simp [World.cell?, hS]
  have f6 : W3.frozen? ⟨w.heap.size, 6, none⟩ = false := by simp [World.frozen?, hS]
  have r7 : W3.cell? ⟨w.heap.size, 7, none⟩ = some (.int .i64 0) := by simp [World.cell?, hS]
  have f7 : W3.frozen? ⟨w.heap.size, 7, none⟩ = false := by simp [World.frozen?, hS]
  have r8 : W3.cell? ⟨w.heap.size, 8, none⟩ = some (.int .i64 0) := by simp [World.cell?, hS]
  have f8 : W3.frozen? ⟨w.heap.size, 8, none⟩ = false := by simp [World.frozen?, hS]
  have r9 : W3.cell? ⟨w.heap.size, 9, none⟩ = some (.int .i64 0) := by simp [World.cell?, hS]
  have f9 : W3.frozen? ⟨w.heap.size, 9, none⟩ = false := by simp [World.frozen?, hS]
  have r10 : W3.cell? ⟨w.heap.size, 10, none⟩ = some (.int .i64 0) := by simp [World.cell?, hS]
  have f10 : W3.frozen? ⟨w.heap.size, 10, none⟩ = false := by simp [World.frozen?, hS]
  have r11 : W3.cell? ⟨w.heap.size, 11, none⟩ = some (.int .i64 0) := by simp [World.cell?, hS]
  have f11 : W3.frozen? ⟨w.heap.size, 11, none⟩ = false := by simp [World.frozen?, hS]
  have HG : Hid (padR zs = [g0, g1, g2, g3, g4, g5, g6, g7, g8, g9]) := hg
  have HW4 : Hid (W4 = ((((((((((((W3.setCell ⟨w.heap.size, 0, none⟩ (.int .i64 g0)).setCell ⟨w.heap.size, 1, none⟩ (.int .i64 g1)).setCell ⟨w.heap.size, 2, none⟩ (.int .i64 g2)).setCell ⟨w.heap.size, 3, none⟩ (.int .i64 g3)).setCell ⟨w.heap.size, 4, none⟩ (.int .i64 g4)).setCell ⟨w.heap.size, 5, none⟩ (.int .i64 g5)).setCell ⟨w.heap.size, 6, none⟩ (.int .i64 g6)).setCell ⟨w.heap.size, 7, none⟩ (.int .i64 g7)).setCell ⟨w.heap.size, 8, none⟩ (.int .i64 g8)).setCell ⟨w.heap.size, 9, none⟩ (.int .i64 g9)).setCell ⟨w.heap.size, 10, none⟩ (.int .i64 0)).setCell ⟨w.heap.size, 11, none⟩ (.int .i64 (zs.length : Int)))) := hW4
  have HK : Hid ((loadVar 52 ⟨w.heap.size, 0, none⟩).run Try.prog W4 = .ok (.agg #[.int .i64 g0, .int .i64 g1, .int .i64 g2, .int .i64 g3, .int .i64 g4, .int .i64 g5, .int .i64 g6, .int .i64 g7, .int .i64 g8, .int .i64 g9, .int .i64 0, .int .i64 (zs.length : Int)]) W4) := hback
  rw [hW2] at hrun
  clear hW2 hh hR0 hR3 hO3 hz hB2 hg hS hthere hW4 hback hB3
  go_enter Try.func16, Try.ntmps16
  go_wp2
  rw [← HW4.out]
  have hback := HK.out
  refine bodyPost_ret (v := .agg #[.int .i64 g0, .int .i64 g1, .int .i64 g2, .int .i64 g3, .int .i64 g4, .int .i64 g5, .int .i64 g6, .int .i64 g7, .int .i64 g8, .int .i64 g9, .int .i64 0, .int .i64 (zs.length : Int)]) (by simp [results, Try.results16, asAddr, hback]) rfl ⟨by rw [HG.out]; rfl, hB4⟩
end Go.Proofs.Ytdfmmidokfcjfaa.Old
