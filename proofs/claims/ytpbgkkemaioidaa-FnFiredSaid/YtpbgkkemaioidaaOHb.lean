
/- The heap's places in memory, and how two of them are swapped. No conditions but those written. -/
import Derived.Test.YtpbgkkemaioidaaOHa
import Derived.Test.YtpbgkkemaioidaaODh
import Derived.BigRegion
namespace Go.Proofs.Ytpbgkkemaioidaa.Old
open Go.RowKit

def pcells (xs : List Nat) : List Value := xs.map (fun p : Nat => Value.int .i64 (p : Int))
/-- v is a row of its own, from lo on, that holds the places xs. -/
def OwnP (lo : Nat) (W : World) (v : Value) (xs : List Nat) : Prop := W.ownsRow lo 3 1 v xs.length (pcells xs)
theorem pcells_at (xs : List Nat) (i : Nat) (h : i < xs.length) : (pcells xs)[i]? = some (.int .i64 (pl xs i : Int)) := by simp [pcells, pl, h]
theorem pcells_swap (xs : List Nat) (a b : Nat) : pcells (swapL xs a b) = ((pcells xs).set a (.int .i64 (pl xs b : Int))).set b (.int .i64 (pl xs a : Int)) := by
  simp [pcells, swapL, List.map_set]
theorem OwnP.cell {lo : Nat} {W : World} {g cap : Nat} {xs : List Nat} (h : OwnP lo W (.slice (some ⟨g, 0, none⟩) xs.length cap) xs) (i : Nat) (hi : i < xs.length) : W.cell? ⟨g, i, none⟩ = some (.int .i64 (pl xs i : Int)) :=
  (World.ownsRow.cellAt h i (by omega)).trans (pcells_at xs i hi)
theorem OwnP.frozen {lo : Nat} {W : World} {g cap : Nat} {xs : List Nat} (h : OwnP lo W (.slice (some ⟨g, 0, none⟩) xs.length cap) xs) (i : Nat) : W.frozen? ⟨g, i, none⟩ = false := World.ownsRow.frozenAt h i
theorem OwnP.swap {lo : Nat} {W : World} {g cap : Nat} {xs : List Nat} (h : OwnP lo W (.slice (some ⟨g, 0, none⟩) xs.length cap) xs) (a b : Nat) :
    OwnP lo ((W.setCell ⟨g, a, none⟩ (.int .i64 (pl xs b : Int))).setCell ⟨g, b, none⟩ (.int .i64 (pl xs a : Int))) (.slice (some ⟨g, 0, none⟩) xs.length cap) (swapL xs a b) := by
  unfold OwnP
  rw [swapL_len, pcells_swap]
  exact ((World.ownsRow.stored h a _).1.stored b _).1
theorem OwnP.drew {lo : Nat} {W : World} {v : Value} {xs : List Nat} (h : OwnP lo W v xs) : OwnP lo W.drew v xs := h
theorem OwnP.keep {lo : Nat} {W W' : World} {g cap : Nat} {xs : List Nat} (h : OwnP lo W (.slice (some ⟨g, 0, none⟩) xs.length cap) xs) (hb : W'.heap[g]? = W.heap[g]?) : OwnP lo W' (.slice (some ⟨g, 0, none⟩) xs.length cap) xs := owns_block h hb
theorem Between.refl (lo hi : Nat) (w : World) : Between lo hi w w := ⟨rfl, rfl, rfl, Nat.le_refl _, fun _ _ _ => rfl⟩
theorem Between.set {g o : Nat} (w : World) (u : Value) : Between g (g + 1) w (w.setCell ⟨g, o, none⟩ u) :=
  ⟨rfl, rfl, rfl, by simp, fun k _ hr => Below.heap_setCell _ _ _ _ (by simp; omega)⟩
theorem Between.drew {lo hi : Nat} {w w' : World} (h : Between lo hi w w') : Between lo hi w w'.drew := ⟨h.os, h.tape, h.output, h.size, h.block⟩

set_option maxRecDepth 100000 in
set_option maxHeartbeats 4000000 in
theorem swap_any (lo H g cap : Nat) (xs : List Nat) (a b : Nat) (w : World) (ha : a < xs.length) (hb : b < xs.length) (hH : w.cell? ⟨H, 0, none⟩ = some (.slice (some ⟨g, 0, none⟩) xs.length cap)) (ho : OwnP lo w (.slice (some ⟨g, 0, none⟩) xs.length cap) xs) :
    Calls Try.prog 35 #[.pointer (some ⟨H, 0, none⟩), .int .i64 (a : Int), .int .i64 (b : Int)] w fun e w' => (∃ v, e = .returned v) ∧ OwnP lo w' (.slice (some ⟨g, 0, none⟩) xs.length cap) (swapL xs a b) ∧ Between g (g + 1) w w' := by
  have ca := ho.cell a ha
  have cb := ho.cell b hb
  have fa := ho.frozen a
  have fb := ho.frozen b
  have HO : Hid (OwnP lo w (.slice (some ⟨g, 0, none⟩) xs.length cap) xs) := ho
  have hai : (a : Int) < (xs.length : Int) := by omega
  have hbi : (b : Int) < (xs.length : Int) := by omega
  clear ho
  by_cases e : a = b
  · subst e
    go_enter Try.func35, Try.ntmps35
    go_wp2
    go_region
    all_goals
      go_wp2
      go_end0
      exact ⟨⟨_, rfl⟩, HO.out.drew.swap a a, ((Between.refl _ _ _).drew.trans (Between.set _ _)).trans (Between.set _ _)⟩
  · have hab : a ≠ b := e
    have hba : b ≠ a := fun h => e h.symm
    clear e
    go_enter Try.func35, Try.ntmps35
    go_wp2
    go_region
    all_goals
      go_wp2
      go_end0
      exact ⟨⟨_, rfl⟩, HO.out.drew.swap a b, ((Between.refl _ _ _).drew.trans (Between.set _ _)).trans (Between.set _ _)⟩
end Go.Proofs.Ytpbgkkemaioidaa.Old
