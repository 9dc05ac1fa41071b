
/- slices.IndexFunc and ContainsFunc, whatever function they are handed. No conditions but those written. -/
import Derived.Test.YtekadjjofcicaaaDoorNd
import Derived.Shelf.Abstract
namespace Go.Proofs.YtekadjjofcicaaaDoor
open Go.RowKit

/-- The first place at which p holds, or -1. -/
def fidx {α : Type} (p : α → Bool) (l : List α) : Int := match l.findIdx? p with | some k => (k : Int) | none => -1
theorem fidx_hit {α : Type} [Inhabited α] {p : α → Bool} {l : List α} {k : Nat} (hk : k < l.length) (h : p (el l k) = true) (hn : ∀ j, j < k → p (el l j) = false) : fidx p l = (k : Int) := by
  have : l.findIdx? p = some k := by
    rw [List.findIdx?_eq_some_iff_getElem]
    refine ⟨hk, by rw [← el_at hk]; exact h, fun j hj => ?_⟩
    have := hn j hj
    rw [el_at (by omega)] at this
    simp [this]
  rw [fidx, this]
theorem fidx_no {α : Type} [Inhabited α] {p : α → Bool} {l : List α} (h : ∀ j, j < l.length → p (el l j) = false) : fidx p l = -1 := by
  have : l.findIdx? p = none := by
    rw [List.findIdx?_eq_none_iff]
    intro x hx
    obtain ⟨j, hj, rfl⟩ := mem_el hx
    exact h j hj
  rw [fidx, this]
theorem fidx_any {α : Type} (p : α → Bool) (l : List α) : decide (0 ≤ fidx p l) = l.any p := by
  unfold fidx
  cases h : l.findIdx? p with
  | none =>
    rw [List.findIdx?_eq_none_iff] at h
    have : l.any p = false := by rw [List.any_eq_false]; intro x hx; simp [h x hx]
    simp [this]
  | some k =>
    rw [List.findIdx?_eq_some_iff_getElem] at h
    obtain ⟨h1, h2, _⟩ := h
    have : l.any p = true := by rw [List.any_eq_true]; exact ⟨_, List.getElem_mem h1, h2⟩
    simp [this]
set_option maxHeartbeats 4000000 in
theorem indexFuncI_any (g : Nat) (cb : Array Value) (eg : ∀ args w, (callFunc g args).run Tryd.prog w = .ok (.enter g args) w) (ao : Option Addr) (cap : Nat) (zs : List Int) (p : Int → Bool) (w : World) (hl : zs.length ≤ 1048576) (hz : kI.In w.heap.size w ao zs) (hC : ∀ x W, x ∈ zs → Below w.heap.size w W → Calls Tryd.prog g (#[.int .i64 x] ++ cb) W fun e w' => e = .returned (.bool (p x)) ∧ Below W.heap.size W w') :
    Calls Tryd.prog 54 #[.slice ao zs.length cap, .func (.func g) #[] cb] w fun e w' => e = .returned (.int .i64 (fidx p zs)) ∧ Below w.heap.size w w' := by
  have HC := hid hC
  clear hC
  go_enter Tryd.func54, Tryd.ntmps54
  go_wp2
  go_loopw [8] (fun i wr => ∃ k : Nat, i = .int .i64 (k : Int) ∧ k ≤ zs.length ∧ Hid (∀ j, j < k → p (el zs j) = false) ∧ Below w.heap.size w wr) (fun i _ => zs.length - (intOf i).toNat)
  case atStart => exact ⟨0, rfl, Nat.zero_le _, fun j hj => by omega, Below.refl _ _⟩
  case round =>
    obtain ⟨k, rfl, hk, hN, hB⟩ := hrel
    by_cases hlt : k < zs.length
    · obtain ⟨b, off, rfl, hb, hc⟩ := ints_at hz hlt
      have d1 := (hB.cell (p := ⟨b, off + k, none⟩) hb).trans (hc k hlt)
      have hm := el_mem hlt
      have hcall := fun W hW => HC.out (el zs k) W hm hW
      have HE : Hid (∀ y, p (el zs k) = y → p (el zs k) = y) := fun _ h => h
      obtain ⟨y, hy⟩ : ∃ y, p (el zs k) = y := ⟨_, rfl⟩
      have HY := hid hy
      rw [hy] at hcall
      obtain ⟨x, ex⟩ : ∃ v, v = el zs k := ⟨_, rfl⟩
      rw [← ex] at d1 hcall
      clear ex hc hm hy HE
      skip
      skip
      cases y
      · go_wp2_with (go_at_fn g; refine (hcall _ hB).mono ?_; rintro e w1 ⟨rfl, hb1⟩; have hB1 : Below w.heap.size w w1 := hB.trans (hb1.mono hB.size); clear hb1)
        go_roundw
        case rel =>
          refine ⟨k + 1, by go_num, by omega, fun j hj => ?_, hB1⟩
          rcases Nat.lt_succ_iff_lt_or_eq.1 hj with h | rfl
          · exact hN.out j h
          · exact HY.out
        case measure => simp [intOf]; omega
      · go_wp2_with (go_at_fn g; refine (hcall _ hB).mono ?_; rintro e w1 ⟨rfl, hb1⟩; have hB1 : Below w.heap.size w w1 := hB.trans (hb1.mono hB.size); clear hb1)
        go_ret
        exact ⟨ret_int (fidx_hit hlt HY.out hN.out).symm, hB1⟩
    · obtain rfl : k = zs.length := by omega
      go_wp2
      go_ret
      exact ⟨ret_int (fidx_no hN.out).symm, hB⟩
set_option maxHeartbeats 1000000 in
theorem containsFuncI_any (g : Nat) (cb : Array Value) (eg : ∀ args w, (callFunc g args).run Tryd.prog w = .ok (.enter g args) w) (ao : Option Addr) (cap : Nat) (zs : List Int) (p : Int → Bool) (w : World) (hl : zs.length ≤ 1048576) (hz : kI.In w.heap.size w ao zs) (hC : ∀ x W, x ∈ zs → Below w.heap.size w W → Calls Tryd.prog g (#[.int .i64 x] ++ cb) W fun e w' => e = .returned (.bool (p x)) ∧ Below W.heap.size W w') :
    Calls Tryd.prog 43 #[.slice ao zs.length cap, .func (.func g) #[] cb] w fun e w' => e = .returned (.bool (zs.any p)) ∧ Below w.heap.size w w' := by
  rw [← fidx_any]
  have hcon := indexFuncI_any g cb eg ao cap zs p w hl hz hC
  clear hC hz
  go_enter Tryd.func43, Tryd.ntmps43
  go_wp2_with (go_at_call 54; refine hcon.mono ?_; rintro e w1 ⟨rfl, hb1⟩)
  go_ret
  exact ⟨rfl, hb1⟩
/-- A node as a value. -/
def nodeV (x : LNode) : Value := .agg #[.string x.1, .int .i64 x.2.1, .int .i64 x.2.2.1, .int .i64 x.2.2.2.1, .int .i64 x.2.2.2.2.1, .slice x.2.2.2.2.2.1 x.2.2.2.2.2.2.2.length x.2.2.2.2.2.2.1]
end Go.Proofs.YtekadjjofcicaaaDoor
