
/- A row of ints turned round. No conditions but those written. -/
import Derived.Test.YtbpacibfboldcaaDoorAc
namespace Go.Proofs.YtbpacibfboldcaaDoor
open Go.RowKit

theorem el_set_same {α : Type} [Inhabited α] {l : List α} {i : Nat} {a : α} (h : i < l.length) : el (l.set i a) i = a := by simp [el, h]
theorem el_set_other {α : Type} [Inhabited α] {l : List α} {i j : Nat} {a : α} (h : j ≠ i) : el (l.set i a) j = el l j := by simp [el, Ne.symm h]
theorem el_ext {α : Type} [Inhabited α] {xs ys : List α} (hl : xs.length = ys.length) (h : ∀ j, j < ys.length → el xs j = el ys j) : xs = ys := by
  refine List.ext_getElem hl fun j h1 h2 => ?_
  have := h j h2
  rwa [el_at h1, el_at h2] at this
theorem el_reverse {xs : List Int} {q : Nat} (h : q < xs.length) : el xs.reverse q = el xs (xs.length - 1 - q) := by
  rw [el_at (by simpa using h), el_at (by omega), List.getElem_reverse]
/-- The first i and the last i are turned. -/
def RevTo (xs ys : List Int) (i : Nat) : Prop := ys.length = xs.length ∧ ∀ q, q < xs.length → el ys q = if q < i ∨ xs.length ≤ q + i then el xs (xs.length - 1 - q) else el xs q
theorem RevTo.zero (xs : List Int) : RevTo xs xs 0 := ⟨rfl, fun q hq => by rw [if_neg (by omega)]⟩
theorem RevTo.done {xs ys : List Int} {i : Nat} (h : RevTo xs ys i) (hi : xs.length ≤ 2 * i + 1) : ys = xs.reverse := by
  refine el_ext (by simpa using h.1) fun j hj => ?_
  have hj' : j < xs.length := by simpa using hj
  rw [h.2 j hj', el_reverse hj']
  by_cases c : j < i ∨ xs.length ≤ j + i
  · rw [if_pos c]
  · rw [if_neg c, show xs.length - 1 - j = j by omega]
theorem RevTo.step {xs ys : List Int} {i : Nat} (h : RevTo xs ys i) (hi : i + 1 < xs.length - i) : RevTo xs ((ys.set i (el ys (xs.length - 1 - i))).set (xs.length - 1 - i) (el ys i)) (i + 1) := by
  have hl := h.1
  refine ⟨by simp [hl], fun q hq => ?_⟩
  have ha := h.2 i (by omega)
  have hb := h.2 (xs.length - 1 - i) (by omega)
  rw [if_neg (by omega)] at ha hb
  by_cases e1 : q = xs.length - 1 - i
  · subst e1
    rw [el_set_same (by simp [hl]; omega), if_pos (by omega), ha, show xs.length - 1 - (xs.length - 1 - i) = i by omega]
  · rw [el_set_other e1]
    by_cases e2 : q = i
    · subst e2
      rw [el_set_same (by rw [hl]; omega), if_pos (by omega), hb]
    · rw [el_set_other e2, h.2 q hq]
      by_cases c : q < i ∨ xs.length ≤ q + i
      · rw [if_pos c, if_pos (by omega)]
      · rw [if_neg c, if_neg (by omega)]
set_option maxRecDepth 10000 in
set_option maxHeartbeats 4000000 in
theorem reverse_any (lo hi : Nat) (qo : Option Addr) (qc : Nat) (xs : List Int) (w : World) (hl : xs.length ≤ 1048576) (hF : kI.Fresh lo hi w qo qc xs) :
    Calls Tryd.prog 84 #[.slice qo xs.length qc] w fun e w' => e = .returned (.tuple #[]) ∧ kI.Fresh lo hi w' qo qc xs.reverse ∧ Below lo w w' ∧ ∀ b, (∀ g, eff qo xs.length = some ⟨g, 0, none⟩ → b ≠ g) → w'.heap[b]? = w.heap[b]? := by
  rcases Nat.eq_zero_or_pos xs.length with h0 | h0
  · obtain rfl : xs = [] := List.length_eq_zero_iff.1 h0
    go_enter Tryd.func84, Tryd.ntmps84
    go_wp2
    go_loop [2, 3] (fun i j => i = .int .i64 0 ∧ j = .int .i64 (-1)) (fun _ _ => 0)
    case atStart => exact ⟨rfl, rfl⟩
    case round =>
      obtain ⟨rfl, rfl⟩ := hrel
      go_wp2
      first | refine bodyPost_ret (results_none rfl _ _ _) rfl ?_ | refine bodyPost_end (results_none rfl _ _ _) rfl ?_
      exact ⟨rfl, hF, Below.refl _ _, fun b _ => rfl⟩
  · rw [eff_pos h0]
    obtain ⟨g, rfl, hg0, hg, hg1, ho⟩ := hF.at h0
    have HF := hid hF
    clear hF ho
    go_enter Tryd.func84, Tryd.ntmps84
    go_wp2
    go_loopw [2, 3] (fun u v wr => ∃ (i : Nat) (ys : List Int), u = .int .i64 i ∧ v = .int .i64 ((xs.length : Int) - 1 - i) ∧ i ≤ xs.length ∧ Hid (RevTo xs ys i) ∧ Hid (kI.Fresh lo hi wr (some ⟨g, 0, none⟩) qc ys) ∧ Hid (∀ b, b ≠ g → wr.heap[b]? = w.heap[b]?) ∧ Below lo w wr) (fun u _ _ => xs.length - (intOf u).toNat)
    case atStart => exact ⟨0, xs, rfl, by simp, Nat.zero_le _, RevTo.zero xs, HF, fun b _ => rfl, Below.refl _ _⟩
    case round =>
      obtain ⟨i, ys, rfl, rfl, hil, hR, hY, hK, hB⟩ := hrel
      by_cases hlt : (i : Int) < (xs.length : Int) - 1 - i
      · obtain ⟨j, hj⟩ : ∃ j : Nat, j = xs.length - 1 - i := ⟨_, rfl⟩
        have hji : ((xs.length : Int) - 1 - i) = (j : Int) := by omega
        have hij : i < j := by omega
        have hjl : j < xs.length := by omega
        rw [hji]
        have hyl : ys.length = xs.length := hR.out.1
        obtain ⟨g2, e2, hg0', hg', hg1', ho⟩ := hY.out.at (by omega)
        simp at e2; subst e2
        obtain ⟨b0, off, eb, _, hc⟩ := ints_at hY.out.in (k := i) (by omega)
        obtain ⟨rfl, rfl⟩ : b0 = g ∧ off = 0 := by simp at eb; exact ⟨eb.1.symm, eb.2.symm⟩
        have ci := hc i (by omega)
        have cj := hc j (by omega)
        simp only [Nat.zero_add] at ci cj
        have fi := ho.frozenAt i
        have fj := ho.frozenAt j
        obtain ⟨a, ha⟩ : ∃ a, a = el ys i := ⟨_, rfl⟩
        obtain ⟨b, hb⟩ : ∃ b, b = el ys j := ⟨_, rfl⟩
        rw [← ha] at ci
        rw [← hb] at cj
        have hne : i ≠ j := by omega
        have hR2 : Hid (RevTo xs ((ys.set i b).set j a) (i + 1)) := by rw [Hid, hb, ha, hj]; exact RevTo.step hR.out (by omega)
        have hs := (World.ownsRow.stored ho i (.int .i64 b)).1
        have hs2 := (World.ownsRow.stored hs j (.int .i64 a)).1
        obtain ⟨W5, hW5⟩ : ∃ W5, W5 = (wr.setCell ⟨b0, i, none⟩ (.int .i64 b)).setCell ⟨b0, j, none⟩ (.int .i64 a) := ⟨_, rfl⟩
        have hY2 : Hid (kI.Fresh lo hi W5 (some ⟨b0, 0, none⟩) qc ((ys.set i b).set j a)) := by
          rw [Hid, hW5]
          refine .inr ⟨b0, rfl, hg', ?_⟩
          have e : kI.flat ((ys.set i b).set j a) = ((kI.flat ys).set i (.int .i64 b)).set j (.int .i64 a) := by rw [kI_flat, kI_flat, List.map_set, List.map_set]
          rw [e]; simpa using hs2
        have hK2 : Hid (∀ q, q ≠ b0 → W5.heap[q]? = w.heap[q]?) := fun q hq => by rw [hW5, Below.heap_setCell _ _ _ _ hq, Below.heap_setCell _ _ _ _ hq]; exact hK.out q hq
        have hB2 : Below lo w W5 := by rw [hW5]; exact (hB.setCell (p := ⟨b0, i, none⟩) hg0' _).setCell (p := ⟨b0, j, none⟩) hg0' _
        have HW5 := hid hW5
        clear hs hs2 hc hR hY hK hW5 ha hb hj ho eb
        go_wp2
        go_region
        all_goals go_wp2
        all_goals
          go_roundw
          case rel => exact ⟨i + 1, _, by go_num, by go_num, by omega, hR2, by rw [← HW5.out]; exact hY2.out, by rw [← HW5.out]; exact hK2.out, by rw [← HW5.out]; exact hB2.drew⟩
          case measure => simp [intOf]; omega
      · have HD := hid (hR.out.done (by omega))
        go_wp2
        first | refine bodyPost_ret (results_none rfl _ _ _) rfl ?_ | refine bodyPost_end (results_none rfl _ _ _) rfl ?_
        exact ⟨rfl, by rw [← HD.out]; exact hY.out, hB, fun q hq => hK.out q (by first | exact hq | exact hq g rfl)⟩
end Go.Proofs.YtbpacibfboldcaaDoor
