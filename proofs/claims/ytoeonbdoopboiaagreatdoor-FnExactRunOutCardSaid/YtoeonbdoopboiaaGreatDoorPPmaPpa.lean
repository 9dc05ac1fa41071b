/- Marks of pipes. No conditions but those written. What a pipe holds behind moves: both sides. No conditions but those written. -/
import Derived.Test.YtoeonbdoopboiaaGreatDoorPHs
import Derived.Test.YtoeonbdoopboiaaGreatDoorPZcZh
import Derived.Test.YtoeonbdoopboiaaGreatDoorPZaZe
import Derived.Test.YtoeonbdoopboiaaGreatDoorPYtYj
import Derived.Test.YtoeonbdoopboiaaGreatDoorPSpiMvr
namespace Go.Proofs.YtoeonbdoopboiaaGreatDoor
section
open Go.RowKit

/-- Every block of other elements is as it was. -/
def KeptBut (T : TypeId) (w w' : World) : Prop := ∀ (k : Nat) (cur : Array Value) (e : TypeId) (s : Nat × Nat), w.heap[k]? = some (.cells cur e s) → e ≠ T → w'.heap[k]? = w.heap[k]?
theorem KeptBut.refl (T : TypeId) (w : World) : KeptBut T w w := fun _ _ _ _ _ _ => rfl
theorem KeptBut.trans {T : TypeId} {a b c : World} (h : KeptBut T a b) (h2 : KeptBut T b c) : KeptBut T a c := fun k cur e s hk hne => by
  have h1 := h k cur e s hk hne
  exact (h2 k cur e s (h1.trans hk) hne).trans h1
theorem Kind.Fresh.keptBut {α : Type} {K : Kind α} {lo hi : Nat} {W W' : World} {to : Option Addr} {tc : Nat} {xs : List α} (h : K.Fresh lo hi W to tc xs) (hO : OnlyAt (eff to xs.length) W W') : KeptBut K.ty W W' := fun k cur e s hk hne => by
  refine hO.block k fun g eg => ?_
  rintro rfl
  rcases h with rfl | ⟨g2, e2, _, ho⟩
  · simp [eff] at eg
  · unfold eff at eg
    split at eg
    · cases eg
    · rw [e2] at eg; simp at eg; subst eg
      obtain ⟨cur2, h2⟩ := owns_type ho
      rw [hk] at h2; simp at h2; exact hne h2.2.1
theorem Kind.Fresh.keepT {α : Type} {K : Kind α} {lo hi : Nat} {W W' : World} {to : Option Addr} {tc : Nat} {xs : List α} {T : TypeId} (h : K.Fresh lo hi W to tc xs) (hk : KeptBut T W W') (hne : K.ty ≠ T) : K.Fresh lo hi W' to tc xs := by
  rcases h with h | ⟨g, e, hg, ho⟩
  · exact .inl h
  · obtain ⟨cur, hc⟩ := owns_type ho
    exact .inr ⟨g, e, hg, owns_block ho (hk g cur _ _ hc hne)⟩
theorem FrRT.keepT {lo hi : Nat} {W W' : World} {ao : Option Addr} {c : Nat} {hs : List (Option Addr × Nat × Nat)} {ls : List (List (Int × Int × Int))} {T : TypeId} (h : FrRT lo hi W ao c hs ls) (hk : KeptBut T W W') (h1 : kRT.ty ≠ T) (h2 : kTk.ty ≠ T) : FrRT lo hi W' ao c hs ls :=
  ⟨h.1.keepT hk h1, h.2.1, fun j hj => ⟨(h.2.2.1 j hj).1, (h.2.2.1 j hj).2.keepT hk h2⟩, h.2.2.2⟩
theorem FrTT.keepT {lo hi : Nat} {W W' : World} {ao : Option Addr} {c : Nat} {ls : List (List (Int × Int × Int))} {T : TypeId} (h : FrTT lo hi W ao c ls) (hk : KeptBut T W W') (h1 : kRT.ty ≠ T) (h2 : kTk.ty ≠ T) : FrTT lo hi W' ao c ls := h.imp fun _ h => h.keepT hk h1 h2
/-- The marks of a row of Token. -/
def markTk (k : Int) (n : Nat) : List (Int × Int × Int) := (List.range n).map (fun i : Nat => (k + 3 * (i : Int), k + 3 * (i : Int) + 1, k + 3 * (i : Int) + 2))
theorem markTk_len (k : Int) (n : Nat) : (markTk k n).length = n := by simp [markTk]
theorem markTk_at (k : Int) (n j : Nat) (h : j < n) : el (markTk k n) j = (k + 3 * (j : Int), k + 3 * (j : Int) + 1, k + 3 * (j : Int) + 2) := by simp [markTk, el, h]
set_option maxHeartbeats 2000000 in
theorem markTokenS_any (lo hi : Nat) (to : Option Addr) (tc : Nat) (ts : List (Int × Int × Int)) (k0 : Int) (w : World) (hl : ts.length ≤ 2097152) (hk0 : 0 ≤ k0) (hk1 : k0 ≤ 16777216) (hF : kTk.Fresh lo hi w to tc ts) :
    Calls Tryz.prog 74 #[.slice to ts.length tc, .int .i64 k0] w fun e w' => e = .returned (.int .i64 (k0 + 3 * ts.length)) ∧ kTk.Fresh lo hi w' to tc (markTk k0 ts.length) ∧ OnlyAt (eff to ts.length) w w' := by
  rcases Nat.eq_zero_or_pos ts.length with h0 | h0
  · obtain rfl : ts = [] := List.length_eq_zero_iff.1 h0
    go_enter Tryz.func74, Tryz.ntmps74
    go_wp2
    go_loop [1, 5] (fun v i => v = .int .i64 k0 ∧ i = .int .i64 0) (fun _ _ => 0)
    case atStart => exact ⟨rfl, rfl⟩
    case round =>
      obtain ⟨rfl, rfl⟩ := hrel
      go_wp2
      go_ret
      exact ⟨by simp, .inl (by simp [markTk]), OnlyAt.refl _ _⟩
  · rw [eff_pos h0]
    obtain ⟨g, rfl, _, hg, _, ho⟩ := hF.at h0
    have HO : Hid (w.ownsRow lo 104 3 (.slice (some ⟨g, 0, none⟩) ts.length tc) ts.length (kTk.flat ts)) := ho
    clear ho
    go_enter Tryz.func74, Tryz.ntmps74
    go_wp2
    go_loopw [1, 5] (fun v i wr => ∃ (k : Nat) (xs : List Value), k ≤ ts.length ∧ i = .int .i64 k ∧ v = .int .i64 (k0 + 3 * k) ∧ Hid (wr.ownsRow lo 104 3 (.slice (some ⟨g, 0, none⟩) ts.length tc) ts.length xs ∧ ∀ j : Nat, j < k → xs[j * 3]? = some (.int .i64 (k0 + 3 * j)) ∧ xs[j * 3 + 1]? = some (.int .i64 (k0 + 3 * j + 1)) ∧ xs[j * 3 + 2]? = some (.int .i64 (k0 + 3 * j + 2))) ∧ OnlyAt (some ⟨g, 0, none⟩) w wr) (fun _ i _ => ts.length - (intOf i).toNat)
    case atStart => exact ⟨0, _, Nat.zero_le _, rfl, by simp, ⟨HO.out, fun j hj => by omega⟩, OnlyAt.refl _ _⟩
    case round =>
      obtain ⟨k, xs, hk, rfl, rfl, ho, hnx⟩ := hrel
      by_cases hlt : k < ts.length
      · have hxl : k * 3 + 2 < xs.length := by rw [ho.out.1.1]; omega
        have hst1 : wr.cell? ⟨g, k * 3, none⟩ = some xs[k * 3] := (ho.out.1.cellAt (k * 3) (by omega)).trans (by simp)
        have hfr1 : wr.frozen? ⟨g, k * 3, none⟩ = false := ho.out.1.frozenAt (k * 3)
        have hst2 : wr.cell? ⟨g, k * 3 + 1, none⟩ = some xs[k * 3 + 1] := (ho.out.1.cellAt (k * 3 + 1) (by omega)).trans (by simp)
        have hfr2 : wr.frozen? ⟨g, k * 3 + 1, none⟩ = false := ho.out.1.frozenAt (k * 3 + 1)
        have hst3 : wr.cell? ⟨g, k * 3 + 2, none⟩ = some xs[k * 3 + 2] := (ho.out.1.cellAt (k * 3 + 2) (by omega)).trans (by simp)
        have hfr3 : wr.frozen? ⟨g, k * 3 + 2, none⟩ = false := ho.out.1.frozenAt (k * 3 + 2)
        go_wp2
        go_roundw
        case rel => exact ⟨k + 1, (((xs.set (k * 3) (.int .i64 (k0 + 3 * k))).set (k * 3 + 1) (.int .i64 (k0 + 3 * k + 1))).set (k * 3 + 2) (.int .i64 (k0 + 3 * k + 2))), by omega, by go_num, by go_num, ⟨by
            have h := (((World.ownsRow.stored ho.out.1 (k * 3) (.int .i64 (k0 + 3 * k))).1.stored (k * 3 + 1) (.int .i64 (k0 + 3 * k + 1))).1.stored (k * 3 + 2) (.int .i64 (k0 + 3 * k + 2))).1
            simpa [Int.add_assoc] using h, fun j hj => by
          rcases Nat.lt_succ_iff_lt_or_eq.1 hj with h | rfl
          · refine ⟨?_, ?_, ?_⟩
            · rw [set_far (by omega), set_far (by omega), set_far (by omega)]; exact (ho.out.2 j h).1
            · rw [set_far (by omega), set_far (by omega), set_far (by omega)]; exact (ho.out.2 j h).2.1
            · rw [set_far (by omega), set_far (by omega), set_far (by omega)]; exact (ho.out.2 j h).2.2
          · refine ⟨?_, ?_, ?_⟩
            · rw [set_far (by omega), set_far (by omega), set_at (by first | omega | (simp only [List.length_set]; omega))]
            · rw [set_far (by omega), set_at (by first | omega | (simp only [List.length_set]; omega))]
            · rw [set_at (by first | omega | (simp only [List.length_set]; omega))]⟩, (((hnx.trans (OnlyAt.set g (k * 3) _ _)).trans (OnlyAt.set g (k * 3 + 1) _ _)).trans (OnlyAt.set g (k * 3 + 2) _ _))⟩
        case measure => simp [intOf]; omega
      · obtain rfl : k = ts.length := by omega
        have hxs : xs = kTk.flat (markTk k0 ts.length) := by
          refine kTk.flat_of xs _ (by rw [markTk_len]; exact ho.out.1.1) fun j hj i hi => ?_
          rw [markTk_len] at hj
          rw [markTk_at _ _ _ hj]
          have hi' : i < 3 := hi
          rcases (show i = 0 ∨ i = 1 ∨ i = 2 from by omega) with rfl | rfl | rfl
          · exact (ho.out.2 j hj).1
          · exact (ho.out.2 j hj).2.1
          · exact (ho.out.2 j hj).2.2
        subst hxs
        go_wp2
        go_ret
        refine ⟨rfl, .inr ⟨g, rfl, hg, ?_⟩, hnx⟩
        rw [markTk_len]; exact ho.out.1
set_option maxHeartbeats 1000000 in
theorem heldTokenS_any (to : Option Addr) (tc : Nat) (n : Nat) (k0 : Int) (w : World) (hl : n ≤ 2097152) (hk0 : 0 ≤ k0) (hk1 : k0 ≤ 16777216) (hF : kTk.In w.heap.size w to (markTk k0 n)) :
    Calls Tryz.prog 75 #[.slice to n tc, .int .i64 k0] w fun e w' => e = .returned (.int .i64 (k0 + 3 * n)) ∧ w' = w := by
  go_enter Tryz.func75, Tryz.ntmps75
  go_wp2
  go_loop [1, 5] (fun v i => ∃ k : Nat, k ≤ n ∧ i = .int .i64 k ∧ v = .int .i64 (k0 + 3 * k)) (fun _ i => n - (intOf i).toNat)
  case atStart => exact ⟨0, Nat.zero_le _, rfl, by simp⟩
  case round =>
    obtain ⟨k, hk, rfl, rfl⟩ := hrel
    by_cases hlt : k < n
    · obtain ⟨b, off, rfl, hb, hc⟩ := kTk_at hF (k := k) (by rw [markTk_len]; exact hlt)
      have hck := hc k (by rw [markTk_len]; exact hlt)
      rw [markTk_at _ _ _ hlt] at hck
      obtain ⟨hck1, hck2, hck3⟩ := hck
      clear hc hF
      have hne0_0 : (k0 + 3 * (k : Int) != k0 + 3 * (k : Int)) = false := by simp <;> omega
      have hne1_0 : (k0 + 3 * (k : Int) + 1 != k0 + 3 * (k : Int) + 1) = false := by simp <;> omega
      have hne2_0 : (k0 + 3 * (k : Int) + 2 != k0 + 3 * (k : Int) + 1 + 1) = false := by simp <;> omega
      have hne2_1 : (k0 + 3 * (k : Int) + 2 != k0 + 3 * (k : Int) + 2) = false := by simp <;> omega
      dsimp only at hck1 hck2 hck3
      go_wp2
      go_round
      case rel => exact ⟨k + 1, by omega, by go_num, by go_num⟩
      case measure => simp [intOf]; omega
    · obtain rfl : k = n := by omega
      go_wp2
      go_ret
      exact ⟨rfl, rfl⟩
/-- The marks of a row of Out. -/
def markOu (k : Int) (n : Nat) : List (Int × Int × Int) := (List.range n).map (fun i : Nat => (k + 3 * (i : Int), k + 3 * (i : Int) + 1, k + 3 * (i : Int) + 2))
theorem markOu_len (k : Int) (n : Nat) : (markOu k n).length = n := by simp [markOu]
theorem markOu_at (k : Int) (n j : Nat) (h : j < n) : el (markOu k n) j = (k + 3 * (j : Int), k + 3 * (j : Int) + 1, k + 3 * (j : Int) + 2) := by simp [markOu, el, h]
set_option maxHeartbeats 2000000 in
theorem markOutS_any (lo hi : Nat) (to : Option Addr) (tc : Nat) (ts : List (Int × Int × Int)) (k0 : Int) (w : World) (hl : ts.length ≤ 2097152) (hk0 : 0 ≤ k0) (hk1 : k0 ≤ 16777216) (hF : kOu.Fresh lo hi w to tc ts) :
    Calls Tryz.prog 48 #[.slice to ts.length tc, .int .i64 k0] w fun e w' => e = .returned (.int .i64 (k0 + 3 * ts.length)) ∧ kOu.Fresh lo hi w' to tc (markOu k0 ts.length) ∧ OnlyAt (eff to ts.length) w w' := by
  rcases Nat.eq_zero_or_pos ts.length with h0 | h0
  · obtain rfl : ts = [] := List.length_eq_zero_iff.1 h0
    go_enter Tryz.func48, Tryz.ntmps48
    go_wp2
    go_loop [1, 5] (fun v i => v = .int .i64 k0 ∧ i = .int .i64 0) (fun _ _ => 0)
    case atStart => exact ⟨rfl, rfl⟩
    case round =>
      obtain ⟨rfl, rfl⟩ := hrel
      go_wp2
      go_ret
      exact ⟨by simp, .inl (by simp [markOu]), OnlyAt.refl _ _⟩
  · rw [eff_pos h0]
    obtain ⟨g, rfl, _, hg, _, ho⟩ := hF.at h0
    have HO : Hid (w.ownsRow lo 99 3 (.slice (some ⟨g, 0, none⟩) ts.length tc) ts.length (kOu.flat ts)) := ho
    clear ho
    go_enter Tryz.func48, Tryz.ntmps48
    go_wp2
    go_loopw [1, 5] (fun v i wr => ∃ (k : Nat) (xs : List Value), k ≤ ts.length ∧ i = .int .i64 k ∧ v = .int .i64 (k0 + 3 * k) ∧ Hid (wr.ownsRow lo 99 3 (.slice (some ⟨g, 0, none⟩) ts.length tc) ts.length xs ∧ ∀ j : Nat, j < k → xs[j * 3]? = some (.int .i64 (k0 + 3 * j)) ∧ xs[j * 3 + 1]? = some (.int .i64 (k0 + 3 * j + 1)) ∧ xs[j * 3 + 2]? = some (.int .i64 (k0 + 3 * j + 2))) ∧ OnlyAt (some ⟨g, 0, none⟩) w wr) (fun _ i _ => ts.length - (intOf i).toNat)
    case atStart => exact ⟨0, _, Nat.zero_le _, rfl, by simp, ⟨HO.out, fun j hj => by omega⟩, OnlyAt.refl _ _⟩
    case round =>
      obtain ⟨k, xs, hk, rfl, rfl, ho, hnx⟩ := hrel
      by_cases hlt : k < ts.length
      · have hxl : k * 3 + 2 < xs.length := by rw [ho.out.1.1]; omega
        have hst1 : wr.cell? ⟨g, k * 3, none⟩ = some xs[k * 3] := (ho.out.1.cellAt (k * 3) (by omega)).trans (by simp)
        have hfr1 : wr.frozen? ⟨g, k * 3, none⟩ = false := ho.out.1.frozenAt (k * 3)
        have hst2 : wr.cell? ⟨g, k * 3 + 1, none⟩ = some xs[k * 3 + 1] := (ho.out.1.cellAt (k * 3 + 1) (by omega)).trans (by simp)
        have hfr2 : wr.frozen? ⟨g, k * 3 + 1, none⟩ = false := ho.out.1.frozenAt (k * 3 + 1)
        have hst3 : wr.cell? ⟨g, k * 3 + 2, none⟩ = some xs[k * 3 + 2] := (ho.out.1.cellAt (k * 3 + 2) (by omega)).trans (by simp)
        have hfr3 : wr.frozen? ⟨g, k * 3 + 2, none⟩ = false := ho.out.1.frozenAt (k * 3 + 2)
        go_wp2
        go_roundw
        case rel => exact ⟨k + 1, (((xs.set (k * 3) (.int .i64 (k0 + 3 * k))).set (k * 3 + 1) (.int .i64 (k0 + 3 * k + 1))).set (k * 3 + 2) (.int .i64 (k0 + 3 * k + 2))), by omega, by go_num, by go_num, ⟨by
            have h := (((World.ownsRow.stored ho.out.1 (k * 3) (.int .i64 (k0 + 3 * k))).1.stored (k * 3 + 1) (.int .i64 (k0 + 3 * k + 1))).1.stored (k * 3 + 2) (.int .i64 (k0 + 3 * k + 2))).1
            simpa [Int.add_assoc] using h, fun j hj => by
          rcases Nat.lt_succ_iff_lt_or_eq.1 hj with h | rfl
          · refine ⟨?_, ?_, ?_⟩
            · rw [set_far (by omega), set_far (by omega), set_far (by omega)]; exact (ho.out.2 j h).1
            · rw [set_far (by omega), set_far (by omega), set_far (by omega)]; exact (ho.out.2 j h).2.1
            · rw [set_far (by omega), set_far (by omega), set_far (by omega)]; exact (ho.out.2 j h).2.2
          · refine ⟨?_, ?_, ?_⟩
            · rw [set_far (by omega), set_far (by omega), set_at (by first | omega | (simp only [List.length_set]; omega))]
            · rw [set_far (by omega), set_at (by first | omega | (simp only [List.length_set]; omega))]
            · rw [set_at (by first | omega | (simp only [List.length_set]; omega))]⟩, (((hnx.trans (OnlyAt.set g (k * 3) _ _)).trans (OnlyAt.set g (k * 3 + 1) _ _)).trans (OnlyAt.set g (k * 3 + 2) _ _))⟩
        case measure => simp [intOf]; omega
      · obtain rfl : k = ts.length := by omega
        have hxs : xs = kOu.flat (markOu k0 ts.length) := by
          refine kOu.flat_of xs _ (by rw [markOu_len]; exact ho.out.1.1) fun j hj i hi => ?_
          rw [markOu_len] at hj
          rw [markOu_at _ _ _ hj]
          have hi' : i < 3 := hi
          rcases (show i = 0 ∨ i = 1 ∨ i = 2 from by omega) with rfl | rfl | rfl
          · exact (ho.out.2 j hj).1
          · exact (ho.out.2 j hj).2.1
          · exact (ho.out.2 j hj).2.2
        subst hxs
        go_wp2
        go_ret
        refine ⟨rfl, .inr ⟨g, rfl, hg, ?_⟩, hnx⟩
        rw [markOu_len]; exact ho.out.1
set_option maxHeartbeats 1000000 in
theorem heldOutS_any (to : Option Addr) (tc : Nat) (n : Nat) (k0 : Int) (w : World) (hl : n ≤ 2097152) (hk0 : 0 ≤ k0) (hk1 : k0 ≤ 16777216) (hF : kOu.In w.heap.size w to (markOu k0 n)) :
    Calls Tryz.prog 51 #[.slice to n tc, .int .i64 k0] w fun e w' => e = .returned (.int .i64 (k0 + 3 * n)) ∧ w' = w := by
  go_enter Tryz.func51, Tryz.ntmps51
  go_wp2
  go_loop [1, 5] (fun v i => ∃ k : Nat, k ≤ n ∧ i = .int .i64 k ∧ v = .int .i64 (k0 + 3 * k)) (fun _ i => n - (intOf i).toNat)
  case atStart => exact ⟨0, Nat.zero_le _, rfl, by simp⟩
  case round =>
    obtain ⟨k, hk, rfl, rfl⟩ := hrel
    by_cases hlt : k < n
    · obtain ⟨b, off, rfl, hb, hc⟩ := kOu_at hF (k := k) (by rw [markOu_len]; exact hlt)
      have hck := hc k (by rw [markOu_len]; exact hlt)
      rw [markOu_at _ _ _ hlt] at hck
      obtain ⟨hck1, hck2, hck3⟩ := hck
      clear hc hF
      have hne0_0 : (k0 + 3 * (k : Int) != k0 + 3 * (k : Int)) = false := by simp <;> omega
      have hne1_0 : (k0 + 3 * (k : Int) + 1 != k0 + 3 * (k : Int) + 1) = false := by simp <;> omega
      have hne2_0 : (k0 + 3 * (k : Int) + 2 != k0 + 3 * (k : Int) + 1 + 1) = false := by simp <;> omega
      have hne2_1 : (k0 + 3 * (k : Int) + 2 != k0 + 3 * (k : Int) + 2) = false := by simp <;> omega
      dsimp only at hck1 hck2 hck3
      go_wp2
      go_round
      case rel => exact ⟨k + 1, by omega, by go_num, by go_num⟩
      case measure => simp [intOf]; omega
    · obtain rfl : k = n := by omega
      go_wp2
      go_ret
      exact ⟨rfl, rfl⟩
/-- The marks of a row of Lost. -/
def markLo (k : Int) (n : Nat) : List (Int × Int × Int × Int) := (List.range n).map (fun i : Nat => (k + 4 * (i : Int), k + 4 * (i : Int) + 1, k + 4 * (i : Int) + 2, k + 4 * (i : Int) + 3))
theorem markLo_len (k : Int) (n : Nat) : (markLo k n).length = n := by simp [markLo]
theorem markLo_at (k : Int) (n j : Nat) (h : j < n) : el (markLo k n) j = (k + 4 * (j : Int), k + 4 * (j : Int) + 1, k + 4 * (j : Int) + 2, k + 4 * (j : Int) + 3) := by simp [markLo, el, h]
set_option maxHeartbeats 2000000 in
theorem markLostS_any (lo hi : Nat) (to : Option Addr) (tc : Nat) (ts : List (Int × Int × Int × Int)) (k0 : Int) (w : World) (hl : ts.length ≤ 2097152) (hk0 : 0 ≤ k0) (hk1 : k0 ≤ 16777216) (hF : kLo.Fresh lo hi w to tc ts) :
    Calls Tryz.prog 49 #[.slice to ts.length tc, .int .i64 k0] w fun e w' => e = .returned (.int .i64 (k0 + 4 * ts.length)) ∧ kLo.Fresh lo hi w' to tc (markLo k0 ts.length) ∧ OnlyAt (eff to ts.length) w w' := by
  rcases Nat.eq_zero_or_pos ts.length with h0 | h0
  · obtain rfl : ts = [] := List.length_eq_zero_iff.1 h0
    go_enter Tryz.func49, Tryz.ntmps49
    go_wp2
    go_loop [1, 5] (fun v i => v = .int .i64 k0 ∧ i = .int .i64 0) (fun _ _ => 0)
    case atStart => exact ⟨rfl, rfl⟩
    case round =>
      obtain ⟨rfl, rfl⟩ := hrel
      go_wp2
      go_ret
      exact ⟨by simp, .inl (by simp [markLo]), OnlyAt.refl _ _⟩
  · rw [eff_pos h0]
    obtain ⟨g, rfl, _, hg, _, ho⟩ := hF.at h0
    have HO : Hid (w.ownsRow lo 107 4 (.slice (some ⟨g, 0, none⟩) ts.length tc) ts.length (kLo.flat ts)) := ho
    clear ho
    go_enter Tryz.func49, Tryz.ntmps49
    go_wp2
    go_loopw [1, 5] (fun v i wr => ∃ (k : Nat) (xs : List Value), k ≤ ts.length ∧ i = .int .i64 k ∧ v = .int .i64 (k0 + 4 * k) ∧ Hid (wr.ownsRow lo 107 4 (.slice (some ⟨g, 0, none⟩) ts.length tc) ts.length xs ∧ ∀ j : Nat, j < k → xs[j * 4]? = some (.int .i64 (k0 + 4 * j)) ∧ xs[j * 4 + 1]? = some (.int .i64 (k0 + 4 * j + 1)) ∧ xs[j * 4 + 2]? = some (.int .i64 (k0 + 4 * j + 2)) ∧ xs[j * 4 + 3]? = some (.int .i64 (k0 + 4 * j + 3))) ∧ OnlyAt (some ⟨g, 0, none⟩) w wr) (fun _ i _ => ts.length - (intOf i).toNat)
    case atStart => exact ⟨0, _, Nat.zero_le _, rfl, by simp, ⟨HO.out, fun j hj => by omega⟩, OnlyAt.refl _ _⟩
    case round =>
      obtain ⟨k, xs, hk, rfl, rfl, ho, hnx⟩ := hrel
      by_cases hlt : k < ts.length
      · have hxl : k * 4 + 3 < xs.length := by rw [ho.out.1.1]; omega
        have hst1 : wr.cell? ⟨g, k * 4, none⟩ = some xs[k * 4] := (ho.out.1.cellAt (k * 4) (by omega)).trans (by simp)
        have hfr1 : wr.frozen? ⟨g, k * 4, none⟩ = false := ho.out.1.frozenAt (k * 4)
        have hst2 : wr.cell? ⟨g, k * 4 + 1, none⟩ = some xs[k * 4 + 1] := (ho.out.1.cellAt (k * 4 + 1) (by omega)).trans (by simp)
        have hfr2 : wr.frozen? ⟨g, k * 4 + 1, none⟩ = false := ho.out.1.frozenAt (k * 4 + 1)
        have hst3 : wr.cell? ⟨g, k * 4 + 2, none⟩ = some xs[k * 4 + 2] := (ho.out.1.cellAt (k * 4 + 2) (by omega)).trans (by simp)
        have hfr3 : wr.frozen? ⟨g, k * 4 + 2, none⟩ = false := ho.out.1.frozenAt (k * 4 + 2)
        have hst4 : wr.cell? ⟨g, k * 4 + 3, none⟩ = some xs[k * 4 + 3] := (ho.out.1.cellAt (k * 4 + 3) (by omega)).trans (by simp)
        have hfr4 : wr.frozen? ⟨g, k * 4 + 3, none⟩ = false := ho.out.1.frozenAt (k * 4 + 3)
        go_wp2
        go_roundw
        case rel => exact ⟨k + 1, ((((xs.set (k * 4) (.int .i64 (k0 + 4 * k))).set (k * 4 + 1) (.int .i64 (k0 + 4 * k + 1))).set (k * 4 + 2) (.int .i64 (k0 + 4 * k + 2))).set (k * 4 + 3) (.int .i64 (k0 + 4 * k + 3))), by omega, by go_num, by go_num, ⟨by
            have h := ((((World.ownsRow.stored ho.out.1 (k * 4) (.int .i64 (k0 + 4 * k))).1.stored (k * 4 + 1) (.int .i64 (k0 + 4 * k + 1))).1.stored (k * 4 + 2) (.int .i64 (k0 + 4 * k + 2))).1.stored (k * 4 + 3) (.int .i64 (k0 + 4 * k + 3))).1
            simpa [Int.add_assoc] using h, fun j hj => by
          rcases Nat.lt_succ_iff_lt_or_eq.1 hj with h | rfl
          · refine ⟨?_, ?_, ?_, ?_⟩
            · rw [set_far (by omega), set_far (by omega), set_far (by omega), set_far (by omega)]; exact (ho.out.2 j h).1
            · rw [set_far (by omega), set_far (by omega), set_far (by omega), set_far (by omega)]; exact (ho.out.2 j h).2.1
            · rw [set_far (by omega), set_far (by omega), set_far (by omega), set_far (by omega)]; exact (ho.out.2 j h).2.2.1
            · rw [set_far (by omega), set_far (by omega), set_far (by omega), set_far (by omega)]; exact (ho.out.2 j h).2.2.2
          · refine ⟨?_, ?_, ?_, ?_⟩
            · rw [set_far (by omega), set_far (by omega), set_far (by omega), set_at (by first | omega | (simp only [List.length_set]; omega))]
            · rw [set_far (by omega), set_far (by omega), set_at (by first | omega | (simp only [List.length_set]; omega))]
            · rw [set_far (by omega), set_at (by first | omega | (simp only [List.length_set]; omega))]
            · rw [set_at (by first | omega | (simp only [List.length_set]; omega))]⟩, ((((hnx.trans (OnlyAt.set g (k * 4) _ _)).trans (OnlyAt.set g (k * 4 + 1) _ _)).trans (OnlyAt.set g (k * 4 + 2) _ _)).trans (OnlyAt.set g (k * 4 + 3) _ _))⟩
        case measure => simp [intOf]; omega
      · obtain rfl : k = ts.length := by omega
        have hxs : xs = kLo.flat (markLo k0 ts.length) := by
          refine kLo.flat_of xs _ (by rw [markLo_len]; exact ho.out.1.1) fun j hj i hi => ?_
          rw [markLo_len] at hj
          rw [markLo_at _ _ _ hj]
          have hi' : i < 4 := hi
          rcases (show i = 0 ∨ i = 1 ∨ i = 2 ∨ i = 3 from by omega) with rfl | rfl | rfl | rfl
          · exact (ho.out.2 j hj).1
          · exact (ho.out.2 j hj).2.1
          · exact (ho.out.2 j hj).2.2.1
          · exact (ho.out.2 j hj).2.2.2
        subst hxs
        go_wp2
        go_ret
        refine ⟨rfl, .inr ⟨g, rfl, hg, ?_⟩, hnx⟩
        rw [markLo_len]; exact ho.out.1
set_option maxHeartbeats 1000000 in
theorem heldLostS_any (to : Option Addr) (tc : Nat) (n : Nat) (k0 : Int) (w : World) (hl : n ≤ 2097152) (hk0 : 0 ≤ k0) (hk1 : k0 ≤ 16777216) (hF : kLo.In w.heap.size w to (markLo k0 n)) :
    Calls Tryz.prog 52 #[.slice to n tc, .int .i64 k0] w fun e w' => e = .returned (.int .i64 (k0 + 4 * n)) ∧ w' = w := by
  go_enter Tryz.func52, Tryz.ntmps52
  go_wp2
  go_loop [1, 5] (fun v i => ∃ k : Nat, k ≤ n ∧ i = .int .i64 k ∧ v = .int .i64 (k0 + 4 * k)) (fun _ i => n - (intOf i).toNat)
  case atStart => exact ⟨0, Nat.zero_le _, rfl, by simp⟩
  case round =>
    obtain ⟨k, hk, rfl, rfl⟩ := hrel
    by_cases hlt : k < n
    · obtain ⟨b, off, rfl, hb, hc⟩ := kLo_at hF (k := k) (by rw [markLo_len]; exact hlt)
      have hck := hc k (by rw [markLo_len]; exact hlt)
      rw [markLo_at _ _ _ hlt] at hck
      obtain ⟨hck1, hck2, hck3, hck4⟩ := hck
      clear hc hF
      have hne0_0 : (k0 + 4 * (k : Int) != k0 + 4 * (k : Int)) = false := by simp <;> omega
      have hne1_0 : (k0 + 4 * (k : Int) + 1 != k0 + 4 * (k : Int) + 1) = false := by simp <;> omega
      have hne2_0 : (k0 + 4 * (k : Int) + 2 != k0 + 4 * (k : Int) + 1 + 1) = false := by simp <;> omega
      have hne2_1 : (k0 + 4 * (k : Int) + 2 != k0 + 4 * (k : Int) + 2) = false := by simp <;> omega
      have hne3_0 : (k0 + 4 * (k : Int) + 3 != k0 + 4 * (k : Int) + 1 + 1 + 1) = false := by simp <;> omega
      have hne3_1 : (k0 + 4 * (k : Int) + 3 != k0 + 4 * (k : Int) + 3) = false := by simp <;> omega
      dsimp only at hck1 hck2 hck3 hck4
      go_wp2
      go_round
      case rel => exact ⟨k + 1, by omega, by go_num, by go_num⟩
      case measure => simp [intOf]; omega
    · obtain rfl : k = n := by omega
      go_wp2
      go_ret
      exact ⟨rfl, rfl⟩
/-- The marks of rows of rows. -/
def markRT (k : Int) (ls : List (List (Int × Int × Int))) : List (List (Int × Int × Int)) := (List.range ls.length).map fun j : Nat => markTk (k + 3 * (totT (ls.take j) : Int)) (el ls j).length
theorem markRT_len (k : Int) (ls : List (List (Int × Int × Int))) : (markRT k ls).length = ls.length := by simp [markRT]
theorem markRT_at (k : Int) {ls : List (List (Int × Int × Int))} {j : Nat} (h : j < ls.length) : el (markRT k ls) j = markTk (k + 3 * (totT (ls.take j) : Int)) (el ls j).length := by simp [markRT, el, h]
/-- The first m are marked, the others stand. -/
def partRT (k : Int) (ls : List (List (Int × Int × Int))) (m : Nat) : List (List (Int × Int × Int)) := (markRT k ls).take m ++ ls.drop m
theorem partRT_len (k : Int) (ls : List (List (Int × Int × Int))) {m : Nat} (h : m ≤ ls.length) : (partRT k ls m).length = ls.length := by simp [partRT, markRT_len]; omega
theorem partRT_zero (k : Int) (ls : List (List (Int × Int × Int))) : partRT k ls 0 = ls := by simp [partRT]
theorem partRT_all (k : Int) (ls : List (List (Int × Int × Int))) : partRT k ls ls.length = markRT k ls := by
  simp only [partRT, List.drop_length, List.append_nil]
  rw [← markRT_len k ls, List.take_length]
theorem partRT_at (k : Int) {ls : List (List (Int × Int × Int))} {m : Nat} (h : m < ls.length) : el (partRT k ls m) m = el ls m := by
  have : (List.take m (markRT k ls)).length = m := by simp [markRT_len]; omega
  simp only [el, partRT]
  rw [List.getElem?_append_right (by omega), this]
  simp
theorem partRT_set (k : Int) {ls : List (List (Int × Int × Int))} {m : Nat} (h : m < ls.length) : (partRT k ls m).set m (markTk (k + 3 * (totT (ls.take m) : Int)) (el ls m).length) = partRT k ls (m + 1) := by
  have hl : (List.take m (markRT k ls)).length = m := by simp [markRT_len]; omega
  simp only [partRT]
  rw [List.set_append_right _ _ (by omega), hl, Nat.sub_self]
  have hd : ls.drop m = el ls m :: ls.drop (m + 1) := by rw [el_at h]; exact List.drop_eq_getElem_cons h
  rw [hd, List.set_cons_zero, take_succ_el (by rw [markRT_len]; exact h), markRT_at k h]
  simp
theorem partRT_elen (k : Int) {ls : List (List (Int × Int × Int))} {m j : Nat} (_h : m ≤ ls.length) (hj : j < ls.length) : (el (partRT k ls m) j).length = (el ls j).length := by
  have hl : (List.take m (markRT k ls)).length = m := by simp [markRT_len]; omega
  simp only [partRT]
  rcases Nat.lt_or_ge j m with hjm | hjm
  · rw [el_app_left (by omega), el_take hjm, markRT_at k hj, markTk_len]
  · have e : j = (List.take m (markRT k ls)).length + (j - m) := by omega
    rw [e, el_app_right, el_drop]
    congr 2
    omega
set_option maxHeartbeats 2000000 in
theorem markTokenSS_any (lo hi : Nat) (ao : Option Addr) (cap : Nat) (hs : List (Option Addr × Nat × Nat)) (ls : List (List (Int × Int × Int))) (k0 : Int) (w : World) (hl : ls.length ≤ 1048576) (hle : totT ls ≤ 1048576) (hk0 : 0 ≤ k0) (hk1 : k0 ≤ 8388608) (hF : FrRT lo hi w ao cap hs ls) :
    Calls Tryz.prog 47 #[.slice ao ls.length cap, .int .i64 k0] w fun e w' => e = .returned (.int .i64 (k0 + 3 * (totT ls : Int))) ∧ FrRT lo hi w' ao cap hs (markRT k0 ls) ∧ Between lo hi w w' ∧ KeptBut kTk.ty w w' := by
  have HF := hid hF
  clear hF
  go_enter Tryz.func47, Tryz.ntmps47
  go_wp2
  go_loopw [1, 5] (fun v i wr => ∃ (k : Nat), k ≤ ls.length ∧ i = .int .i64 k ∧ v = .int .i64 (k0 + 3 * (totT (ls.take k) : Int)) ∧ Hid (FrRT lo hi wr ao cap hs (partRT k0 ls k)) ∧ Hid (Between lo hi w wr ∧ KeptBut kTk.ty w wr)) (fun _ i _ => ls.length - (intOf i).toNat)
  case atStart => exact ⟨0, Nat.zero_le _, rfl, by simp [totT], by rw [partRT_zero]; exact HF, Between.refl _ _ _, KeptBut.refl _ _⟩
  case round =>
    obtain ⟨k, hk, rfl, rfl, hR, hB⟩ := hrel
    by_cases hlt : k < ls.length
    · obtain ⟨b, off, o, c, rfl, hb, hc, hek, _⟩ := hR.out.in.at (k := k) (by rw [partRT_len k0 ls hk]; exact hlt)
      have hfk := (hR.out.2.2.1 k (by rw [partRT_len k0 ls hk]; exact hlt)).2
      rw [partRT_at k0 hlt] at hc hek hfk
      rw [hek] at hfk
      dsimp only at hfk
      have ht := totT_take hlt
      have htl := totT_el hlt
      have HS := hid (partRT_set k0 hlt)
      have HE := hid hek
      have HP := hid (partRT_at k0 hlt)
      generalize hx : el ls k = x at hc hfk ht htl HS HE HP
      have HK := hid hfk
      clear hx hek hfk
      go_wp2_with fail
      refine (markTokenS_any lo hi o c x (k0 + 3 * (totT (ls.take k) : Int)) wr (by omega) (by omega) (by omega) HK.out).mono ?_
      rintro e w1 ⟨rfl, hF1, hO1⟩
      have hB1 := hid (And.intro (hB.out.1.trans (HK.out.between hO1)) (hB.out.2.trans (HK.out.keptBut hO1)))
      have hR1 : Hid (FrRT lo hi w1 (some ⟨b, off, none⟩) cap hs (partRT k0 ls (k + 1))) := by
        rw [Hid, ← HS.out]
        refine hR.out.set (by rw [partRT_len k0 ls hk]; exact hlt) (by rw [markTk_len, HP.out]) ?_ ?_
        · rw [HE.out]; exact hF1
        · rw [HE.out, HP.out]; exact hO1
      clear hF1 hO1 hR hB HK HS HE HP
      go_wp2
      go_roundw
      case rel => exact ⟨k + 1, by omega, by go_num, by rw [ht]; push_cast; congr 1; omega, hR1, hB1⟩
      case measure => simp [intOf]; omega
    · obtain rfl : k = ls.length := by omega
      rw [partRT_all] at hR
      rw [List.take_length]
      go_wp2
      go_ret
      exact ⟨rfl, hR.out, hB.out.1, hB.out.2⟩
set_option maxHeartbeats 1000000 in
theorem heldTokenSS_any (ao : Option Addr) (cap : Nat) (hs : List (Option Addr × Nat × Nat)) (ls : List (List (Int × Int × Int))) (k0 : Int) (w : World) (hl : ls.length ≤ 1048576) (hle : totT ls ≤ 1048576) (hk0 : 0 ≤ k0) (hk1 : k0 ≤ 8388608) (hF : InRT w.heap.size w ao hs (markRT k0 ls)) :
    Calls Tryz.prog 50 #[.slice ao ls.length cap, .int .i64 k0] w fun e w' => e = .returned (.int .i64 (k0 + 3 * (totT ls : Int))) ∧ w' = w := by
  go_enter Tryz.func50, Tryz.ntmps50
  go_wp2
  go_loop [1, 5] (fun v i => ∃ k : Nat, k ≤ ls.length ∧ i = .int .i64 k ∧ v = .int .i64 (k0 + 3 * (totT (ls.take k) : Int))) (fun _ i => ls.length - (intOf i).toNat)
  case atStart => exact ⟨0, Nat.zero_le _, rfl, by simp [totT]⟩
  case round =>
    obtain ⟨k, hk, rfl, rfl⟩ := hrel
    by_cases hlt : k < ls.length
    · obtain ⟨b, off, o, c, rfl, hb, hc, _, hI⟩ := hF.at (k := k) (by rw [markRT_len]; exact hlt)
      rw [markRT_at k0 hlt] at hc hI
      rw [markTk_len] at hc
      have ht := totT_take hlt
      have htl := totT_el hlt
      generalize hx : (el ls k).length = x at hc hI ht htl
      have HI := hid hI
      clear hx hI
      have hn0 : decide (k0 + 3 * (totT (ls.take k) : Int) + 3 * (x : Int) < 0) = false := by simp; omega
      go_wp2_with fail
      refine (heldTokenS_any o c x (k0 + 3 * (totT (ls.take k) : Int)) w (by omega) (by omega) (by omega) HI.out).mono ?_
      rintro e w1 ⟨rfl, hw1⟩
      rw [hw1]; clear hw1 w1
      go_wp2
      go_round
      case rel => exact ⟨k + 1, by omega, by go_num, by rw [ht]; push_cast; congr 1; omega⟩
      case measure => simp [intOf]; omega
    · obtain rfl : k = ls.length := by omega
      rw [List.take_length]
      go_wp2
      go_ret
      exact ⟨rfl, rfl⟩
/-- The marks of a pipe from k on. -/
def mkEm (k : Int) (bx : List (List (Int × Int × Int))) : Int := k + 3 * (totT bx : Int)
def mkFa (k : Int) (bx : List (List (Int × Int × Int))) (em : List (Int × Int × Int)) : Int := mkEm k bx + 3 * (em.length : Int)
def mkFu (k : Int) (bx : List (List (Int × Int × Int))) (em : List (Int × Int × Int)) (fa : List (Int × Int × Int × Int)) : Int := mkFa k bx em + 4 * (fa.length : Int)
def mkEnd (k : Int) (bx : List (List (Int × Int × Int))) (em : List (Int × Int × Int)) (fa : List (Int × Int × Int × Int)) (fu : List Int) : Int := mkFu k bx em fa + (fu.length : Int)
set_option maxHeartbeats 4000000 in
theorem markPipe_any (lo hi : Nat) (ti it : Int) (cl : Bool) (bo : Option Addr) (bc : Nat) (bx : List (List (Int × Int × Int))) (eo : Option Addr) (ec : Nat) (em : List (Int × Int × Int)) (fo : Option Addr) (fc : Nat) (fa : List (Int × Int × Int × Int)) (uo : Option Addr) (uc : Nat) (fu : List Int) (co : Option Addr) (cc : Nat) (cs : List Int) (k : Int) (w : World) (hb : bx.length ≤ 1048576 ∧ totT bx ≤ 1048576) (he : em.length ≤ 1048576) (hf : fa.length ≤ 1048576) (hu : fu.length ≤ 1048576) (hk0 : 0 ≤ k) (hk1 : k ≤ 1000) (hhi : hi ≤ w.heap.size) (hF : FrPipe lo hi w bo bc bx eo ec em fo fc fa uo uc fu) (hC : kI.Fresh lo hi w co cc cs) (hOff : Off uo fu.length co cs.length) :
    Calls Tryz.prog 20 #[.agg #[.int .i64 ti, .int .i64 it, .bool cl, .slice bo bx.length bc, .slice eo em.length ec, .slice fo fa.length fc, .slice uo fu.length uc], .int .i64 k] w fun e w' => e = .returned (.int .i64 (mkEnd k bx em fa fu)) ∧ FrPipe lo hi w' bo bc (markRT k bx) eo ec (markOu (mkEm k bx) em.length) fo fc (markLo (mkFa k bx em) fa.length) uo uc (markI (mkFu k bx em fa) fu.length) ∧ kI.Fresh lo hi w' co cc cs ∧ (∃ w0, Below w.heap.size w w0 ∧ Between lo hi w0 w') := by
  have b1 := hb.1
  have b2 := hb.2
  obtain ⟨⟨hs, hB⟩, hE, hL, hU⟩ := hF
  have hb0 := below1 w (.cells #[.int .i64 ti, .int .i64 it, .bool cl, .slice bo bx.length bc, .slice eo em.length ec, .slice fo fa.length fc, .slice uo fu.length uc] 31)
  obtain ⟨W0, hW0⟩ : ∃ W0, W0 = w.alloc (.cells #[.int .i64 ti, .int .i64 it, .bool cl, .slice bo bx.length bc, .slice eo em.length ec, .slice fo fa.length fc, .slice uo fu.length uc] 31) := ⟨_, rfl⟩
  have HW0 := hid hW0
  have X0 : Bx W0 w.heap.size [.int .i64 ti, .int .i64 it, .bool cl, .slice bo bx.length bc, .slice eo em.length ec, .slice fo fa.length fc, .slice uo fu.length uc] := by rw [hW0]; exact Bx.new (w := w) [.int .i64 ti, .int .i64 it, .bool cl, .slice bo bx.length bc, .slice eo em.length ec, .slice fo fa.length fc, .slice uo fu.length uc] 31 rfl
  have hq : w.heap.size < lo ∨ hi ≤ w.heap.size := .inr hhi
  rw [← hW0] at hb0
  have HB := hid (hB.later hb0)
  have HE := hid (hE.later hb0)
  have HL := hid (hL.later hb0)
  have HU := hid (hU.later hb0)
  have HC := hid (hC.later hb0)
  have Hb0 := hid hb0
  have x3 := X0.c 3 rfl
  have x4 := X0.c 4 rfl
  have x5 := X0.c 5 rfl
  have x6 := X0.c 6 rfl
  have hx := X0.size
  have E1 : mkEm k bx = k + 3 * (totT bx : Int) := rfl
  have E2 : mkFa k bx em = mkEm k bx + 3 * (em.length : Int) := rfl
  have E3 : mkFu k bx em fa = mkFa k bx em + 4 * (fa.length : Int) := rfl
  have E4 : mkEnd k bx em fa fu = mkFu k bx em fa + (fu.length : Int) := rfl
  generalize mkEm k bx = k1 at E1 E2 ⊢
  generalize mkFa k bx em = k2 at E2 E3 ⊢
  generalize mkFu k bx em fa = k3 at E3 E4 ⊢
  generalize mkEnd k bx em fa fu = k4 at E4 ⊢
  have q1 : 0 ≤ k1 ∧ k1 ≤ 3200000 := by omega
  have q2 : 0 ≤ k2 ∧ k2 ≤ 6400000 := by omega
  have q3 : 0 ≤ k3 ∧ k3 ≤ 12000000 := by omega
  have G1 := hid E1
  have G2 := hid E2
  have G3 := hid E3
  have G4 := hid E4
  clear hW0 hb0 hB hE hL hU hC X0 E1 E2 E3 E4
  go_enter Tryz.func20, Tryz.ntmps20
  go_wp2_with fail
  rw [← HW0.out]
  refine (markTokenSS_any lo hi bo bc hs bx k W0 b1 b2 hk0 (by omega) HB.out).mono ?_
  rintro e w1 ⟨rfl, hB1, hT1, hK1⟩
  rw [← G1.out]
  have y4 := (World.cell?_of_block (a := ⟨w.heap.size, 4, none⟩) (hT1.block w.heap.size hx (by omega))).trans x4
  have y5 := (World.cell?_of_block (a := ⟨w.heap.size, 5, none⟩) (hT1.block w.heap.size hx (by omega))).trans x5
  have y6 := (World.cell?_of_block (a := ⟨w.heap.size, 6, none⟩) (hT1.block w.heap.size hx (by omega))).trans x6
  have hx1 := Nat.lt_of_lt_of_le hx hT1.size
  have HB1 := hid hB1
  have HE1 := hid (HE.out.keepT hK1 (by decide))
  have HL1 := hid (HL.out.keepT hK1 (by decide))
  have HU1 := hid (HU.out.keepT hK1 (by decide))
  have HC1 := hid (HC.out.keepT hK1 (by decide))
  have HT1 := hid hT1
  clear hB1 hT1 hK1 x3 x4 x5 x6 HB HE HL HU HC
  go_wp2_with fail
  refine (markOutS_any lo hi eo ec em k1 w1 (by omega) q1.1 (by omega) HE1.out).mono ?_
  rintro e w2 ⟨rfl, hE2, hO2⟩
  rw [← G2.out]
  have hK2 := HE1.out.keptBut hO2
  have hT2 := HE1.out.between hO2
  have z5 := (World.cell?_of_block (a := ⟨w.heap.size, 5, none⟩) (hT2.block w.heap.size hx1 (by omega))).trans y5
  have z6 := (World.cell?_of_block (a := ⟨w.heap.size, 6, none⟩) (hT2.block w.heap.size hx1 (by omega))).trans y6
  have hx2 := Nat.lt_of_lt_of_le hx1 hT2.size
  have HB2 := hid (HB1.out.keepT hK2 (by decide) (by decide))
  have HE2 := hid hE2
  have HL2 := hid (HL1.out.keepT hK2 (by decide))
  have HU2 := hid (HU1.out.keepT hK2 (by decide))
  have HC2 := hid (HC1.out.keepT hK2 (by decide))
  have HT2 := hid (HT1.out.trans hT2)
  clear hE2 hO2 hK2 hT2 y4 y5 y6 HB1 HE1 HL1 HU1 HC1 HT1
  go_wp2_with fail
  refine (markLostS_any lo hi fo fc fa k2 w2 (by omega) q2.1 (by omega) HL2.out).mono ?_
  rintro e w3 ⟨rfl, hL3, hO3⟩
  rw [← G3.out]
  have hK3 := HL2.out.keptBut hO3
  have hT3 := HL2.out.between hO3
  have v6 := (World.cell?_of_block (a := ⟨w.heap.size, 6, none⟩) (hT3.block w.heap.size hx2 (by omega))).trans z6
  have HB3 := hid (HB2.out.keepT hK3 (by decide) (by decide))
  have HE3 := hid (HE2.out.keepT hK3 (by decide))
  have HL3 := hid hL3
  have HU3 := hid (HU2.out.keepT hK3 (by decide))
  have HC3 := hid (HC2.out.keepT hK3 (by decide))
  have HT3 := hid (HT2.out.trans hT3)
  clear hL3 hO3 hK3 hT3 z5 z6 HB2 HE2 HL2 HU2 HC2 HT2
  go_wp2_with fail
  refine (markIntS_any lo hi uo uc fu k3 w3 (by omega) q3.1 (by omega) HU3.out).mono ?_
  rintro e w4 ⟨rfl, hU4, hO4⟩
  rw [← G4.out]
  have hK4 := HU3.out.keptBut hO4
  have hT4 := HU3.out.between hO4
  have HB4 := hid (HB3.out.keepT hK4 (by decide) (by decide))
  have HE4 := hid (HE3.out.keepT hK4 (by decide))
  have HL4 := hid (HL3.out.keepT hK4 (by decide))
  have HU4 := hid hU4
  have HC4 := hid (HC3.out.off hOff.symm hO4)
  have HT4 := hid (HT3.out.trans hT4)
  clear hU4 hO4 hK4 hT4 v6 HB3 HE3 HL3 HU3 HC3 HT3
  go_wp2
  go_ret
  exact ⟨rfl, ⟨⟨_, HB4.out⟩, HE4.out, HL4.out, HU4.out⟩, HC4.out, _, Hb0.out, HT4.out⟩
set_option maxHeartbeats 4000000 in
theorem heldPipe_any (ti it : Int) (cl : Bool) (bo : Option Addr) (bc : Nat) (bx : List (List (Int × Int × Int))) (eo : Option Addr) (ec : Nat) (em : List (Int × Int × Int)) (fo : Option Addr) (fc : Nat) (fa : List (Int × Int × Int × Int)) (uo : Option Addr) (uc : Nat) (fu : List Int) (k : Int) (w : World) (hb : bx.length ≤ 1048576 ∧ totT bx ≤ 1048576) (he : em.length ≤ 1048576) (hf : fa.length ≤ 1048576) (hu : fu.length ≤ 1048576) (hk0 : 0 ≤ k) (hk1 : k ≤ 1000) (hI : InPipe w.heap.size w bo (markRT k bx) eo (markOu (mkEm k bx) em.length) fo (markLo (mkFa k bx em) fa.length) uo (markI (mkFu k bx em fa) fu.length)) :
    Calls Tryz.prog 22 #[.agg #[.int .i64 ti, .int .i64 it, .bool cl, .slice bo bx.length bc, .slice eo em.length ec, .slice fo fa.length fc, .slice uo fu.length uc], .int .i64 k] w fun e w' => e = .returned (.int .i64 (mkEnd k bx em fa fu)) ∧ Below w.heap.size w w' := by
  have b1 := hb.1
  have b2 := hb.2
  have hb0 := below1 w (.cells #[.int .i64 ti, .int .i64 it, .bool cl, .slice bo bx.length bc, .slice eo em.length ec, .slice fo fa.length fc, .slice uo fu.length uc] 31)
  obtain ⟨W0, hW0⟩ : ∃ W0, W0 = w.alloc (.cells #[.int .i64 ti, .int .i64 it, .bool cl, .slice bo bx.length bc, .slice eo em.length ec, .slice fo fa.length fc, .slice uo fu.length uc] 31) := ⟨_, rfl⟩
  have HW0 := hid hW0
  have X0 : Bx W0 w.heap.size [.int .i64 ti, .int .i64 it, .bool cl, .slice bo bx.length bc, .slice eo em.length ec, .slice fo fa.length fc, .slice uo fu.length uc] := by rw [hW0]; exact Bx.new (w := w) [.int .i64 ti, .int .i64 it, .bool cl, .slice bo bx.length bc, .slice eo em.length ec, .slice fo fa.length fc, .slice uo fu.length uc] 31 rfl
  rw [← hW0] at hb0
  obtain ⟨⟨hs, hB⟩, hE, hL, hU⟩ := hI.later hb0
  have HB := hid hB
  have HE := hid hE
  have HL := hid hL
  have HU := hid hU
  have Hb0 := hid hb0
  have x3 := X0.c 3 rfl
  have x4 := X0.c 4 rfl
  have x5 := X0.c 5 rfl
  have x6 := X0.c 6 rfl
  have E1 : mkEm k bx = k + 3 * (totT bx : Int) := rfl
  have E2 : mkFa k bx em = mkEm k bx + 3 * (em.length : Int) := rfl
  have E3 : mkFu k bx em fa = mkFa k bx em + 4 * (fa.length : Int) := rfl
  have E4 : mkEnd k bx em fa fu = mkFu k bx em fa + (fu.length : Int) := rfl
  generalize mkEm k bx = k1 at E1 E2 HE ⊢
  generalize mkFa k bx em = k2 at E2 E3 HL ⊢
  generalize mkFu k bx em fa = k3 at E3 E4 HU ⊢
  generalize mkEnd k bx em fa fu = k4 at E4 ⊢
  have q1 : 0 ≤ k1 ∧ k1 ≤ 3200000 := by omega
  have q2 : 0 ≤ k2 ∧ k2 ≤ 6400000 := by omega
  have q3 : 0 ≤ k3 ∧ k3 ≤ 12000000 := by omega
  have d1 : decide (k1 < 0) = false := by simp; omega
  have d2 : decide (k2 < 0) = false := by simp; omega
  have d3 : decide (k3 < 0) = false := by simp; omega
  have d4 : decide (k4 < 0) = false := by simp; omega
  have G1 := hid E1
  have G2 := hid E2
  have G3 := hid E3
  have G4 := hid E4
  clear hW0 hb0 hB hE hL hU hI X0 E1 E2 E3 E4
  go_enter Tryz.func22, Tryz.ntmps22
  go_wp2_with fail
  rw [← HW0.out]
  refine (heldTokenSS_any bo bc hs bx k W0 b1 b2 hk0 (by omega) HB.out).mono ?_
  rintro e w1 ⟨rfl, hw1⟩
  rw [← G1.out, hw1]
  clear hw1 w1
  go_wp2_with fail
  refine (heldOutS_any eo ec em.length k1 W0 (by omega) q1.1 (by omega) HE.out).mono ?_
  rintro e w1 ⟨rfl, hw1⟩
  rw [← G2.out, hw1]
  clear hw1 w1
  go_wp2_with fail
  refine (heldLostS_any fo fc fa.length k2 W0 (by omega) q2.1 (by omega) HL.out).mono ?_
  rintro e w1 ⟨rfl, hw1⟩
  rw [← G3.out, hw1]
  clear hw1 w1
  go_wp2_with fail
  refine (heldIntS_any uo uc fu.length k3 W0 (by omega) q3.1 (by omega) HU.out).mono ?_
  rintro e w1 ⟨rfl, hw1⟩
  rw [← G4.out, hw1]
  clear hw1 w1
  go_wp2
  go_ret
  exact ⟨rfl, Hb0.out⟩
end
section
open Go.RowKit

/-- What a pipe answers behind moves. -/
def ppR (gs : List PNode) (ms : List (Int × Int × Int)) : PP × List Int × Bool := if pipeB gs = true ∧ ms.length ≤ 300 then ((playP gs (srcP gs gs.length) ms (pp0 gs.length)).2, (playP gs (srcP gs gs.length) ms (pp0 gs.length)).1, true) else ({ ti := 0, it := 0, cl := false, bx := [], em := [], fa := [], fu := [] }, [], false)
/-- A pipe in memory of its own. -/
def PipeV (w w' : World) (s : PP) (v : Value) : Prop := ∃ bo bc eo ec fo fc uo uc, v = .agg #[.int .i64 s.ti, .int .i64 s.it, .bool s.cl, .slice bo s.bx.length bc, .slice eo s.em.length ec, .slice fo s.fa.length fc, .slice uo s.fu.length uc] ∧ FrPipe w.heap.size w'.heap.size w' bo bc s.bx eo ec s.em fo fc s.fa uo uc s.fu
def AnsPi (w : World) (r : PP × List Int × Bool) (e : Ending) (w' : World) : Prop :=
  (∃ bo bc eo ec fo fc uo uc co cc, e = .returned (.tuple #[.agg #[.int .i64 r.1.ti, .int .i64 r.1.it, .bool r.1.cl, .slice bo r.1.bx.length bc, .slice eo r.1.em.length ec, .slice fo r.1.fa.length fc, .slice uo r.1.fu.length uc], .slice co r.2.1.length cc, .bool r.2.2]) ∧
    FrPipe w.heap.size w'.heap.size w' bo bc r.1.bx eo ec r.1.em fo fc r.1.fa uo uc r.1.fu ∧ kI.Fresh w.heap.size w'.heap.size w' co cc r.2.1 ∧ Off uo r.1.fu.length co r.2.1.length) ∧ Below w.heap.size w w'
theorem off_of {uo co : Option Addr} {n m uc cc : Nat} {O : Nat → Prop} (hu : ∀ b, (Value.slice uo n uc).ownBlock = some b → O b) (hc : ∀ b, (Value.slice co m cc).ownBlock = some b → ¬ O b) {lo hi lo2 hi2 : Nat} {W : World} {xs ys : List Int} (h1 : kI.Fresh lo hi W uo uc xs) (h2 : kI.Fresh lo2 hi2 W co cc ys) (hx : xs.length = n) (hy : ys.length = m) : Off uo n co m := by
  rcases h1 with rfl | ⟨g, rfl, _, _⟩
  · exact .inl (by simpa using hx.symm)
  · rcases h2 with rfl | ⟨g2, rfl, _, _⟩
    · exact .inr (.inl (by simpa using hy.symm))
    · refine .inr (.inr fun e => ?_)
      simp at e
      subst e
      exact hc g rfl (hu g rfl)
theorem set7_far {W : World} {q b : Nat} (hb : b ≠ q) (u0 u1 u2 u3 u4 u5 u6 : Value) : (((((((W.setCell ⟨q, 0, none⟩ u0).setCell ⟨q, 1, none⟩ u1).setCell ⟨q, 2, none⟩ u2).setCell ⟨q, 3, none⟩ u3).setCell ⟨q, 4, none⟩ u4).setCell ⟨q, 5, none⟩ u5).setCell ⟨q, 6, none⟩ u6).heap[b]? = W.heap[b]? := by
  rw [Below.heap_setCell _ _ _ _ hb, Below.heap_setCell _ _ _ _ hb, Below.heap_setCell _ _ _ _ hb, Below.heap_setCell _ _ _ _ hb, Below.heap_setCell _ _ _ _ hb, Below.heap_setCell _ _ _ _ hb, Below.heap_setCell _ _ _ _ hb]
set_option maxRecDepth 100000 in
set_option maxHeartbeats 4000000 in
theorem implPipe_any (ao : Option Addr) (cap : Nat) (ts : List LNode) (ea : Nat → Addr) (mo : Option Addr) (mc : Nat) (ms : List (Int × Int × Int)) (w : World) (hC : Roomy ts cap) (hE : Errs w ea) (hz : DIn dNode w.heap.size w ao ts) (hM : kMv.In w.heap.size w mo ms) (h64 : ∀ k, k < ms.length → (el ms k).1 ≤ 9223372036854775807) :
    Calls Tryz.prog 13 #[.slice ao ts.length cap, .slice mo ms.length mc] w (AnsPi w (ppR (ts.map valNode) ms)) := by
  have hb0 := below1 w (.cells #[.int .i64 0, .int .i64 0, .bool false, .slice none 0 0, .slice none 0 0, .slice none 0 0, .slice none 0 0] 31)
  obtain ⟨W0, hW0⟩ : ∃ W0, W0 = w.alloc (.cells #[.int .i64 0, .int .i64 0, .bool false, .slice none 0 0, .slice none 0 0, .slice none 0 0, .slice none 0 0] 31) := ⟨_, rfl⟩
  have HW0 := hid hW0
  have X0 : Bx W0 w.heap.size [.int .i64 0, .int .i64 0, .bool false, .slice none 0 0, .slice none 0 0, .slice none 0 0, .slice none 0 0] := by rw [hW0]; exact Bx.new (w := w) [.int .i64 0, .int .i64 0, .bool false, .slice none 0 0, .slice none 0 0, .slice none 0 0, .slice none 0 0] 31 rfl
  rw [← hW0] at hb0
  have HX0 := hid X0
  have HP := hid (played_any ao cap ts ea mo mc ms W0 hC (hE.later hb0) (hz.later dNode_ok hb0) (hM.later hb0) h64)
  have Hb0 := hid hb0
  have hwz := X0.size
  clear hC hE hz hM h64 hW0 hb0 X0
  by_cases hok : pipeB (ts.map valNode) = true ∧ ms.length ≤ 300
  · have HR : Hid (ppR (ts.map valNode) ms = ((playP (ts.map valNode) (srcP (ts.map valNode) ts.length) ms (pp0 ts.length)).2, (playP (ts.map valNode) (srcP (ts.map valNode) ts.length) ms (pp0 ts.length)).1, true)) := by rw [Hid, ppR, if_pos hok, val_len]
    obtain ⟨s, hs⟩ : ∃ s, s = (playP (ts.map valNode) (srcP (ts.map valNode) ts.length) ms (pp0 ts.length)).2 := ⟨_, rfl⟩
    obtain ⟨cs, hcs⟩ : ∃ cs, cs = (playP (ts.map valNode) (srcP (ts.map valNode) ts.length) ms (pp0 ts.length)).1 := ⟨_, rfl⟩
    rw [← hs, ← hcs] at HR
    go_enter Tryz.func13, Tryz.ntmps13
    go_wp2_with fail
    rw [← HW0.out]
    refine HP.out.mono ?_
    rintro e w1 ⟨hq, hb1⟩
    rw [if_pos hok] at hq
    obtain ⟨lo, p, bb, so, sc, xs, ev, fv, uv, v, rfl, hlo, hI, F, hO, hA⟩ := hq
    rw [← hs] at F
    rw [← hcs] at hO
    have R1 := HX0.out.later hb1
    have c0 := F.box.c 2 rfl
    have c1 := F.box.c 3 rfl
    have c2 := F.box.c 4 rfl
    have c3 := F.box.c 5 rfl
    have c4 := F.box.c 6 rfl
    have c5 := F.box.c 7 rfl
    have c6 := F.box.c 8 rfl
    have y0 := R1.c 0 rfl
    have z0 := R1.f 0 rfl
    have y1 := R1.c 1 rfl
    have z1 := R1.f 1 rfl
    have y2 := R1.c 2 rfl
    have z2 := R1.f 2 rfl
    have y3 := R1.c 3 rfl
    have z3 := R1.f 3 rfl
    have y4 := R1.c 4 rfl
    have z4 := R1.f 4 rfl
    have y5 := R1.c 5 rfl
    have z5 := R1.f 5 rfl
    have y6 := R1.c 6 rfl
    have z6 := R1.f 6 rfl
    obtain ⟨eo, ec, he, _, hEf⟩ := F.emo.fresh
    obtain ⟨fo, fc, hf, _, hFf⟩ := F.fao.fresh
    obtain ⟨uo, uc, hu, _, hUf⟩ := F.fuo.fresh
    obtain ⟨co, cc, rfl, _, hCf⟩ := hO.fresh
    rw [he] at c4
    rw [hf] at c5
    rw [hu] at c6
    have hlo1 : w.heap.size < lo := Nat.lt_of_lt_of_le hwz hlo
    have HB1 := hid (Hb0.out.trans (hb1.mono Hb0.out.size))
    have hlob := F.lob
    have HBX := hid (F.hnd.fr)
    have HOF := hid (off_of (uo := uo) (co := co) (n := s.fu.length) (m := cs.length) (uc := uc) (cc := cc) (fun b hb => (show FO p bb xs ev fv uv b from .inr (.inr (.inr (.inr (.inr (by rw [hu]; exact hb))))))) hA hUf hCf rfl rfl)
    have HEF := hid hEf
    have HFF := hid hFf
    have HUF := hid hUf
    have HCF := hid hCf
    have HL := hid (F.hnd.len)
    clear hb1 F hO hA HP hok hs hcs he hf hu hEf hFf hUf hCf hI hlo R1
    go_wp2
    refine bodyPost_ret (v := .tuple #[.agg #[.int .i64 s.ti, .int .i64 s.it, .bool s.cl, .slice (some ⟨bb, 0, none⟩) s.bx.length s.bx.length, .slice eo s.em.length ec, .slice fo s.fa.length fc, .slice uo s.fu.length uc], .slice co cs.length cc, .bool true]) (by simp [results, Tryz.results13, go_sem, y0, y1, y2, y3, y4, y5, y6]) rfl ?_
    obtain ⟨w5, h5⟩ : ∃ w5, w5 = (((((((w1.setCell ⟨w.heap.size, 0, none⟩ (.int .i64 s.ti)).setCell ⟨w.heap.size, 1, none⟩ (.int .i64 s.it)).setCell ⟨w.heap.size, 2, none⟩ (.bool s.cl)).setCell ⟨w.heap.size, 3, none⟩ (.slice (some ⟨bb, 0, none⟩) s.bx.length s.bx.length)).setCell ⟨w.heap.size, 4, none⟩ (.slice eo s.em.length ec)).setCell ⟨w.heap.size, 5, none⟩ (.slice fo s.fa.length fc)).setCell ⟨w.heap.size, 6, none⟩ (.slice uo s.fu.length uc)) := ⟨_, rfl⟩
    rw [← h5, HR.out]
    have hk : ∀ b, b ≠ w.heap.size → w5.heap[b]? = w1.heap[b]? := fun b hb => by rw [h5]; exact set7_far hb _ _ _ _ _ _ _
    have hz5 : w5.heap.size = w1.heap.size := by rw [h5]; simp [World.setCell]
    have hkF : ∀ b, lo ≤ b → b < w1.heap.size → b < w1.heap.size → w5.heap[b]? = w1.heap[b]? := fun b h1 _ _ => hk b (by omega)
    refine ⟨⟨_, _, _, _, _, _, _, _, _, _, rfl, ⟨⟨_, (HBX.out.keep fun b h1 h2 h3 => hk b (by omega)).wide (by omega) (by omega)⟩, (HEF.out.keep hkF).wide (by omega) (by omega), (HFF.out.keep hkF).wide (by omega) (by omega), (HUF.out.keep hkF).wide (by omega) (by omega)⟩, (HCF.out.keep hkF).wide (by omega) (by omega), HOF.out⟩, ?_⟩
    rw [h5]
    exact ((((((HB1.out.setCell (p := ⟨w.heap.size, 0, none⟩) (Nat.le_refl _) _).setCell (p := ⟨w.heap.size, 1, none⟩) (Nat.le_refl _) _).setCell (p := ⟨w.heap.size, 2, none⟩) (Nat.le_refl _) _).setCell (p := ⟨w.heap.size, 3, none⟩) (Nat.le_refl _) _).setCell (p := ⟨w.heap.size, 4, none⟩) (Nat.le_refl _) _).setCell (p := ⟨w.heap.size, 5, none⟩) (Nat.le_refl _) _).setCell (p := ⟨w.heap.size, 6, none⟩) (Nat.le_refl _) _
  · have HR : Hid (ppR (ts.map valNode) ms = ({ ti := 0, it := 0, cl := false, bx := [], em := [], fa := [], fu := [] }, [], false)) := by rw [Hid, ppR, if_neg hok]
    go_enter Tryz.func13, Tryz.ntmps13
    go_wp2_with fail
    rw [← HW0.out]
    refine HP.out.mono ?_
    rintro e w1 ⟨hq, hb1⟩
    rw [if_neg hok] at hq
    obtain rfl := hq
    have R1 := HX0.out.later hb1
    have y0 := R1.c 0 rfl
    have z0 := R1.f 0 rfl
    have y1 := R1.c 1 rfl
    have z1 := R1.f 1 rfl
    have y2 := R1.c 2 rfl
    have z2 := R1.f 2 rfl
    have y3 := R1.c 3 rfl
    have z3 := R1.f 3 rfl
    have y4 := R1.c 4 rfl
    have z4 := R1.f 4 rfl
    have y5 := R1.c 5 rfl
    have z5 := R1.f 5 rfl
    have y6 := R1.c 6 rfl
    have z6 := R1.f 6 rfl
    have HB1 := hid (Hb0.out.trans (hb1.mono Hb0.out.size))
    clear hb1 R1
    go_wp2
    refine bodyPost_ret (v := .tuple #[.agg #[.int .i64 0, .int .i64 0, .bool false, .slice none 0 0, .slice none 0 0, .slice none 0 0, .slice none 0 0], .slice none 0 0, .bool false]) (by simp [results, Tryz.results13, go_sem, y0, y1, y2, y3, y4, y5, y6]) rfl ?_
    rw [HR.out]
    refine ⟨⟨_, _, _, _, _, _, _, _, _, _, rfl, ⟨⟨[], FrRT.nil _ _ _ _ _⟩, .inl rfl, .inl rfl, .inl rfl⟩, .inl rfl, .inl rfl⟩, ?_⟩
    exact ((((((HB1.out.setCell (p := ⟨w.heap.size, 0, none⟩) (Nat.le_refl _) _).setCell (p := ⟨w.heap.size, 1, none⟩) (Nat.le_refl _) _).setCell (p := ⟨w.heap.size, 2, none⟩) (Nat.le_refl _) _).setCell (p := ⟨w.heap.size, 3, none⟩) (Nat.le_refl _) _).setCell (p := ⟨w.heap.size, 4, none⟩) (Nat.le_refl _) _).setCell (p := ⟨w.heap.size, 5, none⟩) (Nat.le_refl _) _).setCell (p := ⟨w.heap.size, 6, none⟩) (Nat.le_refl _) _
set_option maxRecDepth 100000 in
set_option maxHeartbeats 4000000 in
theorem specPipe_any (ao : Option Addr) (cap : Nat) (ts : List LNode) (mo : Option Addr) (mc : Nat) (ms : List (Int × Int × Int)) (w : World) (hC : Roomy ts cap) (hz : DIn dNode w.heap.size w ao ts) (hM : kMv.In w.heap.size w mo ms) (h64 : ∀ k, k < ms.length → (el ms k).1 ≤ 9223372036854775807) :
    Calls Tryz.prog 10 #[.slice ao ts.length cap, .slice mo ms.length mc] w (AnsPi w (ppR (ts.map valNode) ms)) := by
  have hb0 := below1 w (.cells #[.int .i64 0, .int .i64 0, .bool false, .slice none 0 0, .slice none 0 0, .slice none 0 0, .slice none 0 0] 31)
  obtain ⟨W0, hW0⟩ : ∃ W0, W0 = w.alloc (.cells #[.int .i64 0, .int .i64 0, .bool false, .slice none 0 0, .slice none 0 0, .slice none 0 0, .slice none 0 0] 31) := ⟨_, rfl⟩
  have HW0 := hid hW0
  have X0 : Bx W0 w.heap.size [.int .i64 0, .int .i64 0, .bool false, .slice none 0 0, .slice none 0 0, .slice none 0 0, .slice none 0 0] := by rw [hW0]; exact Bx.new (w := w) [.int .i64 0, .int .i64 0, .bool false, .slice none 0 0, .slice none 0 0, .slice none 0 0, .slice none 0 0] 31 rfl
  rw [← hW0] at hb0
  have HX0 := hid X0
  have HP := hid (l12Play_any ao cap ts mo mc ms W0 hC (hz.later dNode_ok hb0) (hM.later hb0) h64)
  have Hb0 := hid hb0
  have hwz := X0.size
  clear hC hz hM h64 hW0 hb0 X0
  by_cases hok : pipeB (ts.map valNode) = true ∧ ms.length ≤ 300
  · have HR : Hid (ppR (ts.map valNode) ms = ((playP (ts.map valNode) (srcP (ts.map valNode) ts.length) ms (pp0 ts.length)).2, (playP (ts.map valNode) (srcP (ts.map valNode) ts.length) ms (pp0 ts.length)).1, true)) := by rw [Hid, ppR, if_pos hok, val_len]
    obtain ⟨s, hs⟩ : ∃ s, s = (playP (ts.map valNode) (srcP (ts.map valNode) ts.length) ms (pp0 ts.length)).2 := ⟨_, rfl⟩
    obtain ⟨cs, hcs⟩ : ∃ cs, cs = (playP (ts.map valNode) (srcP (ts.map valNode) ts.length) ms (pp0 ts.length)).1 := ⟨_, rfl⟩
    rw [← hs, ← hcs] at HR
    go_enter Tryz.func10, Tryz.ntmps10
    go_wp2_with fail
    rw [← HW0.out]
    refine HP.out.mono ?_
    rintro e w1 ⟨hq, hb1⟩
    rw [if_pos hok] at hq
    obtain ⟨lo, p, bb, xs, ev, fv, uv, v, rfl, hlo, F, hO, hA⟩ := hq
    rw [← hs] at F
    rw [← hcs] at hO
    have R1 := HX0.out.later hb1
    have c0 := F.box.c 1 rfl
    have c1 := F.box.c 2 rfl
    have c2 := F.box.c 3 rfl
    have c3 := F.box.c 4 rfl
    have c4 := F.box.c 5 rfl
    have c5 := F.box.c 6 rfl
    have c6 := F.box.c 7 rfl
    have y0 := R1.c 0 rfl
    have z0 := R1.f 0 rfl
    have y1 := R1.c 1 rfl
    have z1 := R1.f 1 rfl
    have y2 := R1.c 2 rfl
    have z2 := R1.f 2 rfl
    have y3 := R1.c 3 rfl
    have z3 := R1.f 3 rfl
    have y4 := R1.c 4 rfl
    have z4 := R1.f 4 rfl
    have y5 := R1.c 5 rfl
    have z5 := R1.f 5 rfl
    have y6 := R1.c 6 rfl
    have z6 := R1.f 6 rfl
    obtain ⟨eo, ec, he, _, hEf⟩ := F.emo.fresh
    obtain ⟨fo, fc, hf, _, hFf⟩ := F.fao.fresh
    obtain ⟨uo, uc, hu, _, hUf⟩ := F.fuo.fresh
    obtain ⟨co, cc, rfl, _, hCf⟩ := hO.fresh
    rw [he] at c4
    rw [hf] at c5
    rw [hu] at c6
    have hlo1 : w.heap.size < lo := Nat.lt_of_lt_of_le hwz hlo
    have HB1 := hid (Hb0.out.trans (hb1.mono Hb0.out.size))
    have hlob := F.lob
    have HBX := hid (F.hnd.fr)
    have HOF := hid (off_of (uo := uo) (co := co) (n := s.fu.length) (m := cs.length) (uc := uc) (cc := cc) (fun b hb => (show FO p bb xs ev fv uv b from .inr (.inr (.inr (.inr (.inr (by rw [hu]; exact hb))))))) hA hUf hCf rfl rfl)
    have HEF := hid hEf
    have HFF := hid hFf
    have HUF := hid hUf
    have HCF := hid hCf
    have HL := hid (F.hnd.len)
    clear hb1 F hO hA HP hok hs hcs he hf hu hEf hFf hUf hCf hlo R1
    go_wp2
    refine bodyPost_ret (v := .tuple #[.agg #[.int .i64 s.ti, .int .i64 s.it, .bool s.cl, .slice (some ⟨bb, 0, none⟩) s.bx.length s.bx.length, .slice eo s.em.length ec, .slice fo s.fa.length fc, .slice uo s.fu.length uc], .slice co cs.length cc, .bool true]) (by simp [results, Tryz.results10, go_sem, y0, y1, y2, y3, y4, y5, y6]) rfl ?_
    obtain ⟨w5, h5⟩ : ∃ w5, w5 = (((((((w1.setCell ⟨w.heap.size, 0, none⟩ (.int .i64 s.ti)).setCell ⟨w.heap.size, 1, none⟩ (.int .i64 s.it)).setCell ⟨w.heap.size, 2, none⟩ (.bool s.cl)).setCell ⟨w.heap.size, 3, none⟩ (.slice (some ⟨bb, 0, none⟩) s.bx.length s.bx.length)).setCell ⟨w.heap.size, 4, none⟩ (.slice eo s.em.length ec)).setCell ⟨w.heap.size, 5, none⟩ (.slice fo s.fa.length fc)).setCell ⟨w.heap.size, 6, none⟩ (.slice uo s.fu.length uc)) := ⟨_, rfl⟩
    rw [← h5, HR.out]
    have hk : ∀ b, b ≠ w.heap.size → w5.heap[b]? = w1.heap[b]? := fun b hb => by rw [h5]; exact set7_far hb _ _ _ _ _ _ _
    have hz5 : w5.heap.size = w1.heap.size := by rw [h5]; simp [World.setCell]
    have hkF : ∀ b, lo ≤ b → b < w1.heap.size → b < w1.heap.size → w5.heap[b]? = w1.heap[b]? := fun b h1 _ _ => hk b (by omega)
    refine ⟨⟨_, _, _, _, _, _, _, _, _, _, rfl, ⟨⟨_, (HBX.out.keep fun b h1 h2 h3 => hk b (by omega)).wide (by omega) (by omega)⟩, (HEF.out.keep hkF).wide (by omega) (by omega), (HFF.out.keep hkF).wide (by omega) (by omega), (HUF.out.keep hkF).wide (by omega) (by omega)⟩, (HCF.out.keep hkF).wide (by omega) (by omega), HOF.out⟩, ?_⟩
    rw [h5]
    exact ((((((HB1.out.setCell (p := ⟨w.heap.size, 0, none⟩) (Nat.le_refl _) _).setCell (p := ⟨w.heap.size, 1, none⟩) (Nat.le_refl _) _).setCell (p := ⟨w.heap.size, 2, none⟩) (Nat.le_refl _) _).setCell (p := ⟨w.heap.size, 3, none⟩) (Nat.le_refl _) _).setCell (p := ⟨w.heap.size, 4, none⟩) (Nat.le_refl _) _).setCell (p := ⟨w.heap.size, 5, none⟩) (Nat.le_refl _) _).setCell (p := ⟨w.heap.size, 6, none⟩) (Nat.le_refl _) _
  · have HR : Hid (ppR (ts.map valNode) ms = ({ ti := 0, it := 0, cl := false, bx := [], em := [], fa := [], fu := [] }, [], false)) := by rw [Hid, ppR, if_neg hok]
    go_enter Tryz.func10, Tryz.ntmps10
    go_wp2_with fail
    rw [← HW0.out]
    refine HP.out.mono ?_
    rintro e w1 ⟨hq, hb1⟩
    rw [if_neg hok] at hq
    obtain ⟨q, rfl⟩ := hq
    have R1 := HX0.out.later hb1
    have y0 := R1.c 0 rfl
    have z0 := R1.f 0 rfl
    have y1 := R1.c 1 rfl
    have z1 := R1.f 1 rfl
    have y2 := R1.c 2 rfl
    have z2 := R1.f 2 rfl
    have y3 := R1.c 3 rfl
    have z3 := R1.f 3 rfl
    have y4 := R1.c 4 rfl
    have z4 := R1.f 4 rfl
    have y5 := R1.c 5 rfl
    have z5 := R1.f 5 rfl
    have y6 := R1.c 6 rfl
    have z6 := R1.f 6 rfl
    have HB1 := hid (Hb0.out.trans (hb1.mono Hb0.out.size))
    clear hb1 R1
    go_wp2
    refine bodyPost_ret (v := .tuple #[.agg #[.int .i64 0, .int .i64 0, .bool false, .slice none 0 0, .slice none 0 0, .slice none 0 0, .slice none 0 0], .slice none 0 0, .bool false]) (by simp [results, Tryz.results10, go_sem, y0, y1, y2, y3, y4, y5, y6]) rfl ?_
    rw [HR.out]
    refine ⟨⟨_, _, _, _, _, _, _, _, _, _, rfl, ⟨⟨[], FrRT.nil _ _ _ _ _⟩, .inl rfl, .inl rfl, .inl rfl⟩, .inl rfl, .inl rfl⟩, ?_⟩
    exact ((((((HB1.out.setCell (p := ⟨w.heap.size, 0, none⟩) (Nat.le_refl _) _).setCell (p := ⟨w.heap.size, 1, none⟩) (Nat.le_refl _) _).setCell (p := ⟨w.heap.size, 2, none⟩) (Nat.le_refl _) _).setCell (p := ⟨w.heap.size, 3, none⟩) (Nat.le_refl _) _).setCell (p := ⟨w.heap.size, 4, none⟩) (Nat.le_refl _) _).setCell (p := ⟨w.heap.size, 5, none⟩) (Nat.le_refl _) _).setCell (p := ⟨w.heap.size, 6, none⟩) (Nat.le_refl _) _
end
end Go.Proofs.YtoeonbdoopboiaaGreatDoor
