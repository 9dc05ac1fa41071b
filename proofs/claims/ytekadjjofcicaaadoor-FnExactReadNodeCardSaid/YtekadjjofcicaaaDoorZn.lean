
/- The text of a whole number: the specification's. No conditions but those written. -/
import Derived.Test.YtekadjjofcicaaaDoorBx
import Derived.Laws.BytesString
import Derived.Lib.ItoaMem
namespace Go.Proofs.YtekadjjofcicaaaDoor
open Go.RowKit

/-- A text out of a list of bytes. -/
def tx (l : List UInt8) : ByteArray := ⟨l.toArray⟩
theorem tx_app (a b : List UInt8) : tx a ++ tx b = tx (a ++ b) := by
  apply ByteArray.ext
  simp [tx, ByteArray.data_append]
theorem tx_size (a : List UInt8) : (tx a).size = a.length := by simp [tx, ByteArray.size]
theorem conv_run (W : World) (p : Nat) (x : Int) (hc : W.cell? ⟨p, 0, none⟩ = some (.int .u8 x)) : (convert 69 9 (.slice (some ⟨p, 0, none⟩) 1 1)).run Tryd.prog W = .ok (.string (tx [UInt8.ofNat x.toNat])) W := by
  rw [run_convert_bytes_string _ _ _ 5 _ _ _ Tryd.underlying69 Tryd.underlying5 Tryd.underlying9]
  exact run_bytesToString _ _ _ _ [x] (by simp [loadCells, go_sem, hc])
theorem conv_new (W : World) (x : Int) : (convert 69 9 (.slice (some ⟨W.heap.size, 0, none⟩) 1 1)).run Tryd.prog (W.alloc (.cells #[.int .u8 x] 5)) = .ok (.string (tx [UInt8.ofNat x.toNat])) (W.alloc (.cells #[.int .u8 x] 5)) :=
  conv_run _ _ _ (by simp [go_sem])
theorem decDigits_short (u : Nat) (h : u ≤ 9223372036854775808) : (Lib.decDigits u).length ≤ 20 := by
  rw [Lib.decDigits_length]
  have step : ∀ (k u : Nat), u < 10 ^ (k + 1) → Lib.nDigits u ≤ k + 1 := by
    intro k
    induction k with
    | zero => intro u hu; rw [Lib.nDigits_small (by simpa using hu)]; exact Nat.le_refl _
    | succ k ih =>
      intro u hu
      rw [Lib.nDigits]
      split
      · omega
      · have := ih (u / 10) (by rw [Nat.pow_succ] at hu; omega)
        omega
  have := step 19 u (by omega)
  omega
set_option maxRecDepth 100000 in
set_option maxHeartbeats 2000000 in
theorem num_nat : ∀ (u : Nat) (w : World), u ≤ 9223372036854775807 →
    Calls Tryd.prog 39 #[.int .i64 (u : Int)] w fun e w' => e = .returned (.string (tx (Lib.decDigits u))) ∧ Below w.heap.size w w' := by
  intro u
  induction u using Nat.strongRecOn with
  | ind u ih =>
    intro w hu
    have h0 : decide ((u : Int) < 0) = false := by simp
    by_cases hs : u < 10
    · have h1 : decide ((u : Int) < 10) = true := by simp; omega
      have hcv := conv_new w (48 + (u : Int))
      have hD : tx (Lib.decDigits u) = tx [UInt8.ofNat (48 + (u : Int)).toNat] := by rw [Lib.decDigits_one hs]; congr 2
      generalize tx [UInt8.ofNat (48 + (u : Int)).toNat] = t at hcv hD
      have HD := hid hD
      clear hD
      go_enter Tryd.func39, Tryd.ntmps39
      go_wp2
      go_ret
      exact ⟨by rw [HD.out]; rfl, below1 _ _⟩
    · have h1 : decide ((u : Int) < 10) = false := by simp; omega
      have hq : (u : Int) / 10 = ((u / 10 : Nat) : Int) := by omega
      have hm : (u : Int).tmod 10 = ((u % 10 : Nat) : Int) := by rw [Int.tmod_eq_emod_of_nonneg (by omega)]; omega
      have hw1 : IntKind.i64.wrap ((u : Int) / 10) = (u : Int) / 10 := by rw [IntKind.wrap_i64]; omega
      have hw2 : IntKind.i64.wrap (48 + ((u % 10 : Nat) : Int)) = 48 + ((u % 10 : Nat) : Int) := by rw [IntKind.wrap_i64]; omega
      have hw3 : IntKind.u8.wrap (48 + ((u % 10 : Nat) : Int)) = 48 + ((u % 10 : Nat) : Int) := by show (48 + ((u % 10 : Nat) : Int)) % 256 = _; omega
      have hih : ∀ W, Calls Tryd.prog 39 #[.int .i64 ((u : Int) / 10)] W fun e w' => e = .returned (.string (tx (Lib.decDigits (u / 10)))) ∧ Below W.heap.size W w' := fun W => by rw [hq]; exact ih (u / 10) (by omega) W (by omega)
      have hD : tx (Lib.decDigits u) = tx (Lib.decDigits (u / 10)) ++ tx [UInt8.ofNat (48 + ((u % 10 : Nat) : Int)).toNat] := by
        rw [Lib.decDigits, dif_neg hs, tx_app]; congr 3
      have hl : (tx (Lib.decDigits (u / 10))).size ≤ 20 := by rw [tx_size]; exact decDigits_short (u / 10) (by omega)
      have hm9 : u % 10 < 10 := by omega
      have ht1 : (tx [UInt8.ofNat (48 + ((u % 10 : Nat) : Int)).toNat]).size = 1 := rfl
      have hcp := fun W p => conv_run W p (48 + ((u % 10 : Nat) : Int))
      generalize tx [UInt8.ofNat (48 + ((u % 10 : Nat) : Int)).toNat] = t at *
      generalize tx (Lib.decDigits (u / 10)) = s at *
      generalize u % 10 = r at *
      generalize u / 10 = q at *
      have HD := hid hD
      have HI := hid hih
      clear hD hih ih hq
      go_enter Tryd.func39, Tryd.ntmps39
      go_wp2
      go_region_with (go_at_call 39; refine (HI.out _).mono ?_; rintro e w1 ⟨rfl, hb1⟩; have hcl := fun h => hb1.cell (p := ⟨w.heap.size, 0, none⟩) h; have HB1 := hid hb1; clear hb1)
      all_goals go_wp2
      all_goals go_ret
      · exact ⟨by rw [HD.out]; rfl, Below.allocS ((Below.refl _ w).drew.trans HB1.out) _⟩
      · exact ⟨by rw [HD.out]; rfl, ((below1 w (.cells #[.int .u8 (48 + (r : Int))] 5)).drew).trans (HB1.out.mono (by simp))⟩
      · exact ⟨by rw [HD.out]; rfl, ((below1 w (.cells #[.int .u8 (48 + (r : Int))] 5)).drew).trans (HB1.out.mono (by simp))⟩
theorem itoa_min : Lib.itoa (-9223372036854775808) = [45, 57, 50, 50, 51, 51, 55, 50, 48, 51, 54, 56, 53, 52, 55, 55, 53, 56, 48, 56] := by
  simp [Lib.itoa, Lib.decDigits]
theorem itoa_short (n : Int) (h0 : -9223372036854775808 ≤ n) (h1 : n ≤ 9223372036854775807) : (Lib.itoa n).length ≤ 21 := by
  unfold Lib.itoa
  split
  · have := decDigits_short n.natAbs (by omega)
    simp; omega
  · have := decDigits_short n.toNat (by omega)
    omega
set_option maxRecDepth 100000 in
set_option maxHeartbeats 2000000 in
theorem num_any (n : Int) (h0 : -9223372036854775808 ≤ n) (h1 : n ≤ 9223372036854775807) (w : World) :
    Calls Tryd.prog 39 #[.int .i64 n] w fun e w' => e = .returned (.string (tx (Lib.itoa n))) ∧ Below w.heap.size w w' := by
  by_cases hn : n < 0
  · have hn' : decide (n < 0) = true := by simpa using hn
    by_cases hm : n = -9223372036854775808
    · subst hm
      go_enter Tryd.func39, Tryd.ntmps39
      go_wp2
      go_ret
      exact ⟨by rw [itoa_min]; rfl, Below.refl _ _⟩
    · have hm' : (n == -9223372036854775808) = false := by simpa using hm
      obtain ⟨u, hu⟩ : ∃ u : Nat, -n = (u : Int) := ⟨(-n).toNat, by omega⟩
      have hc := num_nat u w (by omega)

      have hl : (tx (Lib.decDigits u)).size ≤ 20 := by rw [tx_size]; exact decDigits_short u (by omega)
      have hw : wrap64 (u : Int) = (u : Int) := by unfold wrap64; omega
      have hD : tx (Lib.itoa n) = tx [45] ++ tx (Lib.decDigits u) := by
        rw [tx_app, show n = -(u : Int) by omega, Lib.itoa_neg u (by omega)]; rfl
      generalize tx (Lib.decDigits u) = s at *
      have HD := hid hD
      have HC := hid hc
      clear hD hc hm hn h0
      go_enter Tryd.func39, Tryd.ntmps39
      go_wp2_with fail
      refine HC.out.mono ?_
      rintro e w1 ⟨rfl, hb1⟩
      go_wp2
      go_ret
      exact ⟨by rw [HD.out]; rfl, hb1⟩
  · obtain ⟨u, rfl⟩ : ∃ u : Nat, n = (u : Int) := ⟨n.toNat, by omega⟩
    rw [Lib.itoa_nonneg]
    exact num_nat u w (by omega)
end Go.Proofs.YtekadjjofcicaaaDoor
