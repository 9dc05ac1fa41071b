
/- Names, on both sides. No conditions but those written. -/
import Derived.Test.YtekadjjofcicaaaDoorBx
import Derived.Test.YtekadjjofcicaaaDoorIa
import Derived.Laws.IdiomStrings
namespace Go.Proofs.YtekadjjofcicaaaDoor
open Go.RowKit

/-- A letter. -/
def letB (x : Int) : Bool := (decide (97 ≤ x) && decide (x ≤ 122)) || (decide (65 ≤ x) && decide (x ≤ 90))
def byteI (b : ByteArray) (k : Nat) : Int := if h : k < b.size then (b[k].toNat : Int) else 0
theorem byteI_at {b : ByteArray} {k : Nat} (h : k < b.size) : byteI b k = (b[k].toNat : Int) := by rw [byteI, dif_pos h]
/-- A name. -/
def nameB (b : ByteArray) : Bool := (decide (1 ≤ b.size) && decide (b.size ≤ 12)) && (List.range b.size).all fun k => letB (byteI b k)
theorem nameB_no {b : ByteArray} {k : Nat} (h : k < b.size) (hk : letB (byteI b k) = false) : nameB b = false := by
  rw [nameB, Bool.and_eq_false_iff]
  right
  rw [List.all_eq_false]
  exact ⟨k, List.mem_range.2 h, by simp [hk]⟩
theorem nameB_yes {b : ByteArray} (h1 : 1 ≤ b.size) (h2 : b.size ≤ 12) (h : ∀ k, k < b.size → letB (byteI b k) = true) : nameB b = true := by
  rw [nameB, Bool.and_eq_true]
  refine ⟨by simp [h1, h2], ?_⟩
  rw [List.all_eq_true]
  intro k hk
  exact h k (List.mem_range.1 hk)
theorem nameB_size {b : ByteArray} (h : b.size < 1 ∨ 12 < b.size) : nameB b = false := by
  rw [nameB, Bool.and_eq_false_iff]
  left
  simp; omega
set_option maxHeartbeats 2000000 in
theorem l1Name_is (b : ByteArray) (w : World) (hs : b.size ≤ 9223372036854775807) :
    Calls Tryd.prog 36 #[.string b] w fun e w' => e = .returned (.bool (nameB b)) ∧ w' = w := by
  by_cases hn : b.size < 1 ∨ 12 < b.size
  · rw [nameB_size hn]
    go_enter Tryd.func36, Tryd.ntmps36
    go_wp2_with fail
    refine (l1In_is b.size 1 12 _ false (by simp; omega)).mono ?_
    rintro e w1 ⟨rfl, rfl⟩
    go_wp2
    go_ret
    exact ⟨rfl, rfl⟩
  · go_enter Tryd.func36, Tryd.ntmps36
    go_wp2_with fail
    refine (l1In_is b.size 1 12 _ true (by simp; omega)).mono ?_
    rintro e w1 ⟨rfl, rfl⟩
    go_wp2
    go_loop [3] (fun i => ∃ k : Nat, i = .int .i64 (k : Int) ∧ k ≤ b.size ∧ Hid (∀ j, j < k → letB (byteI b j) = true)) (fun i => b.size - (intOf i).toNat)
    case atStart => exact ⟨0, rfl, Nat.zero_le _, fun j hj => by omega⟩
    case round =>
      obtain ⟨k, rfl, hk, hA⟩ := hrel
      by_cases hlt : k < b.size
      · have hx := hid (byteI_at hlt)
        rcases (show (b[k].toNat : Int) < 65 ∨ (65 ≤ (b[k].toNat : Int) ∧ (b[k].toNat : Int) ≤ 90) ∨ (90 < (b[k].toNat : Int) ∧ (b[k].toNat : Int) < 97) ∨ (97 ≤ (b[k].toNat : Int) ∧ (b[k].toNat : Int) ≤ 122) ∨ 122 < (b[k].toNat : Int) from by omega) with h | ⟨h, h'⟩ | ⟨h, h'⟩ | ⟨h, h'⟩ | h
        · have q1 : ¬ (97 ≤ (b[k].toNat : Int)) := by omega
          have q2 : (b[k].toNat : Int) ≤ 122 := by omega
          have q3 : ¬ (65 ≤ (b[k].toNat : Int)) := by omega
          have q4 : (b[k].toNat : Int) ≤ 90 := by omega
          go_wp2
          all_goals first
            | (exfalso; omega)
            | (go_ret; refine ⟨ret_bool ?_, rfl⟩; rw [nameB_no hlt (by rw [hx.out]; rw [letB]; simp; omega)])
        · have q1 : ¬ (97 ≤ (b[k].toNat : Int)) := by omega
          have q2 : (b[k].toNat : Int) ≤ 122 := by omega
          have q3 : 65 ≤ (b[k].toNat : Int) := by omega
          have q4 : (b[k].toNat : Int) ≤ 90 := by omega
          go_wp2
          all_goals
            refine ⟨⟨k + 1, by go_num, by omega, fun j hj => ?_⟩, by simp [intOf]; omega⟩
            rcases Nat.lt_succ_iff_lt_or_eq.1 hj with h1 | rfl
            · exact hA.out j h1
            · rw [hx.out]; rw [letB]; simp; omega
        · have q1 : ¬ (97 ≤ (b[k].toNat : Int)) := by omega
          have q2 : (b[k].toNat : Int) ≤ 122 := by omega
          have q3 : 65 ≤ (b[k].toNat : Int) := by omega
          have q4 : ¬ ((b[k].toNat : Int) ≤ 90) := by omega
          go_wp2
          all_goals first
            | (exfalso; omega)
            | (go_ret; refine ⟨ret_bool ?_, rfl⟩; rw [nameB_no hlt (by rw [hx.out]; rw [letB]; simp; omega)])
        · have q1 : 97 ≤ (b[k].toNat : Int) := by omega
          have q2 : (b[k].toNat : Int) ≤ 122 := by omega
          have q3 : 65 ≤ (b[k].toNat : Int) := by omega
          have q4 : ¬ ((b[k].toNat : Int) ≤ 90) := by omega
          go_wp2
          all_goals
            refine ⟨⟨k + 1, by go_num, by omega, fun j hj => ?_⟩, by simp [intOf]; omega⟩
            rcases Nat.lt_succ_iff_lt_or_eq.1 hj with h1 | rfl
            · exact hA.out j h1
            · rw [hx.out]; rw [letB]; simp; omega
        · have q1 : 97 ≤ (b[k].toNat : Int) := by omega
          have q2 : ¬ ((b[k].toNat : Int) ≤ 122) := by omega
          have q3 : 65 ≤ (b[k].toNat : Int) := by omega
          have q4 : ¬ ((b[k].toNat : Int) ≤ 90) := by omega
          go_wp2
          all_goals first
            | (exfalso; omega)
            | (go_ret; refine ⟨ret_bool ?_, rfl⟩; rw [nameB_no hlt (by rw [hx.out]; rw [letB]; simp; omega)])
      · go_wp2
        go_ret
        exact ⟨ret_bool (nameB_yes (by omega) (by omega) fun j hj => hA.out j (by omega)).symm, rfl⟩
/-- The bytes of a text, laid. -/
theorem bytes_laid (b : ByteArray) (w : World) : ∃ C V, (convert 9 69 (.string b)).run Tryd.prog w = .ok (.slice (some ⟨w.heap.size, 0, none⟩) b.size C) V ∧ Below w.heap.size w V ∧ ∀ j, j < b.size → V.cell? ⟨w.heap.size, j, none⟩ = some (.int .u8 (byteI b j)) := by
  refine ⟨_, _, run_bytes_of_string (P := Tryd.prog) w 9 69 5 b Tryd.underlying9 Tryd.underlying69 Tryd.underlying5, ?_, fun j hj => ?_⟩
  · exact ((Below.refl _ _).drew).alloc (Nat.le_refl _) _
  · have h := World.cell?_alloc_mark w.drew (bytesRow b (grownCap w b.size 0 5)) 5 ((bytesRow b (grownCap w b.size 0 5)).size, (bytesRow b (grownCap w b.size 0 5)).size + 1) j
    rw [show w.drew.heap.size = w.heap.size from rfl] at h
    rw [h, bytesRow_at b _ j hj, byteI_at hj]; rfl
set_option maxRecDepth 10000 in
set_option maxHeartbeats 2000000 in
theorem isName_is (b : ByteArray) (w : World) (hs : b.size ≤ 9223372036854775807) :
    Calls Tryd.prog 41 #[.string b] w fun e w' => e = .returned (.bool (nameB b)) ∧ Below w.heap.size w w' := by
  by_cases hn1 : b.size < 1
  · rw [nameB_size (.inl hn1)]
    go_enter Tryd.func41, Tryd.ntmps41
    go_wp2
    go_ret
    exact ⟨rfl, Below.refl _ _⟩
  by_cases hn2 : 12 < b.size
  · rw [nameB_size (.inr hn2)]
    go_enter Tryd.func41, Tryd.ntmps41
    go_wp2
    go_ret
    exact ⟨rfl, Below.refl _ _⟩
  obtain ⟨C, V, hconv, hB, hc⟩ := bytes_laid b w
  have HB := hid hB
  have HC := hid hc
  clear hB hc
  go_enter Tryd.func41, Tryd.ntmps41
  go_wp2
  go_loop [16] (fun i => ∃ k : Nat, i = .int .i64 (k : Int) ∧ k ≤ b.size ∧ Hid (∀ j, j < k → letB (byteI b j) = true)) (fun i => b.size - (intOf i).toNat)
  case atStart => exact ⟨0, rfl, Nat.zero_le _, fun j hj => by omega⟩
  case round =>
    obtain ⟨k, rfl, hk, hA⟩ := hrel
    by_cases hlt : k < b.size
    · have hx := HC.out k hlt
      obtain ⟨x, ex⟩ : ∃ x, x = byteI b k := ⟨_, rfl⟩
      rw [← ex] at hx
      have HX := hid ex
      clear ex
      rcases (show x < 65 ∨ (65 ≤ x ∧ x ≤ 90) ∨ (90 < x ∧ x < 97) ∨ (97 ≤ x ∧ x ≤ 122) ∨ 122 < x from by omega) with h | ⟨h, h'⟩ | ⟨h, h'⟩ | ⟨h, h'⟩ | h
      · have q1 : ¬ (97 ≤ x) := by omega
        have q2 : x ≤ 122 := by omega
        have q3 : ¬ (65 ≤ x) := by omega
        have q4 : x ≤ 90 := by omega
        go_wp2
        all_goals first
          | (exfalso; omega)
          | (go_ret; refine ⟨ret_bool ?_, HB.out⟩; rw [nameB_no hlt (by rw [← HX.out]; rw [letB]; simp; omega)])
      · have q1 : ¬ (97 ≤ x) := by omega
        have q2 : x ≤ 122 := by omega
        have q3 : 65 ≤ x := by omega
        have q4 : x ≤ 90 := by omega
        go_wp2
        all_goals
          refine ⟨⟨k + 1, by go_num, by omega, fun j hj => ?_⟩, by simp [intOf]; omega⟩
          rcases Nat.lt_succ_iff_lt_or_eq.1 hj with h1 | rfl
          · exact hA.out j h1
          · rw [← HX.out]; rw [letB]; simp; omega
      · have q1 : ¬ (97 ≤ x) := by omega
        have q2 : x ≤ 122 := by omega
        have q3 : 65 ≤ x := by omega
        have q4 : ¬ (x ≤ 90) := by omega
        go_wp2
        all_goals first
          | (exfalso; omega)
          | (go_ret; refine ⟨ret_bool ?_, HB.out⟩; rw [nameB_no hlt (by rw [← HX.out]; rw [letB]; simp; omega)])
      · have q1 : 97 ≤ x := by omega
        have q2 : x ≤ 122 := by omega
        have q3 : 65 ≤ x := by omega
        have q4 : ¬ (x ≤ 90) := by omega
        go_wp2
        all_goals
          refine ⟨⟨k + 1, by go_num, by omega, fun j hj => ?_⟩, by simp [intOf]; omega⟩
          rcases Nat.lt_succ_iff_lt_or_eq.1 hj with h1 | rfl
          · exact hA.out j h1
          · rw [← HX.out]; rw [letB]; simp; omega
      · have q1 : 97 ≤ x := by omega
        have q2 : ¬ (x ≤ 122) := by omega
        have q3 : 65 ≤ x := by omega
        have q4 : ¬ (x ≤ 90) := by omega
        go_wp2
        all_goals first
          | (exfalso; omega)
          | (go_ret; refine ⟨ret_bool ?_, HB.out⟩; rw [nameB_no hlt (by rw [← HX.out]; rw [letB]; simp; omega)])
    · go_wp2
      go_ret
      exact ⟨ret_bool (nameB_yes (by omega) (by omega) fun j hj => hA.out j (by omega)).symm, HB.out⟩
end Go.Proofs.YtekadjjofcicaaaDoor
