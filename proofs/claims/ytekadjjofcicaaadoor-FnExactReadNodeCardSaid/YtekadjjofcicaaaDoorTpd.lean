
/- A number read: both sides. No conditions but those written. -/
import Derived.Test.YtekadjjofcicaaaDoorTpc
import Derived.Shelf.Strconv.ErrVarAll
namespace Go.Proofs.YtekadjjofcicaaaDoor
open Go.RowKit

/-- What is answered for a word that may be a number. -/
def numR (s : ByteArray) : Int × Bool := match numL s.data.toList with | some n => (n, true) | none => (0, false)
theorem numR_yes {s : ByteArray} {n : Int} (h : numL s.data.toList = some n) : numR s = (n, true) := by rw [numR, h]
theorem numR_no {s : ByteArray} (h : numL s.data.toList = none) : numR s = (0, false) := by rw [numR, h]
theorem head_byte {s : ByteArray} (h : 0 < s.size) : s.data.toList.head? = some s[0] := by
  have := list_at (s := s) (i := 0) h
  rw [List.drop_zero] at this
  rw [this]; rfl
theorem valD_succ {l : List UInt8} {k : Nat} (h : k < l.length) : valD (l.take (k + 1)) 0 = 10 * valD (l.take k) 0 + ((l[k]'h).toNat - 48) := by
  rw [List.take_add_one, List.getElem?_eq_getElem h]
  simp only [Option.toList]
  rw [valD_app, valD, valD]
theorem byte_list {s : ByteArray} {k : Nat} (h : k < s.size) : s.data.toList[k]'(by rw [Array.length_toList]; exact h) = s[k] := rfl
set_option maxRecDepth 10000 in
set_option maxHeartbeats 4000000 in
theorem negNum_is (s : ByteArray) (w : World) (hs : s.size ≤ 1048576) (h0 : 0 < s.size) (h45 : (s[0]'h0).toNat = 45) (D : ByteArray) (hD : D = s.extract 1 s.size) :
    Calls Tryd.prog 28 #[.string s] w fun e w' => e = .returned (if numD D.data.toList true = true then .tuple #[.int .i64 (-(valD D.data.toList 0 : Int)), .bool true] else .tuple #[.int .i64 0, .bool false]) ∧ w' = w := by
  obtain ⟨R, hR⟩ : ∃ R : Value, R = (if numD D.data.toList true = true then .tuple #[.int .i64 (-(valD D.data.toList 0 : Int)), .bool true] else .tuple #[.int .i64 0, .bool false]) := ⟨_, rfl⟩
  rw [← hR]
  have hb : (((s[0]'h0).toNat : Int) == 45) = true := by rw [h45]; rfl
  have hc0 : decide (0 < (s.size : Int)) = true := by simpa using h0
  have hDs : D.size = s.size - 1 := by rw [hD, ByteArray.size_extract]; omega
  have HD := hid hD
  have HDS := hid hDs
  clear hD
  have hlen : D.data.toList.length = D.size := Array.length_toList
  by_cases hl : 1 ≤ D.size ∧ D.size ≤ 7
  case neg =>
    have hnD : numD D.data.toList true = false := by
      unfold numD; rw [hlen]
      have : (decide (1 ≤ D.size) && decide (D.size ≤ 7)) = false := by simp; omega
      rw [this]; rfl
    rw [if_neg (by rw [hnD]; simp)] at hR
    subst hR
    clear hnD hlen
    go_enter Tryd.func28, Tryd.ntmps28
    go_wp2_with fail
    rw [← HD.out, ← HDS.out]
    clear HD HDS hDs
    refine (l1In_is (D.size : Int) 1 7 _ false (by simp; omega)).mono ?_
    rintro e w1 ⟨rfl, hw1⟩
    rw [hw1]; clear hw1 w1
    go_wp2
    all_goals exact bodyPost_ret (v := .tuple #[.int .i64 0, .bool false]) (by simp [results, Tryd.results28, go_sem]) rfl ⟨rfl, rfl⟩
  obtain ⟨hl1, hl7⟩ := hl
  have hd0 : 0 < D.size := by omega
  have hhd := head_byte hd0
  have h48 : (D.data.toList.head? == some 48) = decide ((D[0]'hd0).toNat = 48) := by
    rw [hhd]
    by_cases h : (D[0]'hd0).toNat = 48
    · have : D[0]'hd0 = 48 := UInt8.toNat_inj.1 h
      rw [this]; rfl
    · have : (D[0]'hd0) ≠ 48 := fun e => h (by rw [e]; rfl)
      have e2 : (some (D[0]'hd0) == some 48) = false := by simpa using this
      rw [e2]; simp [h]
  have hnum : numD D.data.toList true = (!(decide ((D[0]'hd0).toNat = 48) && (decide (1 < D.size) || true)) && D.data.toList.all digD) := by
    unfold numD
    rw [hlen, h48]
    simp [hl1, hl7]
  clear hhd h48
  by_cases hz0 : (D[0]'hd0).toNat = 48
  · have hz : (((D[0]'hd0).toNat : Int) == 48) = true := by simp; omega
    rw [if_neg (by rw [hnum]; simp [hz0])] at hR
    subst hR
    clear hnum hz0
    go_enter Tryd.func28, Tryd.ntmps28
    go_wp2_with fail
    rw [← HD.out, ← HDS.out]
    clear HD HDS hDs
    refine (l1In_is (D.size : Int) 1 7 _ true (by simp; omega)).mono ?_
    rintro e w1 ⟨rfl, hw1⟩
    rw [hw1]; clear hw1 w1
    go_wp2
    all_goals exact bodyPost_ret (v := .tuple #[.int .i64 0, .bool false]) (by simp [results, Tryd.results28, go_sem]) rfl ⟨rfl, rfl⟩
  · have hz : (((D[0]'hd0).toNat : Int) == 48) = false := by simp; omega
    have HR := hid hR
    clear hR
    have HN : Hid (numD D.data.toList true = D.data.toList.all digD) := by rw [Hid, hnum]; simp [hz0]
    clear hnum hz0
    go_enter Tryd.func28, Tryd.ntmps28
    go_wp2_with fail
    rw [← HD.out, ← HDS.out]
    clear HD HDS hDs
    refine (l1In_is (D.size : Int) 1 7 _ true (by simp; omega)).mono ?_
    rintro e w1 ⟨rfl, hw1⟩
    rw [hw1]; clear hw1 w1
    go_wp2
    go_loop [6, 7] (fun u i => ∃ k : Nat, k ≤ D.size ∧ u = .int .i64 (valD (D.data.toList.take k) 0 : Int) ∧ i = .int .i64 (k : Int) ∧ Hid (∀ d ∈ D.data.toList.take k, digD d = true)) (fun _ i => D.size - (intOf i).toNat)
    case atStart => exact ⟨0, Nat.zero_le _, rfl, rfl, fun d hd => by simp at hd⟩
    case round =>
      obtain ⟨k, hk, rfl, rfl, hall⟩ := hrel
      have hvl := valD_lt (D.data.toList.take k) 0 hall.out
      have hpw : 10 ^ (D.data.toList.take k).length ≤ 10 ^ 7 := Nat.pow_le_pow_right (by omega) (by rw [List.length_take]; omega)
      by_cases hlt : k < D.size
      · have hx := byteI_at hlt
        have hk' : k < D.data.toList.length := by omega
        have hmem : (D[k]'hlt) ∈ D.data.toList := List.getElem_mem hk'
        by_cases hdg : 48 ≤ (D[k]'hlt).toNat ∧ (D[k]'hlt).toNat ≤ 57
        · obtain ⟨g1, g2⟩ := hdg
          have HS := hid (valD_succ hk')
          have HT := hid (show ∀ d ∈ D.data.toList.take (k + 1), digD d = true from fun d hd => by
            rw [List.take_add_one, List.getElem?_eq_getElem hk'] at hd
            rcases List.mem_append.1 hd with hd | hd
            · exact hall.out d hd
            · have e : d = D[k]'hlt := List.mem_singleton.1 (show d ∈ [D[k]'hlt] from hd)
              rw [e, digD]; simp [g1, g2])
          have HB := hid (byte_list hlt)
          obtain ⟨x, ex⟩ : ∃ x : Nat, x = (D[k]'hlt).toNat := ⟨_, rfl⟩
          have HX := hid ex
          have g1' : decide (((D[k]'hlt).toNat : Int) < 48) = false := by simp; omega
          have g2' : decide (57 < ((D[k]'hlt).toNat : Int)) = false := by simp; omega
          have hw8 : IntKind.u8.wrap (((D[k]'hlt).toNat : Int) - 48) = ((D[k]'hlt).toNat : Int) - 48 := by show (((D[k]'hlt).toNat : Int) - 48) % 256 = _; omega
          rw [← ex] at g1' g2' hw8
          obtain ⟨v, ev⟩ : ∃ v : Nat, v = valD (D.data.toList.take k) 0 := ⟨_, rfl⟩
          rw [← ev] at hvl ⊢
          have HV := hid ev
          have hvb : v < 10 ^ 7 := by omega
          clear hmem hall hx ev hvl hpw
          have ex2 := ex
          clear ex
          go_wp2
          go_round
          case rel => exact ⟨k + 1, by omega, by rw [HS.out, ← HV.out, HB.out]; go_num, by go_num, HT⟩
          case measure => simp [intOf]; omega
        · have HF : Hid (numD D.data.toList true = false) := by
            rw [Hid, HN.out, List.all_eq_false]
            refine ⟨_, hmem, ?_⟩
            simp only [digD]; simp; omega
          by_cases g1 : (D[k]'hlt).toNat < 48
          · have g1' : decide (((D[k]'hlt).toNat : Int) < 48) = true := by simp; omega
            clear hmem hall hx
            go_wp2
            refine bodyPost_ret (v := .tuple #[.int .i64 0, .bool false]) (by simp [results, Tryd.results28, go_sem]) rfl ⟨?_, rfl⟩
            rw [HR.out, if_neg (by rw [HF.out]; simp)]
          · have g1' : decide (((D[k]'hlt).toNat : Int) < 48) = false := by simp; omega
            have g2' : decide (57 < ((D[k]'hlt).toNat : Int)) = true := by simp; omega
            clear hmem hall hx
            go_wp2
            refine bodyPost_ret (v := .tuple #[.int .i64 0, .bool false]) (by simp [results, Tryd.results28, go_sem]) rfl ⟨?_, rfl⟩
            rw [HR.out, if_neg (by rw [HF.out]; simp)]
      · obtain rfl : k = D.size := by omega
        have HT : Hid (numD D.data.toList true = true) := by
          rw [Hid, HN.out, List.all_eq_true]
          have := hall.out
          rw [List.take_of_length_le (by omega)] at this
          exact this
        rw [List.take_of_length_le (by omega)] at hvl ⊢
        rw [List.take_of_length_le (by omega)] at hpw
        have hR2 := HR.out
        rw [if_pos HT.out] at hR2
        obtain ⟨v, ev⟩ : ∃ v : Nat, v = valD D.data.toList 0 := ⟨_, rfl⟩
        rw [← ev] at hvl hR2 ⊢
        have hvb : v < 10 ^ 7 := by omega
        subst hR2
        clear ev hvl hpw
        go_wp2
        exact bodyPost_ret (v := .tuple #[.int .i64 (-(v : Int)), .bool true]) (by simp [results, Tryd.results28, go_sem]) rfl ⟨rfl, rfl⟩
set_option maxRecDepth 10000 in
set_option maxHeartbeats 4000000 in
theorem posNum_is (s : ByteArray) (w : World) (hs : s.size ≤ 1048576) (h45 : ∀ h : 0 < s.size, (s[0]'h).toNat ≠ 45) :
    Calls Tryd.prog 28 #[.string s] w fun e w' => e = .returned (if numD s.data.toList false = true then .tuple #[.int .i64 (valD s.data.toList 0 : Int), .bool true] else .tuple #[.int .i64 0, .bool false]) ∧ w' = w := by
  obtain ⟨R, hR⟩ : ∃ R : Value, R = (if numD s.data.toList false = true then .tuple #[.int .i64 (valD s.data.toList 0 : Int), .bool true] else .tuple #[.int .i64 0, .bool false]) := ⟨_, rfl⟩
  rw [← hR]
  have hlen : s.data.toList.length = s.size := Array.length_toList
  by_cases hl : 1 ≤ s.size ∧ s.size ≤ 7
  case neg =>
    have hnD : numD s.data.toList false = false := by
      unfold numD; rw [hlen]
      have : (decide (1 ≤ s.size) && decide (s.size ≤ 7)) = false := by simp; omega
      rw [this]; rfl
    rw [if_neg (by rw [hnD]; simp)] at hR
    subst hR
    clear hnD hlen
    by_cases h0 : 0 < s.size
    · have hc0 : decide (0 < (s.size : Int)) = true := by simpa using h0
      have hb : (((s[0]'h0).toNat : Int) == 45) = false := by have := h45 h0; simp; omega
      go_enter Tryd.func28, Tryd.ntmps28
      go_wp2_with fail
      refine (l1In_is (s.size : Int) 1 7 _ false (by simp; omega)).mono ?_
      rintro e w1 ⟨rfl, hw1⟩
      rw [hw1]; clear hw1 w1
      go_wp2
      all_goals exact bodyPost_ret (v := .tuple #[.int .i64 0, .bool false]) (by simp [results, Tryd.results28, go_sem]) rfl ⟨rfl, rfl⟩
    · have hc0 : decide (0 < (s.size : Int)) = false := by simpa using h0
      go_enter Tryd.func28, Tryd.ntmps28
      go_wp2_with fail
      refine (l1In_is (s.size : Int) 1 7 _ false (by simp; omega)).mono ?_
      rintro e w1 ⟨rfl, hw1⟩
      rw [hw1]; clear hw1 w1
      go_wp2
      all_goals exact bodyPost_ret (v := .tuple #[.int .i64 0, .bool false]) (by simp [results, Tryd.results28, go_sem]) rfl ⟨rfl, rfl⟩
  obtain ⟨hl1, hl7⟩ := hl
  have h0 : 0 < s.size := by omega
  have hc0 : decide (0 < (s.size : Int)) = true := by simpa using h0
  have hb : (((s[0]'h0).toNat : Int) == 45) = false := by have := h45 h0; simp; omega
  clear h45
  have hd0 : 0 < s.size := by omega
  have hhd := head_byte hd0
  have h48 : (s.data.toList.head? == some 48) = decide ((s[0]'hd0).toNat = 48) := by
    rw [hhd]
    by_cases h : (s[0]'hd0).toNat = 48
    · have : s[0]'hd0 = 48 := UInt8.toNat_inj.1 h
      rw [this]; rfl
    · have : (s[0]'hd0) ≠ 48 := fun e => h (by rw [e]; rfl)
      have e2 : (some (s[0]'hd0) == some 48) = false := by simpa using this
      rw [e2]; simp [h]
  have hnum : numD s.data.toList false = (!(decide ((s[0]'hd0).toNat = 48) && (decide (1 < s.size) || false)) && s.data.toList.all digD) := by
    unfold numD
    rw [hlen, h48]
    simp [hl1, hl7]
  clear hhd h48
  by_cases hz0 : (s[0]'hd0).toNat = 48
  · by_cases h1 : 1 < s.size
    · have hz : (((s[0]'hd0).toNat : Int) == 48) = true := by simp; omega
      have hc1 : decide (1 < (s.size : Int)) = true := by simp; omega
      rw [if_neg (by rw [hnum]; simp [hz0, h1])] at hR
      subst hR
      clear hnum hz0
      go_enter Tryd.func28, Tryd.ntmps28
      go_wp2_with fail
      refine (l1In_is (s.size : Int) 1 7 _ true (by simp; omega)).mono ?_
      rintro e w1 ⟨rfl, hw1⟩
      rw [hw1]; clear hw1 w1
      go_wp2
      all_goals exact bodyPost_ret (v := .tuple #[.int .i64 0, .bool false]) (by simp [results, Tryd.results28, go_sem]) rfl ⟨rfl, rfl⟩
    · have hz : (((s[0]'hd0).toNat : Int) == 48) = true := by simp; omega
      have hc1 : decide (1 < (s.size : Int)) = false := by simp; omega
      have HR := hid hR
      clear hR
      have HN : Hid (numD s.data.toList false = s.data.toList.all digD) := by rw [Hid, hnum]; simp [hz0, h1]
      clear hnum hz0
      go_enter Tryd.func28, Tryd.ntmps28
      go_wp2_with fail
      refine (l1In_is (s.size : Int) 1 7 _ true (by simp; omega)).mono ?_
      rintro e w1 ⟨rfl, hw1⟩
      rw [hw1]; clear hw1 w1
      go_wp2
      go_loop [6, 7] (fun u i => ∃ k : Nat, k ≤ s.size ∧ u = .int .i64 (valD (s.data.toList.take k) 0 : Int) ∧ i = .int .i64 (k : Int) ∧ Hid (∀ d ∈ s.data.toList.take k, digD d = true)) (fun _ i => s.size - (intOf i).toNat)
      case atStart => exact ⟨0, Nat.zero_le _, rfl, rfl, fun d hd => by simp at hd⟩
      case round =>
        obtain ⟨k, hk, rfl, rfl, hall⟩ := hrel
        have hvl := valD_lt (s.data.toList.take k) 0 hall.out
        have hpw : 10 ^ (s.data.toList.take k).length ≤ 10 ^ 7 := Nat.pow_le_pow_right (by omega) (by rw [List.length_take]; omega)
        by_cases hlt : k < s.size
        · have hx := byteI_at hlt
          have hk' : k < s.data.toList.length := by omega
          have hmem : (s[k]'hlt) ∈ s.data.toList := List.getElem_mem hk'
          by_cases hdg : 48 ≤ (s[k]'hlt).toNat ∧ (s[k]'hlt).toNat ≤ 57
          · obtain ⟨g1, g2⟩ := hdg
            have HS := hid (valD_succ hk')
            have HT := hid (show ∀ d ∈ s.data.toList.take (k + 1), digD d = true from fun d hd => by
              rw [List.take_add_one, List.getElem?_eq_getElem hk'] at hd
              rcases List.mem_append.1 hd with hd | hd
              · exact hall.out d hd
              · have e : d = s[k]'hlt := List.mem_singleton.1 (show d ∈ [s[k]'hlt] from hd)
                rw [e, digD]; simp [g1, g2])
            have HB := hid (byte_list hlt)
            obtain ⟨x, ex⟩ : ∃ x : Nat, x = (s[k]'hlt).toNat := ⟨_, rfl⟩
            have HX := hid ex
            have g1' : decide (((s[k]'hlt).toNat : Int) < 48) = false := by simp; omega
            have g2' : decide (57 < ((s[k]'hlt).toNat : Int)) = false := by simp; omega
            have hw8 : IntKind.u8.wrap (((s[k]'hlt).toNat : Int) - 48) = ((s[k]'hlt).toNat : Int) - 48 := by show (((s[k]'hlt).toNat : Int) - 48) % 256 = _; omega
            rw [← ex] at g1' g2' hw8
            obtain ⟨v, ev⟩ : ∃ v : Nat, v = valD (s.data.toList.take k) 0 := ⟨_, rfl⟩
            rw [← ev] at hvl ⊢
            have HV := hid ev
            have hvb : v < 10 ^ 7 := by omega
            clear hmem hall hx ev hvl hpw
            have ex2 := ex
            clear ex
            go_wp2
            go_round
            case rel => exact ⟨k + 1, by omega, by rw [HS.out, ← HV.out, HB.out]; go_num, by go_num, HT⟩
            case measure => simp [intOf]; omega
          · have HF : Hid (numD s.data.toList false = false) := by
              rw [Hid, HN.out, List.all_eq_false]
              refine ⟨_, hmem, ?_⟩
              simp only [digD]; simp; omega
            by_cases g1 : (s[k]'hlt).toNat < 48
            · have g1' : decide (((s[k]'hlt).toNat : Int) < 48) = true := by simp; omega
              clear hmem hall hx
              go_wp2
              refine bodyPost_ret (v := .tuple #[.int .i64 0, .bool false]) (by simp [results, Tryd.results28, go_sem]) rfl ⟨?_, rfl⟩
              rw [HR.out, if_neg (by rw [HF.out]; simp)]
            · have g1' : decide (((s[k]'hlt).toNat : Int) < 48) = false := by simp; omega
              have g2' : decide (57 < ((s[k]'hlt).toNat : Int)) = true := by simp; omega
              clear hmem hall hx
              go_wp2
              refine bodyPost_ret (v := .tuple #[.int .i64 0, .bool false]) (by simp [results, Tryd.results28, go_sem]) rfl ⟨?_, rfl⟩
              rw [HR.out, if_neg (by rw [HF.out]; simp)]
        · obtain rfl : k = s.size := by omega
          have HT : Hid (numD s.data.toList false = true) := by
            rw [Hid, HN.out, List.all_eq_true]
            have := hall.out
            rw [List.take_of_length_le (by omega)] at this
            exact this
          rw [List.take_of_length_le (by omega)] at hvl ⊢
          rw [List.take_of_length_le (by omega)] at hpw
          have hR2 := HR.out
          rw [if_pos HT.out] at hR2
          obtain ⟨v, ev⟩ : ∃ v : Nat, v = valD s.data.toList 0 := ⟨_, rfl⟩
          rw [← ev] at hvl hR2 ⊢
          have hvb : v < 10 ^ 7 := by omega
          subst hR2
          clear ev hvl hpw
          go_wp2
          exact bodyPost_ret (v := .tuple #[.int .i64 (v : Int), .bool true]) (by simp [results, Tryd.results28, go_sem]) rfl ⟨rfl, rfl⟩
  · have hz : (((s[0]'hd0).toNat : Int) == 48) = false := by simp; omega
    have HR := hid hR
    clear hR
    have HN : Hid (numD s.data.toList false = s.data.toList.all digD) := by rw [Hid, hnum]; simp [hz0]
    clear hnum hz0
    go_enter Tryd.func28, Tryd.ntmps28
    go_wp2_with fail
    refine (l1In_is (s.size : Int) 1 7 _ true (by simp; omega)).mono ?_
    rintro e w1 ⟨rfl, hw1⟩
    rw [hw1]; clear hw1 w1
    go_wp2
    go_loop [6, 7] (fun u i => ∃ k : Nat, k ≤ s.size ∧ u = .int .i64 (valD (s.data.toList.take k) 0 : Int) ∧ i = .int .i64 (k : Int) ∧ Hid (∀ d ∈ s.data.toList.take k, digD d = true)) (fun _ i => s.size - (intOf i).toNat)
    case atStart => exact ⟨0, Nat.zero_le _, rfl, rfl, fun d hd => by simp at hd⟩
    case round =>
      obtain ⟨k, hk, rfl, rfl, hall⟩ := hrel
      have hvl := valD_lt (s.data.toList.take k) 0 hall.out
      have hpw : 10 ^ (s.data.toList.take k).length ≤ 10 ^ 7 := Nat.pow_le_pow_right (by omega) (by rw [List.length_take]; omega)
      by_cases hlt : k < s.size
      · have hx := byteI_at hlt
        have hk' : k < s.data.toList.length := by omega
        have hmem : (s[k]'hlt) ∈ s.data.toList := List.getElem_mem hk'
        by_cases hdg : 48 ≤ (s[k]'hlt).toNat ∧ (s[k]'hlt).toNat ≤ 57
        · obtain ⟨g1, g2⟩ := hdg
          have HS := hid (valD_succ hk')
          have HT := hid (show ∀ d ∈ s.data.toList.take (k + 1), digD d = true from fun d hd => by
            rw [List.take_add_one, List.getElem?_eq_getElem hk'] at hd
            rcases List.mem_append.1 hd with hd | hd
            · exact hall.out d hd
            · have e : d = s[k]'hlt := List.mem_singleton.1 (show d ∈ [s[k]'hlt] from hd)
              rw [e, digD]; simp [g1, g2])
          have HB := hid (byte_list hlt)
          obtain ⟨x, ex⟩ : ∃ x : Nat, x = (s[k]'hlt).toNat := ⟨_, rfl⟩
          have HX := hid ex
          have g1' : decide (((s[k]'hlt).toNat : Int) < 48) = false := by simp; omega
          have g2' : decide (57 < ((s[k]'hlt).toNat : Int)) = false := by simp; omega
          have hw8 : IntKind.u8.wrap (((s[k]'hlt).toNat : Int) - 48) = ((s[k]'hlt).toNat : Int) - 48 := by show (((s[k]'hlt).toNat : Int) - 48) % 256 = _; omega
          rw [← ex] at g1' g2' hw8
          obtain ⟨v, ev⟩ : ∃ v : Nat, v = valD (s.data.toList.take k) 0 := ⟨_, rfl⟩
          rw [← ev] at hvl ⊢
          have HV := hid ev
          have hvb : v < 10 ^ 7 := by omega
          clear hmem hall hx ev hvl hpw
          have ex2 := ex
          clear ex
          go_wp2
          go_round
          case rel => exact ⟨k + 1, by omega, by rw [HS.out, ← HV.out, HB.out]; go_num, by go_num, HT⟩
          case measure => simp [intOf]; omega
        · have HF : Hid (numD s.data.toList false = false) := by
            rw [Hid, HN.out, List.all_eq_false]
            refine ⟨_, hmem, ?_⟩
            simp only [digD]; simp; omega
          by_cases g1 : (s[k]'hlt).toNat < 48
          · have g1' : decide (((s[k]'hlt).toNat : Int) < 48) = true := by simp; omega
            clear hmem hall hx
            go_wp2
            refine bodyPost_ret (v := .tuple #[.int .i64 0, .bool false]) (by simp [results, Tryd.results28, go_sem]) rfl ⟨?_, rfl⟩
            rw [HR.out, if_neg (by rw [HF.out]; simp)]
          · have g1' : decide (((s[k]'hlt).toNat : Int) < 48) = false := by simp; omega
            have g2' : decide (57 < ((s[k]'hlt).toNat : Int)) = true := by simp; omega
            clear hmem hall hx
            go_wp2
            refine bodyPost_ret (v := .tuple #[.int .i64 0, .bool false]) (by simp [results, Tryd.results28, go_sem]) rfl ⟨?_, rfl⟩
            rw [HR.out, if_neg (by rw [HF.out]; simp)]
      · obtain rfl : k = s.size := by omega
        have HT : Hid (numD s.data.toList false = true) := by
          rw [Hid, HN.out, List.all_eq_true]
          have := hall.out
          rw [List.take_of_length_le (by omega)] at this
          exact this
        rw [List.take_of_length_le (by omega)] at hvl ⊢
        rw [List.take_of_length_le (by omega)] at hpw
        have hR2 := HR.out
        rw [if_pos HT.out] at hR2
        obtain ⟨v, ev⟩ : ∃ v : Nat, v = valD s.data.toList 0 := ⟨_, rfl⟩
        rw [← ev] at hvl hR2 ⊢
        have hvb : v < 10 ^ 7 := by omega
        subst hR2
        clear ev hvl hpw
        go_wp2
        exact bodyPost_ret (v := .tuple #[.int .i64 (v : Int), .bool true]) (by simp [results, Tryd.results28, go_sem]) rfl ⟨rfl, rfl⟩
end Go.Proofs.YtekadjjofcicaaaDoor
