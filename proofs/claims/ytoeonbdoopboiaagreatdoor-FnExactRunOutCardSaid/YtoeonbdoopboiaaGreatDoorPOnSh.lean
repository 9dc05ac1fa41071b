/- Ints of which none is twice there; rows of ints copied. No conditions but those written. Names, on both sides. No conditions but those written. Stages: when they are good, on both sides. No conditions but those written. Stages: when the program finds them good, and what it keeps of each kind. No conditions but those written. -/
import Derived.Test.YtoeonbdoopboiaaGreatDoorPDpFx
import Derived.Test.YtoeonbdoopboiaaGreatDoorPGenBx
import Derived.Laws.IdiomStrings
import Derived.Laws.EntriesVeiled
namespace Go.Proofs.YtoeonbdoopboiaaGreatDoor
section
open Go.RowKit

/-- None twice. -/
def onceB (q : List Int) : Bool := decide q.Nodup
theorem nodup_take {q : List Int} {k : Nat} (hk : k < q.length) (h : q.Nodup) : el q k ∉ q.take k := by
  have h2 := h
  rw [← List.take_append_drop k q, List.nodup_append] at h2
  intro hm
  refine h2.2.2 _ hm _ ?_ rfl
  rw [el_at hk, List.drop_eq_getElem_cons hk]; exact List.mem_cons_self
theorem nodup_succ {q : List Int} {k : Nat} (hk : k < q.length) (h : (q.take k).Nodup) (hn : el q k ∉ q.take k) : (q.take (k + 1)).Nodup := by
  rw [take_succ_el hk, List.nodup_append]
  exact ⟨h, by simp, fun a ha b hb e => hn (by simp at hb; rw [← hb, ← e]; exact ha)⟩
theorem onceB_no {q : List Int} (k : Nat) (hk : k < q.length) (h : hasB (q.take k) (el q k) = true) : onceB q = false := by
  simp only [onceB, decide_eq_false_iff_not]; intro hn
  exact nodup_take hk hn (by simpa [hasB] using h)
theorem onceB_yes {q : List Int} (h : (q.take q.length).Nodup) : onceB q = true := by
  rw [List.take_length] at h; simpa [onceB] using h
theorem contains_of (n₀ : Nat) (ao : Option Addr) (len cap : Nat) (zs : List Int) (n : Int) (w : World) (b : Bool) (hlen : zs.length = len) (hl : zs.length ≤ 1048576) (hz : kI.In n₀ w ao zs) (hb : hasB zs n = b) :
    Calls Tryz.prog 104 #[.slice ao len cap, .int .i64 n] w fun e w' => e = .returned (.bool b) ∧ w' = w := by
  subst hlen; exact contains_is n₀ ao cap zs n w b hl hz hb
set_option maxHeartbeats 2000000 in
theorem noneTwice_is (n₀ : Nat) (ao : Option Addr) (cap : Nat) (q : List Int) (w : World) (x : Bool) (hl : q.length ≤ 1048576) (hc : q.length ≤ cap) (hz : kI.In n₀ w ao q) (hx : onceB q = x) :
    Calls Tryz.prog 197 #[.slice ao q.length cap] w fun e w' => e = .returned (.bool x) ∧ w' = w := by
  have HX : Hid (onceB q = x) := hx
  clear hx
  go_enter Tryz.func197, Tryz.ntmps197
  go_wp2
  go_loop [7] (fun i => ∃ k : Nat, k ≤ q.length ∧ i = .int .i64 k ∧ Hid ((q.take k).Nodup)) (fun i => q.length - (intOf i).toNat)
  case atStart => exact ⟨0, Nat.zero_le _, rfl, by simp [Hid]⟩
  case round =>
    obtain ⟨k, hk, rfl, hno⟩ := hrel
    by_cases hlt : k < q.length
    · have HZ : Hid (kI.In n₀ w ao q) := hz
      obtain ⟨b, off, rfl, hb, hcs⟩ := ints_at hz hlt
      have hck := hcs k hlt
      clear hcs hz
      obtain ⟨y, ey⟩ : ∃ x, x = el q k := ⟨_, rfl⟩
      rw [← ey] at hck
      have HY : Hid (y = el q k) := ey
      clear ey
      cases hm : hasB (q.take k) y
      · have HM : Hid (hasB (q.take k) y = false) := hm
        clear hm
        go_wp2_with fail
        refine (contains_of n₀ _ k cap (q.take k) y _ false (by simp; omega) (by simp; omega) (HZ.out.take k) HM.out).mono ?_
        rintro e w1 ⟨rfl, rfl⟩
        go_wp2
        go_round
        case rel => exact ⟨k + 1, by omega, by go_num, nodup_succ hlt hno.out (by rw [← HY.out]; simpa [hasB] using HM.out)⟩
        case measure => simp [intOf]; omega
      · have HM : Hid (hasB (q.take k) y = true) := hm
        have HF : Hid (x = false) := by rw [Hid, ← HX.out]; exact onceB_no k hlt (by rw [← HY.out]; exact hm)
        clear hm
        go_wp2_with fail
        refine (contains_of n₀ _ k cap (q.take k) y _ true (by simp; omega) (by simp; omega) (HZ.out.take k) HM.out).mono ?_
        rintro e w1 ⟨rfl, rfl⟩
        go_wp2
        go_ret
        exact ⟨ret_bool HF.out.symm, rfl⟩
    · obtain rfl : k = q.length := by omega
      have HF : Hid (x = true) := by rw [Hid, ← HX.out]; exact onceB_yes hno.out
      go_wp2
      go_ret
      exact ⟨ret_bool HF.out.symm, rfl⟩
theorem l1Has_of (n₀ : Nat) (ao : Option Addr) (len cap : Nat) (zs : List Int) (n : Int) (w : World) (b : Bool) (hlen : zs.length = len) (hl : zs.length ≤ 1048576) (hz : kI.In n₀ w ao zs) (hb : hasB zs n = b) :
    Calls Tryz.prog 116 #[.slice ao len cap, .int .i64 n] w fun e w' => e = .returned (.bool b) ∧ w' = w := by
  subst hlen; exact l1Has_is n₀ ao cap zs n w b hl hz hb
set_option maxHeartbeats 1000000 in
theorem copyListI_any (ao : Option Addr) (cap : Nat) (ts : List (Int)) (w : World) (hl : ts.length ≤ 1048576) (hz : kI.In w.heap.size w ao ts) :
    Calls Tryz.prog 161 #[.slice ao ts.length cap] w fun e w' => (∃ t9, e = .returned (.slice t9 ts.length ts.length) ∧ kI.Fresh w.heap.size w'.heap.size w' t9 ts.length ts) ∧ Below w.heap.size w w' := by
  by_cases h0 : ts.length = 0
  · obtain rfl : ts = [] := List.length_eq_zero_iff.1 h0
    go_enter Tryz.func161, Tryz.ntmps161
    go_wp2
    go_ret
    exact ⟨⟨none, rfl, .inl rfl⟩, Below.refl _ _⟩
  · have h0' : ((ts.length : Int) == 0) = false := (len1 h0).1
    obtain ⟨i0, z0, hi, hz0, hz1, hz2, hz3⟩ := kI_ok.info
    have HZ : Hid (kI.In w.heap.size w ao ts) := hz
    have hby : i0.bytes * ts.length ≤ 281474976710656 := by have : i0.bytes * ts.length ≤ 4096 * 1048576 := Nat.mul_le_mul hz3 hl; omega
    clear hz
    go_enter Tryz.func161, Tryz.ntmps161
    go_wp2_with (at_make; refine wpList_make_full _ rfl _ _ kI.st rfl w.heap.size kI.ty i0 z0 kI.sz kI_ok.und hi hz0 hz1 .i64 .i64 _ _ ts.length rfl rfl rfl rfl hby (by unfold maxLen; omega) (Nat.le_refl _) ?_; intro w1 hown hgrow; obtain ⟨cur, hcur, hcl, _⟩ := owns_open hown; have hB1 : Below w.heap.size w w1 := (Below.refl _ _).grown hgrow (Nat.le_refl _) (fun k e => by cases e); obtain ⟨w2, hrun, hh, hO⟩ := Kind.run_copy (n := ts.length) (cap := cap) (ty := 3) kI_ok hcur hcl (Nat.le_refl _) HZ.out hB1; have hB2 : Below w.heap.size w w2 := hB1.trans (hO.below (Nat.le_refl _)); have HH := show Hid (_ ∧ _) from And.intro hcl hh; unfold kI at hrun; dsimp only at hrun; clear hown hgrow hcur hh hO hcl)
    go_ret
    have e : cur.drop (ts.length * kI.sz) = [] := List.drop_eq_nil_of_le (by rw [HH.out.1]; exact Nat.le_refl _)
    have hh := HH.out.2
    rw [e, List.append_nil] at hh
    exact ⟨⟨_, rfl, .inr ⟨w.heap.size, rfl, (Array.getElem?_eq_some_iff.1 hh).1, Kind.own_of_heap hh rfl (Nat.le_refl _) (by omega)⟩⟩, hB2⟩
set_option maxHeartbeats 1000000 in
theorem queueOfI_any (ao : Option Addr) (cap : Nat) (ts : List (Int)) (w : World) (hl : ts.length ≤ 1048576) (hz : kI.In w.heap.size w ao ts) :
    Calls Tryz.prog 140 #[.slice ao ts.length cap] w fun e w' => (∃ t9, e = .returned (.agg #[.slice t9 ts.length ts.length]) ∧ kI.Fresh w.heap.size w'.heap.size w' t9 ts.length ts) ∧ Below w.heap.size w w' := by
  go_enter Tryz.func140, Tryz.ntmps140
  go_wp2_with fail
  refine (copyListI_any ao cap ts _ hl (hz.later (below1 _ _))).mono ?_
  rintro e w1 ⟨⟨go, rfl, hO⟩, hb1⟩
  have hB1 := (below1 w (.cells #[.slice none 0 0] 174)).trans (hb1.mono (by simp))
  have c1 : w1.cell? ⟨w.heap.size, 0, none⟩ = some (.slice none 0 0) := (hb1.cell (p := ⟨w.heap.size, 0, none⟩) (by simp)).trans (by simp [go_sem])
  have f1 : w1.frozen? ⟨w.heap.size, 0, none⟩ = false := (hb1.frozen (p := ⟨w.heap.size, 0, none⟩) (by simp)).trans (by simp [go_sem])
  have HO : Hid (kI.Fresh (w.heap.size + 1) w1.heap.size w1 go ts.length ts) := by rw [World.size_alloc] at hO; exact hO
  clear hO hb1
  go_wp2
  refine bodyPost_ret (v := .agg #[.slice go ts.length ts.length]) (by simp [results, Tryz.results140, go_sem, c1]) rfl ⟨⟨go, rfl, ?_⟩, ?_⟩
  · exact (HO.out.setBelow (by simp) _).wide (by omega) (by simp)
  · exact hB1.setCell (p := ⟨w.heap.size, 0, none⟩) (Nat.le_refl _) _
theorem run_field174 (a : Option Addr) (n c : Nat) (w : World) : (Instr.field 174 (.agg #[.slice a n c]) 0).run Tryz.prog w = .ok (.slice a n c) w := by
  simp [Instr.field, go_sem, run_underlying Tryz.underlying174, asAgg]
end
section
open Go.RowKit

/-- A letter. -/
def letB (x : Int) : Bool := (decide (97 ≤ x) && decide (x ≤ 122)) || (decide (65 ≤ x) && decide (x ≤ 90))
def byteI (b : ByteArray) (k : Nat) : Int := if h : k < b.size then (b[k].toNat : Int) else 0
theorem byteI_at {b : ByteArray} {k : Nat} (h : k < b.size) : byteI b k = (b[k].toNat : Int) := by rw [byteI, dif_pos h]
/-- A name. -/
def nameB (b : ByteArray) : Bool := (decide (1 ≤ b.size) && decide (b.size ≤ 12)) && (List.range b.size).all fun k => letB (byteI b k)
theorem nameB_no {b : ByteArray} {k : Nat} (h : k < b.size) (hk : letB (byteI b k) = false) : nameB b = false := by
  rw [nameB, Bool.and_eq_false_iff]
  right
  rw [List.all_eq_false]
  exact ⟨k, List.mem_range.2 h, by simp [hk]⟩
theorem nameB_yes {b : ByteArray} (h1 : 1 ≤ b.size) (h2 : b.size ≤ 12) (h : ∀ k, k < b.size → letB (byteI b k) = true) : nameB b = true := by
  rw [nameB, Bool.and_eq_true]
  refine ⟨by simp [h1, h2], ?_⟩
  rw [List.all_eq_true]
  intro k hk
  exact h k (List.mem_range.1 hk)
theorem nameB_size {b : ByteArray} (h : b.size < 1 ∨ 12 < b.size) : nameB b = false := by
  rw [nameB, Bool.and_eq_false_iff]
  left
  simp; omega
set_option maxHeartbeats 2000000 in
theorem l1Name_is (b : ByteArray) (w : World) (hs : b.size ≤ 9223372036854775807) :
    Calls Tryz.prog 114 #[.string b] w fun e w' => e = .returned (.bool (nameB b)) ∧ w' = w := by
  by_cases hn : b.size < 1 ∨ 12 < b.size
  · rw [nameB_size hn]
    go_enter Tryz.func114, Tryz.ntmps114
    go_wp2_with fail
    refine (l1In_is b.size 1 12 _ false (by simp; omega)).mono ?_
    rintro e w1 ⟨rfl, rfl⟩
    go_wp2
    go_ret
    exact ⟨rfl, rfl⟩
  · go_enter Tryz.func114, Tryz.ntmps114
    go_wp2_with fail
    refine (l1In_is b.size 1 12 _ true (by simp; omega)).mono ?_
    rintro e w1 ⟨rfl, rfl⟩
    go_wp2
    go_loop [3] (fun i => ∃ k : Nat, i = .int .i64 (k : Int) ∧ k ≤ b.size ∧ Hid (∀ j, j < k → letB (byteI b j) = true)) (fun i => b.size - (intOf i).toNat)
    case atStart => exact ⟨0, rfl, Nat.zero_le _, fun j hj => by omega⟩
    case round =>
      obtain ⟨k, rfl, hk, hA⟩ := hrel
      by_cases hlt : k < b.size
      · have hx := hid (byteI_at hlt)
        rcases (show (b[k].toNat : Int) < 65 ∨ (65 ≤ (b[k].toNat : Int) ∧ (b[k].toNat : Int) ≤ 90) ∨ (90 < (b[k].toNat : Int) ∧ (b[k].toNat : Int) < 97) ∨ (97 ≤ (b[k].toNat : Int) ∧ (b[k].toNat : Int) ≤ 122) ∨ 122 < (b[k].toNat : Int) from by omega) with h | ⟨h, h'⟩ | ⟨h, h'⟩ | ⟨h, h'⟩ | h
        · have q1 : ¬ (97 ≤ (b[k].toNat : Int)) := by omega
          have q2 : (b[k].toNat : Int) ≤ 122 := by omega
          have q3 : ¬ (65 ≤ (b[k].toNat : Int)) := by omega
          have q4 : (b[k].toNat : Int) ≤ 90 := by omega
          go_wp2
          all_goals first
            | (exfalso; omega)
            | (go_ret; refine ⟨ret_bool ?_, rfl⟩; rw [nameB_no hlt (by rw [hx.out]; rw [letB]; simp; omega)])
        · have q1 : ¬ (97 ≤ (b[k].toNat : Int)) := by omega
          have q2 : (b[k].toNat : Int) ≤ 122 := by omega
          have q3 : 65 ≤ (b[k].toNat : Int) := by omega
          have q4 : (b[k].toNat : Int) ≤ 90 := by omega
          go_wp2
          all_goals
            refine ⟨⟨k + 1, by go_num, by omega, fun j hj => ?_⟩, by simp [intOf]; omega⟩
            rcases Nat.lt_succ_iff_lt_or_eq.1 hj with h1 | rfl
            · exact hA.out j h1
            · rw [hx.out]; rw [letB]; simp; omega
        · have q1 : ¬ (97 ≤ (b[k].toNat : Int)) := by omega
          have q2 : (b[k].toNat : Int) ≤ 122 := by omega
          have q3 : 65 ≤ (b[k].toNat : Int) := by omega
          have q4 : ¬ ((b[k].toNat : Int) ≤ 90) := by omega
          go_wp2
          all_goals first
            | (exfalso; omega)
            | (go_ret; refine ⟨ret_bool ?_, rfl⟩; rw [nameB_no hlt (by rw [hx.out]; rw [letB]; simp; omega)])
        · have q1 : 97 ≤ (b[k].toNat : Int) := by omega
          have q2 : (b[k].toNat : Int) ≤ 122 := by omega
          have q3 : 65 ≤ (b[k].toNat : Int) := by omega
          have q4 : ¬ ((b[k].toNat : Int) ≤ 90) := by omega
          go_wp2
          all_goals
            refine ⟨⟨k + 1, by go_num, by omega, fun j hj => ?_⟩, by simp [intOf]; omega⟩
            rcases Nat.lt_succ_iff_lt_or_eq.1 hj with h1 | rfl
            · exact hA.out j h1
            · rw [hx.out]; rw [letB]; simp; omega
        · have q1 : 97 ≤ (b[k].toNat : Int) := by omega
          have q2 : ¬ ((b[k].toNat : Int) ≤ 122) := by omega
          have q3 : 65 ≤ (b[k].toNat : Int) := by omega
          have q4 : ¬ ((b[k].toNat : Int) ≤ 90) := by omega
          go_wp2
          all_goals first
            | (exfalso; omega)
            | (go_ret; refine ⟨ret_bool ?_, rfl⟩; rw [nameB_no hlt (by rw [hx.out]; rw [letB]; simp; omega)])
      · go_wp2
        go_ret
        exact ⟨ret_bool (nameB_yes (by omega) (by omega) fun j hj => hA.out j (by omega)).symm, rfl⟩
/-- The bytes of a text, laid. -/
theorem bytes_laid (b : ByteArray) (w : World) : ∃ C V, (convert 9 123 (.string b)).run Tryz.prog w = .ok (.slice (some ⟨w.heap.size, 0, none⟩) b.size C) V ∧ Below w.heap.size w V ∧ ∀ j, j < b.size → V.cell? ⟨w.heap.size, j, none⟩ = some (.int .u8 (byteI b j)) := by
  refine ⟨_, _, run_bytes_of_string (P := Tryz.prog) w 9 123 5 b Tryz.underlying9 Tryz.underlying123 Tryz.underlying5, ?_, fun j hj => ?_⟩
  · exact ((Below.refl _ _).drew).alloc (Nat.le_refl _) _
  · have h := World.cell?_alloc_mark w.drew (bytesRow b (grownCap w b.size 0 5)) 5 ((bytesRow b (grownCap w b.size 0 5)).size, (bytesRow b (grownCap w b.size 0 5)).size + 1) j
    rw [show w.drew.heap.size = w.heap.size from rfl] at h
    rw [h, bytesRow_at b _ j hj, byteI_at hj]; rfl
set_option maxRecDepth 10000 in
set_option maxHeartbeats 2000000 in
theorem isName_is (b : ByteArray) (w : World) (hs : b.size ≤ 9223372036854775807) :
    Calls Tryz.prog 179 #[.string b] w fun e w' => e = .returned (.bool (nameB b)) ∧ Below w.heap.size w w' := by
  by_cases hn1 : b.size < 1
  · rw [nameB_size (.inl hn1)]
    go_enter Tryz.func179, Tryz.ntmps179
    go_wp2
    go_ret
    exact ⟨rfl, Below.refl _ _⟩
  by_cases hn2 : 12 < b.size
  · rw [nameB_size (.inr hn2)]
    go_enter Tryz.func179, Tryz.ntmps179
    go_wp2
    go_ret
    exact ⟨rfl, Below.refl _ _⟩
  obtain ⟨C, V, hconv, hB, hc⟩ := bytes_laid b w
  have HB := hid hB
  have HC := hid hc
  clear hB hc
  go_enter Tryz.func179, Tryz.ntmps179
  go_wp2
  go_loop [16] (fun i => ∃ k : Nat, i = .int .i64 (k : Int) ∧ k ≤ b.size ∧ Hid (∀ j, j < k → letB (byteI b j) = true)) (fun i => b.size - (intOf i).toNat)
  case atStart => exact ⟨0, rfl, Nat.zero_le _, fun j hj => by omega⟩
  case round =>
    obtain ⟨k, rfl, hk, hA⟩ := hrel
    by_cases hlt : k < b.size
    · have hx := HC.out k hlt
      obtain ⟨x, ex⟩ : ∃ x, x = byteI b k := ⟨_, rfl⟩
      rw [← ex] at hx
      have HX := hid ex
      clear ex
      rcases (show x < 65 ∨ (65 ≤ x ∧ x ≤ 90) ∨ (90 < x ∧ x < 97) ∨ (97 ≤ x ∧ x ≤ 122) ∨ 122 < x from by omega) with h | ⟨h, h'⟩ | ⟨h, h'⟩ | ⟨h, h'⟩ | h
      · have q1 : ¬ (97 ≤ x) := by omega
        have q2 : x ≤ 122 := by omega
        have q3 : ¬ (65 ≤ x) := by omega
        have q4 : x ≤ 90 := by omega
        go_wp2
        all_goals first
          | (exfalso; omega)
          | (go_ret; refine ⟨ret_bool ?_, HB.out⟩; rw [nameB_no hlt (by rw [← HX.out]; rw [letB]; simp; omega)])
      · have q1 : ¬ (97 ≤ x) := by omega
        have q2 : x ≤ 122 := by omega
        have q3 : 65 ≤ x := by omega
        have q4 : x ≤ 90 := by omega
        go_wp2
        all_goals
          refine ⟨⟨k + 1, by go_num, by omega, fun j hj => ?_⟩, by simp [intOf]; omega⟩
          rcases Nat.lt_succ_iff_lt_or_eq.1 hj with h1 | rfl
          · exact hA.out j h1
          · rw [← HX.out]; rw [letB]; simp; omega
      · have q1 : ¬ (97 ≤ x) := by omega
        have q2 : x ≤ 122 := by omega
        have q3 : 65 ≤ x := by omega
        have q4 : ¬ (x ≤ 90) := by omega
        go_wp2
        all_goals first
          | (exfalso; omega)
          | (go_ret; refine ⟨ret_bool ?_, HB.out⟩; rw [nameB_no hlt (by rw [← HX.out]; rw [letB]; simp; omega)])
      · have q1 : 97 ≤ x := by omega
        have q2 : x ≤ 122 := by omega
        have q3 : 65 ≤ x := by omega
        have q4 : ¬ (x ≤ 90) := by omega
        go_wp2
        all_goals
          refine ⟨⟨k + 1, by go_num, by omega, fun j hj => ?_⟩, by simp [intOf]; omega⟩
          rcases Nat.lt_succ_iff_lt_or_eq.1 hj with h1 | rfl
          · exact hA.out j h1
          · rw [← HX.out]; rw [letB]; simp; omega
      · have q1 : 97 ≤ x := by omega
        have q2 : ¬ (x ≤ 122) := by omega
        have q3 : 65 ≤ x := by omega
        have q4 : ¬ (x ≤ 90) := by omega
        go_wp2
        all_goals first
          | (exfalso; omega)
          | (go_ret; refine ⟨ret_bool ?_, HB.out⟩; rw [nameB_no hlt (by rw [← HX.out]; rw [letB]; simp; omega)])
    · go_wp2
      go_ret
      exact ⟨ret_bool (nameB_yes (by omega) (by omega) fun j hj => hA.out j (by omega)).symm, HB.out⟩
end
section
open Go.RowKit

/-- A number is a value. -/
def valB (n : Int) : Bool := decide (-1000000 ≤ n) && decide (n ≤ 1000000)
/-- A stage is good. -/
def goodSt (k a b : Int) : Bool :=
  if k = 1 then (decide (-100 ≤ a) && decide (a ≤ 100)) && valB b
  else if k = 2 ∨ k = 4 then (decide (1 ≤ a) && decide (a ≤ 1000)) && (decide (0 ≤ b) && decide (b ≤ a - 1))
  else if k = 3 then (decide (1 ≤ a) && decide (a ≤ 3)) && (decide (-1000 ≤ b) && decide (b ≤ 1000))
  else false
theorem goodSt1 (a b : Int) : goodSt 1 a b = ((decide (-100 ≤ a) && decide (a ≤ 100)) && valB b) := rfl
theorem goodSt2 (a b : Int) : goodSt 2 a b = ((decide (1 ≤ a) && decide (a ≤ 1000)) && (decide (0 ≤ b) && decide (b ≤ a - 1))) := rfl
theorem goodSt4 (a b : Int) : goodSt 4 a b = ((decide (1 ≤ a) && decide (a ≤ 1000)) && (decide (0 ≤ b) && decide (b ≤ a - 1))) := rfl
theorem goodSt3 (a b : Int) : goodSt 3 a b = ((decide (1 ≤ a) && decide (a ≤ 3)) && (decide (-1000 ≤ b) && decide (b ≤ 1000))) := rfl
theorem goodSt0 {k a b : Int} (h1 : k ≠ 1) (h2 : k ≠ 2) (h3 : k ≠ 3) (h4 : k ≠ 4) : goodSt k a b = false := by
  unfold goodSt; rw [if_neg h1, if_neg (by omega), if_neg h3]
/-- The kind is one of the four, or none. -/
theorem kinds (k : Int) : k = 1 ∨ k = 2 ∨ k = 3 ∨ k = 4 ∨ (k ≠ 1 ∧ k ≠ 2 ∧ k ≠ 3 ∧ k ≠ 4) := by omega
set_option maxHeartbeats 400000 in
theorem l7Value_is (n : Int) (w : World) (b : Bool) (hb : valB n = b) :
    Calls Tryz.prog 120 #[.int .i64 n] w fun e w' => e = .returned (.bool b) ∧ w' = w := by
  go_enter Tryz.func120, Tryz.ntmps120
  go_wp2_with fail
  refine (l1In_is n (-1000000) 1000000 _ b hb).mono ?_
  rintro e w1 ⟨rfl, rfl⟩
  go_wp2
  go_ret
  exact ⟨rfl, rfl⟩
set_option maxHeartbeats 400000 in
theorem isValue_is (n : Int) (w : World) (b : Bool) (hb : valB n = b) :
    Calls Tryz.prog 156 #[.int .i64 n] w fun e w' => e = .returned (.bool b) ∧ w' = w := by
  subst hb
  by_cases h : -1000000 ≤ n
  · go_enter Tryz.func156, Tryz.ntmps156
    go_wp2
    go_ret
    exact ⟨ret_bool (by simp [h, valB]), rfl⟩
  · have h' : decide (-1000000 ≤ n) = false := by simpa using h
    go_enter Tryz.func156, Tryz.ntmps156
    go_wp2
    go_ret
    exact ⟨ret_bool (by simp [valB]; omega), rfl⟩
set_option maxHeartbeats 4000000 in
theorem specGood_is (k a b : Int) (w : World) (r : Bool) (hr : goodSt k a b = r) :
    Calls Tryz.prog 115 #[.agg #[.int .i64 k, .int .i64 a, .int .i64 b]] w fun e w' => e = .returned (.bool r) ∧ w' = w.alloc (.cells #[.int .i64 k, .int .i64 a, .int .i64 b] 69) := by
  have HR : Hid (goodSt k a b = r) := hr
  clear hr
  rcases kinds k with rfl | rfl | rfl | rfl | ⟨h1, h2, h3, h4⟩
  · rcases hb : (decide (-100 ≤ a) && decide (a ≤ 100)) with _ | _
    · have hc : Hid ((decide (-100 ≤ a) && decide (a ≤ 100)) = false) := hb
      clear hb
      go_enter Tryz.func115, Tryz.ntmps115
      go_wp2_with fail
      refine (l1In_is a (-100) 100 _ _ hc.out).mono ?_
      rintro e w1 ⟨rfl, hw1⟩
      rw [hw1]; clear hw1 w1
      go_wp2
      go_ret
      exact ⟨ret_bool (by rw [← HR.out, goodSt1, hc.out]; rfl), rfl⟩
    · have hc : Hid ((decide (-100 ≤ a) && decide (a ≤ 100)) = true) := hb
      clear hb
      have hd : Hid (r = (valB b)) := by rw [← HR.out, goodSt1, hc.out]; exact Bool.true_and _
      go_enter Tryz.func115, Tryz.ntmps115
      go_wp2_with fail
      refine (l1In_is a (-100) 100 _ _ hc.out).mono ?_
      rintro e w1 ⟨rfl, hw1⟩
      rw [hw1]; clear hw1 w1
      go_wp2_with fail
      refine (l7Value_is b _ _ rfl).mono ?_
      rintro e w1 ⟨rfl, hw1⟩
      rw [hw1]; clear hw1 w1
      rw [← hd.out]
      go_wp2
      go_ret
      exact ⟨rfl, rfl⟩
  · rcases hb : (decide (1 ≤ a) && decide (a ≤ 1000)) with _ | _
    · have hc : Hid ((decide (1 ≤ a) && decide (a ≤ 1000)) = false) := hb
      clear hb
      go_enter Tryz.func115, Tryz.ntmps115
      go_wp2_with fail
      refine (l1In_is a 1 1000 _ _ hc.out).mono ?_
      rintro e w1 ⟨rfl, hw1⟩
      rw [hw1]; clear hw1 w1
      go_wp2
      go_ret
      exact ⟨ret_bool (by rw [← HR.out, goodSt2, hc.out]; rfl), rfl⟩
    · have hc : Hid ((decide (1 ≤ a) && decide (a ≤ 1000)) = true) := hb
      clear hb
      have ha : 1 ≤ a ∧ a ≤ 1000 := by simpa using hc.out
      have hd : Hid (r = (decide (0 ≤ b) && decide (b ≤ a - 1))) := by rw [← HR.out, goodSt2, hc.out]; exact Bool.true_and _
      go_enter Tryz.func115, Tryz.ntmps115
      go_wp2_with fail
      refine (l1In_is a 1 1000 _ _ hc.out).mono ?_
      rintro e w1 ⟨rfl, hw1⟩
      rw [hw1]; clear hw1 w1
      go_wp2_with fail
      refine (l1In_is b 0 (a - 1) _ _ rfl).mono ?_
      rintro e w1 ⟨rfl, hw1⟩
      rw [hw1]; clear hw1 w1
      rw [← hd.out]
      go_wp2
      go_ret
      exact ⟨rfl, rfl⟩
  · rcases hb : (decide (1 ≤ a) && decide (a ≤ 3)) with _ | _
    · have hc : Hid ((decide (1 ≤ a) && decide (a ≤ 3)) = false) := hb
      clear hb
      go_enter Tryz.func115, Tryz.ntmps115
      go_wp2_with fail
      refine (l1In_is a 1 3 _ _ hc.out).mono ?_
      rintro e w1 ⟨rfl, hw1⟩
      rw [hw1]; clear hw1 w1
      go_wp2
      go_ret
      exact ⟨ret_bool (by rw [← HR.out, goodSt3, hc.out]; rfl), rfl⟩
    · have hc : Hid ((decide (1 ≤ a) && decide (a ≤ 3)) = true) := hb
      clear hb
      have hd : Hid (r = (decide (-1000 ≤ b) && decide (b ≤ 1000))) := by rw [← HR.out, goodSt3, hc.out]; exact Bool.true_and _
      go_enter Tryz.func115, Tryz.ntmps115
      go_wp2_with fail
      refine (l1In_is a 1 3 _ _ hc.out).mono ?_
      rintro e w1 ⟨rfl, hw1⟩
      rw [hw1]; clear hw1 w1
      go_wp2_with fail
      refine (l1In_is b (-1000) 1000 _ _ rfl).mono ?_
      rintro e w1 ⟨rfl, hw1⟩
      rw [hw1]; clear hw1 w1
      rw [← hd.out]
      go_wp2
      go_ret
      exact ⟨rfl, rfl⟩
  · rcases hb : (decide (1 ≤ a) && decide (a ≤ 1000)) with _ | _
    · have hc : Hid ((decide (1 ≤ a) && decide (a ≤ 1000)) = false) := hb
      clear hb
      go_enter Tryz.func115, Tryz.ntmps115
      go_wp2_with fail
      refine (l1In_is a 1 1000 _ _ hc.out).mono ?_
      rintro e w1 ⟨rfl, hw1⟩
      rw [hw1]; clear hw1 w1
      go_wp2
      go_ret
      exact ⟨ret_bool (by rw [← HR.out, goodSt4, hc.out]; rfl), rfl⟩
    · have hc : Hid ((decide (1 ≤ a) && decide (a ≤ 1000)) = true) := hb
      clear hb
      have ha : 1 ≤ a ∧ a ≤ 1000 := by simpa using hc.out
      have hd : Hid (r = (decide (0 ≤ b) && decide (b ≤ a - 1))) := by rw [← HR.out, goodSt4, hc.out]; exact Bool.true_and _
      go_enter Tryz.func115, Tryz.ntmps115
      go_wp2_with fail
      refine (l1In_is a 1 1000 _ _ hc.out).mono ?_
      rintro e w1 ⟨rfl, hw1⟩
      rw [hw1]; clear hw1 w1
      go_wp2_with fail
      refine (l1In_is b 0 (a - 1) _ _ rfl).mono ?_
      rintro e w1 ⟨rfl, hw1⟩
      rw [hw1]; clear hw1 w1
      rw [← hd.out]
      go_wp2
      go_ret
      exact ⟨rfl, rfl⟩
  · have k1 : (k == 1) = false := by simpa using h1
    have k2 : (k == 2) = false := by simpa using h2
    have k3 : (k == 3) = false := by simpa using h3
    have k4 : (k == 4) = false := by simpa using h4
    have hd : Hid (r = false) := HR.out.symm.trans (goodSt0 h1 h2 h3 h4)
    clear h1 h2 h3 h4
    go_enter Tryz.func115, Tryz.ntmps115
    go_wp2
    go_ret
    exact ⟨ret_bool hd.out.symm, rfl⟩
end
section
open Go.RowKit

set_option maxHeartbeats 2000000 in
theorem goodMap_is (k a b : Int) (w : World) (r : Bool) (hr : ((decide (-100 ≤ a) && decide (a ≤ 100)) && valB b) = r) :
    Calls Tryz.prog 198 #[.agg #[.int .i64 k, .int .i64 a, .int .i64 b]] w fun e w' => e = .returned (.bool r) ∧ w' = w.alloc (.cells #[.int .i64 k, .int .i64 a, .int .i64 b] 69) := by
  subst hr
  by_cases h1 : -100 ≤ a
  · by_cases h2 : a ≤ 100
    · have hd : Hid ((decide (-100 ≤ a) && decide (a ≤ 100) && valB b) = valB b) := by show _ = _; simp [h1, h2]
      rw [hd.out]
      go_enter Tryz.func198, Tryz.ntmps198
      go_wp2_with fail
      refine (isValue_is b _ _ rfl).mono ?_
      rintro e w1 ⟨rfl, hw1⟩
      rw [hw1]; clear hw1 w1
      go_wp2
      go_ret
      exact ⟨rfl, rfl⟩
    · have h2' : decide (a ≤ 100) = false := by simpa using h2
      have hd : Hid ((decide (-100 ≤ a) && decide (a ≤ 100) && valB b) = false) := by show _ = _; simp [h1, h2]
      rw [hd.out]
      go_enter Tryz.func198, Tryz.ntmps198
      go_wp2
      go_ret
      exact ⟨rfl, rfl⟩
  · have h1' : decide (-100 ≤ a) = false := by simpa using h1
    have hd : Hid ((decide (-100 ≤ a) && decide (a ≤ 100) && valB b) = false) := by show _ = _; simp [h1]
    rw [hd.out]
    go_enter Tryz.func198, Tryz.ntmps198
    go_wp2
    go_ret
    exact ⟨rfl, rfl⟩
set_option maxHeartbeats 2000000 in
theorem goodRest_is (k a b : Int) (w : World) (r : Bool) (hr : ((decide (1 ≤ a) && decide (a ≤ 1000)) && (decide (0 ≤ b) && decide (b ≤ a - 1))) = r) :
    Calls Tryz.prog 201 #[.agg #[.int .i64 k, .int .i64 a, .int .i64 b]] w fun e w' => e = .returned (.bool r) ∧ w' = w.alloc (.cells #[.int .i64 k, .int .i64 a, .int .i64 b] 69) := by
  subst hr
  by_cases h0 : 1 ≤ a
  · skip
    by_cases h1 : a ≤ 1000
    · skip
      by_cases h2 : 0 ≤ b
      · skip
        by_cases h3 : b < a
        · skip
          have hd : Hid (((decide (1 ≤ a) && decide (a ≤ 1000)) && (decide (0 ≤ b) && decide (b ≤ a - 1))) = true) := by show _ = _; simp; omega
          rw [hd.out]
          go_enter Tryz.func201, Tryz.ntmps201
          go_wp2
          go_ret
          exact ⟨rfl, rfl⟩
        · have hn : decide (b < a) = false := by simpa using h3
          have hd : Hid (((decide (1 ≤ a) && decide (a ≤ 1000)) && (decide (0 ≤ b) && decide (b ≤ a - 1))) = false) := by show _ = _; rcases hx : ((decide (1 ≤ a) && decide (a ≤ 1000)) && (decide (0 ≤ b) && decide (b ≤ a - 1))) with _ | _ <;> simp at hx <;> first | rfl | omega
          rw [hd.out]
          go_enter Tryz.func201, Tryz.ntmps201
          go_wp2
          go_ret
          exact ⟨rfl, rfl⟩
      · have hn : decide (0 ≤ b) = false := by simpa using h2
        have hd : Hid (((decide (1 ≤ a) && decide (a ≤ 1000)) && (decide (0 ≤ b) && decide (b ≤ a - 1))) = false) := by show _ = _; rcases hx : ((decide (1 ≤ a) && decide (a ≤ 1000)) && (decide (0 ≤ b) && decide (b ≤ a - 1))) with _ | _ <;> simp at hx <;> first | rfl | omega
        rw [hd.out]
        go_enter Tryz.func201, Tryz.ntmps201
        go_wp2
        go_ret
        exact ⟨rfl, rfl⟩
    · have hn : decide (a ≤ 1000) = false := by simpa using h1
      have hd : Hid (((decide (1 ≤ a) && decide (a ≤ 1000)) && (decide (0 ≤ b) && decide (b ≤ a - 1))) = false) := by show _ = _; rcases hx : ((decide (1 ≤ a) && decide (a ≤ 1000)) && (decide (0 ≤ b) && decide (b ≤ a - 1))) with _ | _ <;> simp at hx <;> first | rfl | omega
      rw [hd.out]
      go_enter Tryz.func201, Tryz.ntmps201
      go_wp2
      go_ret
      exact ⟨rfl, rfl⟩
  · have hn : decide (1 ≤ a) = false := by simpa using h0
    have hd : Hid (((decide (1 ≤ a) && decide (a ≤ 1000)) && (decide (0 ≤ b) && decide (b ≤ a - 1))) = false) := by show _ = _; rcases hx : ((decide (1 ≤ a) && decide (a ≤ 1000)) && (decide (0 ≤ b) && decide (b ≤ a - 1))) with _ | _ <;> simp at hx <;> first | rfl | omega
    rw [hd.out]
    go_enter Tryz.func201, Tryz.ntmps201
    go_wp2
    go_ret
    exact ⟨rfl, rfl⟩
set_option maxHeartbeats 2000000 in
theorem goodExpand_is (k a b : Int) (w : World) (r : Bool) (hr : ((decide (1 ≤ a) && decide (a ≤ 3)) && (decide (-1000 ≤ b) && decide (b ≤ 1000))) = r) :
    Calls Tryz.prog 203 #[.agg #[.int .i64 k, .int .i64 a, .int .i64 b]] w fun e w' => e = .returned (.bool r) ∧ w' = w.alloc (.cells #[.int .i64 k, .int .i64 a, .int .i64 b] 69) := by
  subst hr
  by_cases h0 : 1 ≤ a
  · skip
    by_cases h1 : a ≤ 3
    · skip
      by_cases h2 : -1000 ≤ b
      · skip
        by_cases h3 : b ≤ 1000
        · skip
          have hd : Hid (((decide (1 ≤ a) && decide (a ≤ 3)) && (decide (-1000 ≤ b) && decide (b ≤ 1000))) = true) := by show _ = _; simp; omega
          rw [hd.out]
          go_enter Tryz.func203, Tryz.ntmps203
          go_wp2
          go_ret
          exact ⟨rfl, rfl⟩
        · have hn : decide (b ≤ 1000) = false := by simpa using h3
          have hd : Hid (((decide (1 ≤ a) && decide (a ≤ 3)) && (decide (-1000 ≤ b) && decide (b ≤ 1000))) = false) := by show _ = _; rcases hx : ((decide (1 ≤ a) && decide (a ≤ 3)) && (decide (-1000 ≤ b) && decide (b ≤ 1000))) with _ | _ <;> simp at hx <;> first | rfl | omega
          rw [hd.out]
          go_enter Tryz.func203, Tryz.ntmps203
          go_wp2
          go_ret
          exact ⟨rfl, rfl⟩
      · have hn : decide (-1000 ≤ b) = false := by simpa using h2
        have hd : Hid (((decide (1 ≤ a) && decide (a ≤ 3)) && (decide (-1000 ≤ b) && decide (b ≤ 1000))) = false) := by show _ = _; rcases hx : ((decide (1 ≤ a) && decide (a ≤ 3)) && (decide (-1000 ≤ b) && decide (b ≤ 1000))) with _ | _ <;> simp at hx <;> first | rfl | omega
        rw [hd.out]
        go_enter Tryz.func203, Tryz.ntmps203
        go_wp2
        go_ret
        exact ⟨rfl, rfl⟩
    · have hn : decide (a ≤ 3) = false := by simpa using h1
      have hd : Hid (((decide (1 ≤ a) && decide (a ≤ 3)) && (decide (-1000 ≤ b) && decide (b ≤ 1000))) = false) := by show _ = _; rcases hx : ((decide (1 ≤ a) && decide (a ≤ 3)) && (decide (-1000 ≤ b) && decide (b ≤ 1000))) with _ | _ <;> simp at hx <;> first | rfl | omega
      rw [hd.out]
      go_enter Tryz.func203, Tryz.ntmps203
      go_wp2
      go_ret
      exact ⟨rfl, rfl⟩
  · have hn : decide (1 ≤ a) = false := by simpa using h0
    have hd : Hid (((decide (1 ≤ a) && decide (a ≤ 3)) && (decide (-1000 ≤ b) && decide (b ≤ 1000))) = false) := by show _ = _; rcases hx : ((decide (1 ≤ a) && decide (a ≤ 3)) && (decide (-1000 ≤ b) && decide (b ≤ 1000))) with _ | _ <;> simp at hx <;> first | rfl | omega
    rw [hd.out]
    go_enter Tryz.func203, Tryz.ntmps203
    go_wp2
    go_ret
    exact ⟨rfl, rfl⟩
set_option maxHeartbeats 2000000 in
theorem kindOf1_is (a b : Int) (w : World) :
    Calls Tryz.prog 187 #[.agg #[.int .i64 1, .int .i64 a, .int .i64 b]] w fun e w' => e = .returned (.tuple #[.agg #[.func (.func 198) #[] #[], .func (.func 199) #[] #[], .func (.func 200) #[] #[]], .bool true]) ∧ Below w.heap.size w w' := by
  go_enter Tryz.func187, Tryz.ntmps187
  go_wp2
  exact bodyPost_ret (v := .tuple #[.agg #[.func (.func 198) #[] #[], .func (.func 199) #[] #[], .func (.func 200) #[] #[]], .bool true]) (by simp [results, Tryz.results187, go_sem]) rfl ⟨rfl, below2 _ _ _⟩
set_option maxHeartbeats 2000000 in
theorem kindOf2_is (a b : Int) (w : World) :
    Calls Tryz.prog 187 #[.agg #[.int .i64 2, .int .i64 a, .int .i64 b]] w fun e w' => e = .returned (.tuple #[.agg #[.func (.func 201) #[] #[], .func (.func 202) #[] #[], .func (.func 200) #[] #[]], .bool true]) ∧ Below w.heap.size w w' := by
  go_enter Tryz.func187, Tryz.ntmps187
  go_wp2
  exact bodyPost_ret (v := .tuple #[.agg #[.func (.func 201) #[] #[], .func (.func 202) #[] #[], .func (.func 200) #[] #[]], .bool true]) (by simp [results, Tryz.results187, go_sem]) rfl ⟨rfl, below2 _ _ _⟩
set_option maxHeartbeats 2000000 in
theorem kindOf3_is (a b : Int) (w : World) :
    Calls Tryz.prog 187 #[.agg #[.int .i64 3, .int .i64 a, .int .i64 b]] w fun e w' => e = .returned (.tuple #[.agg #[.func (.func 203) #[] #[], .func (.func 204) #[] #[], .func (.func 205) #[] #[]], .bool true]) ∧ Below w.heap.size w w' := by
  go_enter Tryz.func187, Tryz.ntmps187
  go_wp2
  exact bodyPost_ret (v := .tuple #[.agg #[.func (.func 203) #[] #[], .func (.func 204) #[] #[], .func (.func 205) #[] #[]], .bool true]) (by simp [results, Tryz.results187, go_sem]) rfl ⟨rfl, below2 _ _ _⟩
set_option maxHeartbeats 2000000 in
theorem kindOf4_is (a b : Int) (w : World) :
    Calls Tryz.prog 187 #[.agg #[.int .i64 4, .int .i64 a, .int .i64 b]] w fun e w' => e = .returned (.tuple #[.agg #[.func (.func 201) #[] #[], .func (.func 206) #[] #[], .func (.func 200) #[] #[]], .bool true]) ∧ Below w.heap.size w w' := by
  go_enter Tryz.func187, Tryz.ntmps187
  go_wp2
  exact bodyPost_ret (v := .tuple #[.agg #[.func (.func 201) #[] #[], .func (.func 206) #[] #[], .func (.func 200) #[] #[]], .bool true]) (by simp [results, Tryz.results187, go_sem]) rfl ⟨rfl, below2 _ _ _⟩
set_option maxHeartbeats 2000000 in
theorem kindOf0_is (k a b : Int) (w : World) (h1 : k ≠ 1) (h2 : k ≠ 2) (h3 : k ≠ 3) (h4 : k ≠ 4) :
    Calls Tryz.prog 187 #[.agg #[.int .i64 k, .int .i64 a, .int .i64 b]] w fun e w' => e = .returned (.tuple #[.agg #[.nilFunc, .nilFunc, .nilFunc], .bool false]) ∧ Below w.heap.size w w' := by
  have k1 : (k == 1) = false := by simpa using h1
  have k2 : (k == 2) = false := by simpa using h2
  have k3 : (k == 3) = false := by simpa using h3
  have k4 : (k == 4) = false := by simpa using h4
  clear h1 h2 h3 h4
  go_enter Tryz.func187, Tryz.ntmps187
  go_wp2
  exact bodyPost_ret (v := .tuple #[.agg #[.nilFunc, .nilFunc, .nilFunc], .bool false]) (by simp [results, Tryz.results187, go_sem]) rfl ⟨rfl, below2 _ _ _⟩
end
end Go.Proofs.YtoeonbdoopboiaaGreatDoor
