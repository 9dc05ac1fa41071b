/- Tasks in line: the program's look and the specification's. No conditions but those written. -/
import Derived.Test.YtcdkdigafcfgmaaCb
import Derived.Test.YtcdkdigafcfgmaaBx
namespace Go.Proofs.Ytcdkdigafcfgmaa
open Go.RowKit

/-- Those in line are tasks, none of them twice. -/
def lineB (q : List Int) : Bool := decide (q.length ≤ 30) && (q.all taskB && decide q.Nodup)
theorem lineB_long {q : List Int} (h : 30 < q.length) : lineB q = false := by
  have : decide (q.length ≤ 30) = false := by simp; omega
  simp [lineB, this]
theorem lineB_task {q : List Int} (k : Nat) (hk : k < q.length) (h : taskB (el q k) = false) : lineB q = false := by
  have : q.all taskB = false := by
    rw [List.all_eq_false]; exact ⟨el q k, el_mem hk, by simp [h]⟩
  simp [lineB, this]
theorem nodup_take {q : List Int} {k : Nat} (hk : k < q.length) (h : q.Nodup) : el q k ∉ q.take k := by
  have h1 : (q.take (k + 1)).Nodup := h.sublist (List.take_sublist _ _)
  rw [take_succ_el hk] at h1
  intro hm
  exact (List.nodup_append.1 h1).2.2 _ hm _ (by simp) rfl
theorem lineB_twice {q : List Int} (k : Nat) (hk : k < q.length) (h : el q k ∈ q.take k) : lineB q = false := by
  have : decide q.Nodup = false := by simp; exact fun hn => nodup_take hk hn h
  simp [lineB, this]
theorem nodup_succ {q : List Int} {k : Nat} (hk : k < q.length) (h : (q.take k).Nodup) (hn : el q k ∉ q.take k) : (q.take (k + 1)).Nodup := by
  rw [take_succ_el hk]
  exact List.nodup_append.2 ⟨h, by simp, fun a ha b hb e => by simp at hb; subst hb; subst e; exact hn ha⟩
theorem lineB_end {q : List Int} (h : q.length ≤ 30) (hk : ∀ j, j < q.length → taskB (el q j) = true) (hn : (q.take q.length).Nodup) : lineB q = true := by
  have h1 : q.all taskB = true := by
    rw [List.all_eq_true]; intro x hx
    obtain ⟨j, hj, rfl⟩ := mem_el hx
    exact hk j hj
  rw [List.take_length] at hn
  simp [lineB, h, h1, hn]
theorem lineB_len {q : List Int} (h : lineB q = true) : q.length ≤ 30 := by
  simp [lineB] at h; exact h.1

theorem l1Has_of (n₀ : Nat) (ao : Option Addr) (len cap : Nat) (zs : List Int) (n : Int) (w : World) (b : Bool) (hlen : zs.length = len) (hl : zs.length ≤ 1048576) (hz : kI.In n₀ w ao zs) (hb : hasB zs n = b) :
    Calls Try.prog 63 #[.slice ao len cap, .int .i64 n] w fun e w' => e = .returned (.bool b) ∧ w' = w := by
  subst hlen; exact l1Has_is n₀ ao cap zs n w b hl hz hb

set_option maxHeartbeats 2000000 in
theorem l5Tasks_is (n₀ : Nat) (ao : Option Addr) (cap : Nat) (q : List Int) (w : World) (x : Bool) (hl : q.length ≤ 1048576) (hc : q.length ≤ cap) (hz : kI.In n₀ w ao q) (hx : lineB q = x) :
    Calls Try.prog 57 #[.slice ao q.length cap] w fun e w' => e = .returned (.bool x) ∧ w' = w := by
  by_cases h30 : 30 < q.length
  · have HX : Hid (x = false) := by rw [Hid, ← hx, lineB_long h30]
    clear hx
    go_enter Try.func57, Try.ntmps57
    go_wp2
    go_ret
    exact ⟨ret_bool HX.out.symm, rfl⟩
  have h30' : decide ((30 : Int) < (q.length : Int)) = false := by simp; omega
  have HX : Hid (lineB q = x) := hx
  clear hx
  go_enter Try.func57, Try.ntmps57
  go_wp2
  go_loop [10] (fun i => ∃ k : Nat, k ≤ q.length ∧ i = .int .i64 k ∧ Hid ((∀ j, j < k → taskB (el q j) = true) ∧ (q.take k).Nodup)) (fun i => q.length - (intOf i).toNat)
  case atStart => exact ⟨0, Nat.zero_le _, rfl, fun j hj => by omega, by simp⟩
  case round =>
    obtain ⟨k, hk, rfl, hno⟩ := hrel
    by_cases hlt : k < q.length
    · have HZ : Hid (kI.In n₀ w ao q) := hz
      obtain ⟨b, off, rfl, hb, hcs⟩ := ints_at hz hlt
      have hck := hcs k hlt
      clear hcs hz
      obtain ⟨y, ey⟩ : ∃ x, x = el q k := ⟨_, rfl⟩
      rw [← ey] at hck
      have HY : Hid (y = el q k) := ey
      clear ey
      cases hp : taskB y
      · have HP : Hid (taskB y = false) := hp
        have HF : Hid (x = false) := by rw [Hid, ← HX.out]; exact lineB_task k hlt (by rw [← HY.out]; exact HP.out)
        clear hp
        go_wp2_with fail
        refine (l3Task_is y _ false HP.out).mono ?_
        rintro e w1 ⟨rfl, rfl⟩
        go_wp2
        go_ret
        exact ⟨ret_bool HF.out.symm, rfl⟩
      · have HP : Hid (taskB y = true) := hp
        clear hp
        cases hm : hasB (q.take k) y
        · have HM : Hid (hasB (q.take k) y = false) := hm
          clear hm
          go_wp2_with fail
          refine (l3Task_is y _ true HP.out).mono ?_
          rintro e w1 ⟨rfl, rfl⟩
          go_wp2_with fail
          refine (l1Has_of n₀ _ k cap (q.take k) y _ false (by simp; omega) (by simp; omega) (HZ.out.take k) HM.out).mono ?_
          rintro e w1 ⟨rfl, rfl⟩
          go_wp2
          go_round
          case rel => exact ⟨k + 1, by omega, by go_num, fun j hj => by
            rcases Nat.lt_succ_iff_lt_or_eq.1 hj with h | rfl
            · exact hno.out.1 j h
            · rw [← HY.out]; exact HP.out, nodup_succ hlt hno.out.2 (by rw [← HY.out]; simpa [hasB] using HM.out)⟩
          case measure => simp [intOf]; omega
        · have HM : Hid (hasB (q.take k) y = true) := hm
          have HF : Hid (x = false) := by rw [Hid, ← HX.out]; exact lineB_twice k hlt (by rw [← HY.out]; simpa [hasB] using HM.out)
          clear hm
          go_wp2_with fail
          refine (l3Task_is y _ true HP.out).mono ?_
          rintro e w1 ⟨rfl, rfl⟩
          go_wp2_with fail
          refine (l1Has_of n₀ _ k cap (q.take k) y _ true (by simp; omega) (by simp; omega) (HZ.out.take k) HM.out).mono ?_
          rintro e w1 ⟨rfl, rfl⟩
          go_wp2
          go_ret
          exact ⟨ret_bool HF.out.symm, rfl⟩
    · obtain rfl : k = q.length := by omega
      have HT : Hid (x = true) := by rw [Hid, ← HX.out]; exact lineB_end (by omega) hno.out.1 hno.out.2
      go_wp2
      go_ret
      exact ⟨ret_bool HT.out.symm, rfl⟩

/-- The marks at p are those of l. -/
def Seen (W : World) (p : Nat) (l : List Int) : Prop := p < W.heap.size ∧ ∀ i : Nat, i < 30 → W.cell? ⟨p, i, none⟩ = some (.bool (decide ((i : Int) ∈ l))) ∧ W.frozen? ⟨p, i, none⟩ = false
theorem Seen.new (w : World) (t : TypeId) : Seen (w.alloc (.cells #[.bool false, .bool false, .bool false, .bool false, .bool false, .bool false, .bool false, .bool false, .bool false, .bool false, .bool false, .bool false, .bool false, .bool false, .bool false, .bool false, .bool false, .bool false, .bool false, .bool false, .bool false, .bool false, .bool false, .bool false, .bool false, .bool false, .bool false, .bool false, .bool false, .bool false] t)) w.heap.size [] := by
  refine ⟨by simp, fun i hi => ⟨?_, by simp [go_sem]⟩⟩
  rw [World.cell?_alloc_at (hn := rfl)]
  show (Array.replicate 30 (Value.bool false))[i]? = _
  simp [hi]
theorem Seen.mark {W : World} {p : Nat} {l : List Int} (h : Seen W p l) {i : Nat} (hi : i < 30) : Seen (W.setCell ⟨p, i, none⟩ (.bool true)) p (l ++ [(i : Int)]) := by
  refine ⟨by simpa using h.1, fun j hj => ⟨?_, by rw [World.frozen?_setCell]; exact (h.2 j hj).2⟩⟩
  by_cases e : j = i
  · subst e
    rw [World.cell?_setCell_same' _ _ _ (by rw [(h.2 j hj).1]; rfl)]
    simp
  · rw [World.cell?_setCell_other _ _ _ _ (by simp), (h.2 j hj).1]
    have : ((j : Int) ∈ l ++ [(i : Int)]) ↔ ((j : Int) ∈ l) := by
      rw [List.mem_append]
      constructor
      · rintro (h | h)
        · exact h
        · simp at h; omega
      · exact Or.inl
    simp only [this]

set_option maxRecDepth 10000 in
set_option maxHeartbeats 2000000 in
theorem goodLine_is (ao : Option Addr) (cap : Nat) (q : List Int) (w : World) (x : Bool) (hl : q.length ≤ 1048576) (hz : kI.In w.heap.size w ao q) (hx : lineB q = x) :
    Calls Try.prog 59 #[.slice ao q.length cap] w fun e w' => e = .returned (.bool x) ∧ Below w.heap.size w w' := by
  by_cases h30 : 30 < q.length
  · have HX : Hid (x = false) := by rw [Hid, ← hx, lineB_long h30]
    clear hx
    go_enter Try.func59, Try.ntmps59
    go_wp2
    go_ret
    exact ⟨ret_bool HX.out.symm, Below.refl _ _⟩
  have h30' : decide ((30 : Int) < (q.length : Int)) = false := by simp; omega
  have HX : Hid (lineB q = x) := hx
  clear hx
  go_enter Try.func59, Try.ntmps59
  go_wp2
  go_loopw [11] (fun i wr => ∃ k : Nat, k ≤ q.length ∧ i = .int .i64 k ∧ Hid ((∀ j, j < k → taskB (el q j) = true) ∧ (q.take k).Nodup) ∧ Hid (Seen wr w.heap.size (q.take k)) ∧ Below w.heap.size w wr) (fun i _ => q.length - (intOf i).toNat)
  case atStart => exact ⟨0, Nat.zero_le _, rfl, ⟨fun j hj => by omega, by simp⟩, Seen.new w 127, below1 _ _⟩
  case round =>
    obtain ⟨k, hk, rfl, hno, hS, hB⟩ := hrel
    by_cases hlt : k < q.length
    · obtain ⟨b, off, rfl, hb, hcs⟩ := ints_at hz hlt
      have hck := (hB.cell (p := ⟨b, off + k, none⟩) hb).trans (hcs k hlt)
      clear hcs hz
      obtain ⟨y, ey⟩ : ∃ x, x = el q k := ⟨_, rfl⟩
      rw [← ey] at hck
      have HY : Hid (y = el q k) := ey
      clear ey
      cases hp : taskB y
      · have HP : Hid (taskB y = false) := hp
        have HF : Hid (x = false) := by rw [Hid, ← HX.out]; exact lineB_task k hlt (by rw [← HY.out]; exact HP.out)
        clear hp
        go_wp2_with fail
        refine (isTask_is y _ false HP.out).mono ?_
        rintro e w1 ⟨rfl, rfl⟩
        go_wp2
        go_ret
        exact ⟨ret_bool HF.out.symm, hB⟩
      · have HP : Hid (taskB y = true) := hp
        have hp' := hp
        simp only [taskB, Bool.and_eq_true, decide_eq_true_eq] at hp'
        obtain ⟨i, rfl⟩ : ∃ i : Nat, y = i := ⟨y.toNat, by omega⟩
        have hi : i < 30 := by omega
        have hse := hS.out.2 i hi
        clear hp hp'
        by_cases hm : (i : Int) ∈ q.take k
        · have HF : Hid (x = false) := by rw [Hid, ← HX.out]; exact lineB_twice k hlt (by rw [← HY.out]; exact hm)
          have hc1 : wr.cell? ⟨w.heap.size, i, none⟩ = some (.bool true) := by rw [hse.1]; simp only [hm, decide_true]
          clear hm hse
          go_wp2_with fail
          refine (isTask_is _ _ true HP.out).mono ?_
          rintro e w1 ⟨rfl, rfl⟩
          go_wp2
          go_ret
          exact ⟨ret_bool HF.out.symm, hB⟩
        · have HM : Hid ((i : Int) ∉ q.take k) := hm
          have hc1 : wr.cell? ⟨w.heap.size, i, none⟩ = some (.bool false) := by rw [hse.1]; simp only [hm, decide_false]
          have hf1 := hse.2
          clear hm hse
          go_wp2_with fail
          refine (isTask_is _ _ true HP.out).mono ?_
          rintro e w1 ⟨rfl, rfl⟩
          go_wp2
          go_roundw
          case rel => exact ⟨k + 1, by omega, by go_num, ⟨fun j hj => by
            rcases Nat.lt_succ_iff_lt_or_eq.1 hj with h | rfl
            · exact hno.out.1 j h
            · rw [← HY.out]; exact HP.out, nodup_succ hlt hno.out.2 (by rw [← HY.out]; exact HM.out)⟩, by rw [Hid, take_succ_el hlt, ← HY.out]; exact hS.out.mark hi, hB.setCell (Nat.le_refl _) _⟩
          case measure => simp [intOf]; omega
    · obtain rfl : k = q.length := by omega
      have HT : Hid (x = true) := by rw [Hid, ← HX.out]; exact lineB_end (by omega) hno.out.1 hno.out.2
      go_wp2
      go_ret
      exact ⟨ret_bool HT.out.symm, hB⟩
end Go.Proofs.Ytcdkdigafcfgmaa
