
/- Contracts of the loops that only read. No conditions but those written. -/
import Derived.Test.YtgbnbnjfaffaiaaOWa
import Derived.Test.YtgbnbnjfaffaiaaOPa
namespace Go.Proofs.Ytgbnbnjfaffaiaa.Old
open Go.RowKit

/-- The slice at ao holds the ints zs, in a block below n. -/
def IntsIn (n : Nat) (W : World) (ao : Option Addr) (zs : List Int) : Prop :=
  zs = [] ∨ ∃ b off, ao = some ⟨b, off, none⟩ ∧ b < n ∧ ∀ j, j < zs.length → W.cell? ⟨b, off + j, none⟩ = some (.int .i64 (zs[j]?.getD 0))
theorem IntsIn.pos {n : Nat} {W : World} {ao : Option Addr} {zs : List Int} (h : IntsIn n W ao zs) {k : Nat} (hk : k < zs.length) :
    ∃ b off, ao = some ⟨b, off, none⟩ ∧ b < n ∧ ∀ j, j < zs.length → W.cell? ⟨b, off + j, none⟩ = some (.int .i64 (zs[j]?.getD 0)) := by
  rcases h with rfl | h
  · simp at hk
  · exact h

set_option maxHeartbeats 400000 in
theorem l1Has_any (n₀ : Nat) (ao : Option Addr) (cap : Nat) (zs : List Int) (n : Int) (w : World) (hl : zs.length ≤ 1048576) (hz : IntsIn n₀ w ao zs) :
    Calls Try.prog 43 #[.slice ao zs.length cap, .int .i64 n] w fun e w' => e = .returned (.bool (hasB zs n)) ∧ w' = w := by
  go_enter Try.func43, Try.ntmps43
  go_wp2
  go_loop [9] (fun i => ∃ k : Nat, k ≤ zs.length ∧ i = .int .i64 k ∧ Hid (∀ j, j < k → zs[j]?.getD 0 ≠ n)) (fun i => zs.length - (intOf i).toNat)
  case atStart => exact ⟨0, Nat.zero_le _, rfl, fun j hj => by omega⟩
  case round =>
    obtain ⟨k, hk, rfl, hno⟩ := hrel
    by_cases hlt : k < zs.length
    · obtain ⟨b, off, rfl, hb, hc⟩ := hz.pos hlt
      have hck := hc k hlt
      clear hc hz
      obtain ⟨x, hx⟩ : ∃ x, x = zs[k]?.getD 0 := ⟨_, rfl⟩
      rw [← hx] at hck
      have HX : Hid (x = zs[k]?.getD 0) := hx
      clear hx
      by_cases he : x = n
      · have he' : (x == n) = true := by simpa using he
        have HY : Hid (hasB zs n = true) := hasB_yes zs n k hlt (by rw [← HX.out]; exact he)
        clear he
        go_wp2
        go_ret
        exact ⟨ret_bool HY.out.symm, rfl⟩
      · have he' : (x == n) = false := by simpa using he
        go_wp2
        go_round
        case rel => exact ⟨k + 1, by omega, by go_num, fun j hj => by
          rcases Nat.lt_succ_iff_lt_or_eq.1 hj with h | rfl
          · exact hno.out j h
          · rw [← HX.out]; exact he⟩
        case measure => simp [intOf]; omega
    · obtain rfl : k = zs.length := by omega
      have HN : Hid (hasB zs n = false) := hasB_no zs n hno.out
      go_wp2
      go_ret
      exact ⟨ret_bool HN.out.symm, rfl⟩
theorem l1Has_is (n₀ : Nat) (ao : Option Addr) (cap : Nat) (zs : List Int) (n : Int) (w : World) (b : Bool) (hl : zs.length ≤ 1048576) (hz : IntsIn n₀ w ao zs) (h : hasB zs n = b) :
    Calls Try.prog 43 #[.slice ao zs.length cap, .int .i64 n] w fun e w' => e = .returned (.bool b) ∧ w' = w := by
  subst h; exact l1Has_any n₀ ao cap zs n w hl hz

/-- The slice at ao holds the tasks ts, in a block below n. -/
def TasksIn (n : Nat) (W : World) (ao : Option Addr) (ts : List (Int × Int)) : Prop :=
  ts = [] ∨ ∃ b off, ao = some ⟨b, off, none⟩ ∧ b < n ∧ ∀ j, j < ts.length → W.cell? ⟨b, off + j * 2, none⟩ = some (.int .i64 (ts[j]?.getD (0, 0)).1) ∧ W.cell? ⟨b, off + j * 2 + 1, none⟩ = some (.int .i64 (ts[j]?.getD (0, 0)).2)
theorem TasksIn.pos {n : Nat} {W : World} {ao : Option Addr} {ts : List (Int × Int)} (h : TasksIn n W ao ts) {k : Nat} (hk : k < ts.length) :
    ∃ b off, ao = some ⟨b, off, none⟩ ∧ b < n ∧ ∀ j, j < ts.length → W.cell? ⟨b, off + j * 2, none⟩ = some (.int .i64 (ts[j]?.getD (0, 0)).1) ∧ W.cell? ⟨b, off + j * 2 + 1, none⟩ = some (.int .i64 (ts[j]?.getD (0, 0)).2) := by
  rcases h with rfl | h
  · simp at hk
  · exact h
theorem IntsIn.below {n : Nat} {W W' : World} {ao : Option Addr} {zs : List Int} (h : IntsIn n W ao zs) (hb : Below n W W') : IntsIn n W' ao zs := by
  rcases h with rfl | ⟨b, off, e, hn, hc⟩
  · exact .inl rfl
  · exact .inr ⟨b, off, e, hn, fun j hj => (hb.cell (p := ⟨b, off + j, none⟩) hn).trans (hc j hj)⟩
theorem TasksIn.below {n : Nat} {W W' : World} {ao : Option Addr} {ts : List (Int × Int)} (h : TasksIn n W ao ts) (hb : Below n W W') : TasksIn n W' ao ts := by
  rcases h with rfl | ⟨b, off, e, hn, hc⟩
  · exact .inl rfl
  · exact .inr ⟨b, off, e, hn, fun j hj => ⟨(hb.cell (p := ⟨b, off + j * 2, none⟩) hn).trans (hc j hj).1, (hb.cell (p := ⟨b, off + j * 2 + 1, none⟩) hn).trans (hc j hj).2⟩⟩

set_option maxHeartbeats 1000000 in
theorem goodTasks_any (ao : Option Addr) (cap : Nat) (ts : List (Int × Int)) (w : World) (hl : ts.length ≤ 1048576) (hz : TasksIn w.heap.size w ao ts) :
    Calls Try.prog 28 #[.slice ao ts.length cap] w fun e w' => e = .returned (.bool (goodTasksB ts)) ∧ Below w.heap.size w w' := by
  go_enter Try.func28, Try.ntmps28
  go_wp2
  go_loopw [3, 8] (fun r i wr => ∃ k : Nat, k ≤ ts.length ∧ i = .int .i64 k ∧ r = .int .i64 (runsN (ts.take k)) ∧ Hid (∀ j, j < k → goodTaskB (ts[j]?.getD (0, 0)).1 (ts[j]?.getD (0, 0)).2 = true) ∧ Below w.heap.size w wr) (fun _ i _ => ts.length - (intOf i).toNat)
  case atStart => exact ⟨0, Nat.zero_le _, rfl, by simp [runsN], fun j hj => by omega, Below.refl _ _⟩
  case round =>
    obtain ⟨k, hk, rfl, rfl, hno, hnx⟩ := hrel
    have hrl := runsN_take_le ts k
    by_cases hlt : k < ts.length
    · obtain ⟨b, off, rfl, hb, hc⟩ := hz.pos hlt
      have hck1 := (hnx.cell (p := ⟨b, off + k * 2, none⟩) hb).trans (hc k hlt).1
      have hck2 := (hnx.cell (p := ⟨b, off + k * 2 + 1, none⟩) hb).trans (hc k hlt).2
      clear hc hz
      obtain ⟨s, hs⟩ : ∃ s, s = (ts[k]?.getD (0, 0)).1 := ⟨_, rfl⟩
      obtain ⟨p, hp⟩ : ∃ p, p = (ts[k]?.getD (0, 0)).2 := ⟨_, rfl⟩
      rw [← hs] at hck1
      rw [← hp] at hck2
      have HR : Hid (runsN (ts.take (k + 1)) = runsN (ts.take k) + (if s = 2 then 1 else 0)) := by rw [hs]; exact runsN_snoc ts k hlt
      have HS : Hid (s = (ts[k]?.getD (0, 0)).1) := hs
      have HP : Hid (p = (ts[k]?.getD (0, 0)).2) := hp
      clear hs hp
      generalize runsN (ts.take k) = rk at *
      cases hg : goodTaskB s p
      · have HG : Hid (goodTaskB s p = false) := hg
        clear hg
        go_wp2_with fail
        refine (goodTask_is s p _ false HG.out).mono ?_
        rintro e w1 ⟨rfl, hb1⟩
        have HF : Hid (goodTasksB ts = false) := by
          have := all_not (fun t => goodTaskB t.1 t.2) ts k hlt (by rw [← HS.out, ← HP.out]; exact HG.out)
          simp [Hid, goodTasksB, this]
        go_wp2
        go_ret
        exact ⟨ret_bool HF.out.symm, (hnx.alloc hnx.size _).trans (hb1.mono (by have := hnx.size; simp; omega))⟩
      · have HG : Hid (goodTaskB s p = true) := hg
        clear hg
        by_cases h2 : s = 2
        · have h2' : (s == 2) = true := by simpa using h2
          have HR2 : Hid (runsN (ts.take (k + 1)) = rk + 1) := by rw [Hid, HR.out, if_pos h2]
          clear h2
          go_wp2_with fail
          refine (goodTask_is s p _ true HG.out).mono ?_
          rintro e w1 ⟨rfl, hb1⟩
          have hcs : w1.cell? ⟨wr.heap.size, 0, none⟩ = some (.int .i64 s) := (hb1.cell (p := ⟨wr.heap.size, 0, none⟩) (by simp)).trans (by simp)
          have hnb : Below w.heap.size w w1 := (hnx.alloc hnx.size _).trans (hb1.mono (by have := hnx.size; simp; omega))
          go_wp2
          go_roundw
          case rel => exact ⟨k + 1, by omega, by go_num, by rw [HR2.out]; go_num, fun j hj => by
            rcases Nat.lt_succ_iff_lt_or_eq.1 hj with h | rfl
            · exact hno.out j h
            · rw [← HS.out, ← HP.out]; exact HG.out, hnb⟩
          case measure => simp [intOf]; omega
        · have h2' : (s == 2) = false := by simpa using h2
          have HR2 : Hid (runsN (ts.take (k + 1)) = rk) := by rw [Hid, HR.out, if_neg h2]; rfl
          clear h2
          go_wp2_with fail
          refine (goodTask_is s p _ true HG.out).mono ?_
          rintro e w1 ⟨rfl, hb1⟩
          have hcs : w1.cell? ⟨wr.heap.size, 0, none⟩ = some (.int .i64 s) := (hb1.cell (p := ⟨wr.heap.size, 0, none⟩) (by simp)).trans (by simp)
          have hnb : Below w.heap.size w w1 := (hnx.alloc hnx.size _).trans (hb1.mono (by have := hnx.size; simp; omega))
          go_wp2
          go_roundw
          case rel => exact ⟨k + 1, by omega, by go_num, by rw [HR2.out], fun j hj => by
            rcases Nat.lt_succ_iff_lt_or_eq.1 hj with h | rfl
            · exact hno.out j h
            · rw [← HS.out, ← HP.out]; exact HG.out, hnb⟩
          case measure => simp [intOf]; omega
    · obtain rfl : k = ts.length := by omega
      have HA : Hid (ts.all (fun t => goodTaskB t.1 t.2) = true) := all_of _ ts hno.out
      have HT : Hid (goodTasksB ts = decide (runsN ts ≤ 1)) := by simp only [Hid, goodTasksB]; rw [HA.out]; rfl
      go_wp2
      go_ret
      refine ⟨ret_bool ?_, hnx⟩
      rw [HT.out]
      exact decide_eq_decide.2 (by omega)
end Go.Proofs.Ytgbnbnjfaffaiaa.Old
