
/- Marks over a hub are held. No conditions but those written. -/
import Derived.Test.YtlnjhajdbofhlaaKn
namespace Go.Proofs.Ytlnjhajdbofhlaa
open Go.RowKit

theorem markC_at : ∀ (k : Int) (ts : List LChan) (i : Nat), i < ts.length → el (markC k ts) i = mkC (endC k (ts.take i)) (el ts i)
  | _, [], i, h => by simp at h
  | k, a :: r, 0, _ => by rw [markC, el_zero, el_zero]; rfl
  | k, a :: r, i + 1, h => by
    rw [markC, el_cons, el_cons, markC_at (nxC k a) r i (by simpa using h)]
    rfl
set_option maxRecDepth 10000 in
set_option maxHeartbeats 8000000 in
theorem heldChanS_any (ao : Option Addr) (c : Nat) (ts : List LChan) (k0 : Int) (w : World) (hl : ts.length ≤ 1048576) (ht : totChan ts ≤ 1048576) (hk0 : 0 ≤ k0) (hk1 : k0 ≤ 8000000) (hF : DIn dChan w.heap.size w ao (markC k0 ts)) :
    Calls Try.prog 104 #[.slice ao ts.length c, .int .i64 k0] w fun e w' => e = .returned (.int .i64 (endC k0 ts)) ∧ w' = w := by
  have HF := hid hF
  have HT := hid ht
  have hml := markC_len k0 ts
  clear hF ht
  go_enter Try.func104, Try.ntmps104
  go_wp2
  go_loop [1, 5] (fun v i => ∃ (k : Nat) (kk : Int), k ≤ ts.length ∧ i = .int .i64 k ∧ v = .int .i64 kk ∧ Hid (kk = endC k0 (ts.take k))) (fun _ i => ts.length - (intOf i).toNat)
  case atStart => exact ⟨0, k0, Nat.zero_le _, rfl, rfl, rfl⟩
  case round =>
    obtain ⟨k, kk, hk, rfl, rfl, HK⟩ := hrel
    by_cases hlt : k < ts.length
    · have HLT := hid hlt
      have hbd : 0 ≤ kk ∧ kk ≤ 13242880 := by
        have h1 := endC_is k0 (ts.take k)
        have h2 := totChan_le ts k
        have h3 := HT.out
        rw [← HK.out] at h1
        simp only [List.length_take] at h1
        omega
      have hsz := totChan_el hlt
      have hsz2 : sizeChan (el ts k) ≤ 1048576 := by have := HT.out; omega
      clear hsz
      have hkm : k < (markC k0 ts).length := by rw [hml]; exact hlt
      have hat := markC_at k0 ts k hlt
      rw [← HK.out] at hat
      obtain ⟨b0, off, rfl, hb, hc⟩ := hChan_at HF.out.1 hkm
      have c0 := (hc k hkm).1
      have c1 := (hc k hkm).2.1
      have c2 := (hc k hkm).2.2.1
      have c3 := (hc k hkm).2.2.2.1
      have c4 := (hc k hkm).2.2.2.2
      have hI := HF.out.2 k hkm
      rw [hat] at c0 c1 c2 c3 c4 hI
      obtain ⟨⟨kap, cl, ⟨bo, bc, b⟩, ⟨so, sc, s⟩, ⟨ro, rc, r⟩⟩, ea⟩ : ∃ a, a = el ts k := ⟨_, rfl⟩
      rw [← ea] at c0 c1 c2 c3 c4 hI hsz2
      have HEA := hid ea
      have HI : Hid (InChan w.heap.size w bo (markI (kk + 1 + 1) b.length) so (markW (kk + 1 + 1 + b.length) s.length) ro (markW (kk + 1 + 1 + b.length + 3 * s.length) r.length)) := hI
      clear ea hat hc hI
      dsimp only [mkC] at c0 c1 c2 c3 c4
      rw [markI_len] at c2
      rw [markW_len] at c3 c4
      have hsz3 : b.length + s.length + r.length ≤ 1048576 := by simp [sizeChan] at hsz2; omega
      have n0 : (kk != kk) = false := by simp
      have n1 : ((kk + 1) % 3 == 0) = ((kk + 1) % 3 == 0) := rfl
      obtain ⟨x, hx⟩ : ∃ x, ((kk + 1) % 3 == 0) = x := ⟨_, rfl⟩
      rw [hx] at c1
      have nx : (x != x) = false := by simp
      clear hsz2 n1
      go_wp2_with fail
      refine (heldIntS_any bo bc b.length (kk + 1 + 1) w (by omega) (by omega) (by omega) HI.out.1).mono ?_
      rintro e wx ⟨rfl, hwx⟩
      rw [hwx]; clear hwx wx
      have q1 : decide (kk + 1 + 1 + (b.length : Int) < 0) = false := by simp; omega
      go_wp2_with fail
      refine (heldWaiterS_any so sc s.length (kk + 1 + 1 + b.length) w (by omega) (by omega) (by omega) HI.out.2.1).mono ?_
      rintro e wx ⟨rfl, hwx⟩
      rw [hwx]; clear hwx wx
      have q2 : decide (kk + 1 + 1 + (b.length : Int) + 3 * (s.length : Int) < 0) = false := by simp; omega
      go_wp2_with fail
      refine (heldWaiterS_any ro rc r.length (kk + 1 + 1 + b.length + 3 * s.length) w (by omega) (by omega) (by omega) HI.out.2.2).mono ?_
      rintro e wx ⟨rfl, hwx⟩
      rw [hwx]; clear hwx wx
      have q3 : decide (kk + 1 + 1 + (b.length : Int) + 3 * (s.length : Int) + 3 * (r.length : Int) < 0) = false := by simp; omega
      go_wp2
      go_round
      case rel => exact ⟨k + 1, nxC kk (kap, cl, (bo, bc, b), (so, sc, s), (ro, rc, r)), by omega, by go_num, rfl, by rw [Hid, endC_succ HLT.out, ← HK.out, ← HEA.out]⟩
      case measure => simp [intOf]; omega
    · obtain rfl : k = ts.length := by omega
      rw [List.take_length] at HK
      go_wp2
      go_ret
      exact ⟨ret_int HK.out, rfl⟩
set_option maxHeartbeats 2000000 in
theorem heldHub_any (ao : Option Addr) (c : Nat) (ts : List LChan) (k0 : Int) (w : World) (hl : ts.length ≤ 1048576) (ht : totChan ts ≤ 1048576) (hk0 : 0 ≤ k0) (hk1 : k0 ≤ 8000000) (hF : DIn dChan w.heap.size w ao (markC k0 ts)) :
    Calls Try.prog 47 #[.agg #[.slice ao ts.length c], .int .i64 k0] w fun e w' => e = .returned (.int .i64 (endC k0 ts)) ∧ Below w.heap.size w w' := by
  have hB0 := below1 w (.cells #[.slice ao ts.length c] 56)
  have HF := hid (hF.later dChan_ok hB0)
  have hq : decide (endC k0 ts < 0) = false := by have := endC_is k0 ts; simp; omega
  clear hF
  go_enter Try.func47, Try.ntmps47
  go_wp2_with fail
  refine (heldChanS_any ao c ts k0 _ hl ht hk0 hk1 HF.out).mono ?_
  rintro e w1 ⟨rfl, hw1⟩
  rw [hw1]; clear hw1 w1
  go_wp2
  go_ret
  exact ⟨rfl, hB0⟩
end Go.Proofs.Ytlnjhajdbofhlaa
