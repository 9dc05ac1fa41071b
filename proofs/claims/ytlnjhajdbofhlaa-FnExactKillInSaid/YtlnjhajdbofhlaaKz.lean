
/- Marks over cases. No conditions but those written. -/
import Derived.Test.YtlnjhajdbofhlaaKq
namespace Go.Proofs.Ytlnjhajdbofhlaa
open Go.RowKit

set_option maxHeartbeats 4000000 in
theorem markCaseS_any (lo hi : Nat) (to : Option Addr) (tc : Nat) (ts : List (Int × Bool × Int)) (k0 : Int) (w : World) (hl : ts.length ≤ 2097152) (hk0 : 0 ≤ k0) (hk1 : k0 ≤ 16777216) (hF : kQ.Fresh lo hi w to tc ts) :
    Calls Try.prog 40 #[.slice to ts.length tc, .int .i64 k0] w fun e w' => e = .returned (.int .i64 (k0 + 3 * ts.length)) ∧ OnlyAt (eff to ts.length) w w' := by
  rcases Nat.eq_zero_or_pos ts.length with h0 | h0
  · obtain rfl : ts = [] := List.length_eq_zero_iff.1 h0
    go_enter Try.func40, Try.ntmps40
    go_wp2
    go_loop [1, 5] (fun v i => v = .int .i64 k0 ∧ i = .int .i64 0) (fun _ _ => 0)
    case atStart => exact ⟨rfl, rfl⟩
    case round =>
      obtain ⟨rfl, rfl⟩ := hrel
      go_wp2
      go_ret
      exact ⟨by simp, OnlyAt.refl _ _⟩
  · rw [eff_pos h0]
    obtain ⟨g, rfl, _, hg, _, ho⟩ := hF.at h0
    have HO : Hid (w.ownsRow lo 117 3 (.slice (some ⟨g, 0, none⟩) ts.length tc) ts.length (kQ.flat ts)) := ho
    clear ho
    go_enter Try.func40, Try.ntmps40
    go_wp2
    go_loopw [1, 5] (fun v i wr => ∃ (k : Nat) (kk : Int) (xs : List Value), k ≤ ts.length ∧ i = .int .i64 k ∧ v = .int .i64 kk ∧ kk = k0 + 3 * k ∧ Hid (wr.ownsRow lo 117 3 (.slice (some ⟨g, 0, none⟩) ts.length tc) ts.length xs) ∧ OnlyAt (some ⟨g, 0, none⟩) w wr) (fun _ i _ => ts.length - (intOf i).toNat)
    case atStart => exact ⟨0, k0, _, Nat.zero_le _, rfl, rfl, by simp, HO, OnlyAt.refl _ _⟩
    case round =>
      obtain ⟨k, kk, xs, hk, rfl, rfl, hkk, ho, hnx⟩ := hrel
      by_cases hlt : k < ts.length
      · have hxl : k * 3 + 2 < xs.length := by rw [ho.out.1]; omega
        have hst1 : wr.cell? ⟨g, k * 3, none⟩ = some xs[k * 3] := (ho.out.cellAt (k * 3) (by omega)).trans (by simp)
        have hfr1 : wr.frozen? ⟨g, k * 3, none⟩ = false := ho.out.frozenAt (k * 3)
        have hst2 : wr.cell? ⟨g, k * 3 + 1, none⟩ = some xs[k * 3 + 1] := (ho.out.cellAt (k * 3 + 1) (by omega)).trans (by simp)
        have hfr2 : wr.frozen? ⟨g, k * 3 + 1, none⟩ = false := ho.out.frozenAt (k * 3 + 1)
        have hst3 : wr.cell? ⟨g, k * 3 + 2, none⟩ = some xs[k * 3 + 2] := (ho.out.cellAt (k * 3 + 2) (by omega)).trans (by simp)
        have hfr3 : wr.frozen? ⟨g, k * 3 + 2, none⟩ = false := ho.out.frozenAt (k * 3 + 2)
        go_wp2
        go_roundw
        case rel => exact ⟨k + 1, kk + 1 + 1 + 1, _, by omega, by go_num, by go_num, by omega, (((World.ownsRow.stored ho.out (k * 3) _).1.stored (k * 3 + 1) _).1.stored (k * 3 + 2) _).1, (((hnx.trans (OnlyAt.set g (k * 3) _ _)).trans (OnlyAt.set g (k * 3 + 1) _ _)).trans (OnlyAt.set g (k * 3 + 2) _ _))⟩
        case measure => simp [intOf]; omega
      · obtain rfl : k = ts.length := by omega
        go_wp2
        go_ret
        exact ⟨ret_int hkk, hnx⟩
end Go.Proofs.Ytlnjhajdbofhlaa
