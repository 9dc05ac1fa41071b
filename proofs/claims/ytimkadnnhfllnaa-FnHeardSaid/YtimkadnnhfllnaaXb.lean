
/- The draws' cursor: a number, yes or no. No conditions but those written. -/
import Derived.Test.YtimkadnnhfllnaaXa
namespace Go.Proofs.Ytimkadnnhfllnaa
open Go.RowKit

/-- What a draw leaves: the cursor further on, and nothing else turned. -/
def Drawn (w : World) (p : Nat) (co : Option Addr) (cap : Nat) (bs : List Int) (k d : Nat) (w' : World) : Prop := ∃ k' sd', k' ≤ k + d ∧ Cur w' p co cap bs k' sd' ∧ OnlyAt (some ⟨p, 0, none⟩) w w'
set_option maxRecDepth 10000 in
set_option maxHeartbeats 2000000 in
theorem pick_any (n : Int) (p : Nat) (co : Option Addr) (cap : Nat) (bs : List Int) (k : Nat) (sd : Int) (w : World) (hl : bs.length ≤ 9223372036854775807) (ha : k ≤ 1099511627770) (hC : Cur w p co cap bs k sd) :
    Calls Try.prog 25 #[.pointer (some ⟨p, 0, none⟩), .int .i64 n] w fun e w' => (∃ x, e = .returned (.int .i64 x) ∧ 0 ≤ x ∧ (x < n ∨ x = 0)) ∧ Drawn w p co cap bs k 2 w' := by
  by_cases h1 : n ≤ 1
  · have h1' : decide (n ≤ 1) = true := by simpa using h1
    go_enter Try.func25, Try.ntmps25
    go_wp2
    go_ret
    exact ⟨⟨0, rfl, by omega, .inr rfl⟩, k, sd, by omega, hC, OnlyAt.refl _ _⟩
  have h1' : decide (n ≤ 1) = false := by simpa using h1
  by_cases h2 : 200 < n
  · have h2' : decide (200 < n) = true := by simpa using h2
    go_enter Try.func25, Try.ntmps25
    go_wp2_with fail
    refine (next_any p co cap bs k sd w hl (by omega) hC).mono ?_
    rintro e w1 ⟨x, sd1, rfl, ⟨x0, x1⟩, C1, O1⟩
    go_wp2_with fail
    refine (next_any p co cap bs (k + 1) sd1 w1 hl (by omega) C1).mono ?_
    rintro e w2 ⟨y, sd2, rfl, ⟨y0, y1⟩, C2, O2⟩
    have hn0 : (n == 0) = false := by simp; omega
    go_wp2
    go_ret
    exact ⟨⟨(x * 256 + y) % n, rfl, Int.emod_nonneg _ (by omega), .inl (Int.emod_lt_of_pos _ (by omega))⟩, k + 1 + 1, sd2, by omega, C2, O1.trans O2⟩
  · have h2' : decide (200 < n) = false := by simpa using h2
    go_enter Try.func25, Try.ntmps25
    go_wp2_with fail
    refine (next_any p co cap bs k sd w hl (by omega) hC).mono ?_
    rintro e w1 ⟨x, sd1, rfl, ⟨x0, x1⟩, C1, O1⟩
    have hn0 : (n == 0) = false := by simp; omega
    go_wp2
    go_ret
    exact ⟨⟨x % n, rfl, Int.emod_nonneg _ (by omega), .inl (Int.emod_lt_of_pos _ (by omega))⟩, k + 1, sd1, by omega, C1, O1⟩
set_option maxHeartbeats 2000000 in
theorem one_any (n : Int) (p : Nat) (co : Option Addr) (cap : Nat) (bs : List Int) (k : Nat) (sd : Int) (w : World) (hl : bs.length ≤ 9223372036854775807) (ha : k ≤ 1099511627770) (hC : Cur w p co cap bs k sd) :
    Calls Try.prog 26 #[.pointer (some ⟨p, 0, none⟩), .int .i64 n] w fun e w' => (∃ x, e = .returned (.bool x)) ∧ Drawn w p co cap bs k 2 w' := by
  go_enter Try.func26, Try.ntmps26
  go_wp2_with fail
  refine (pick_any n p co cap bs k sd w hl ha hC).mono ?_
  rintro e w1 ⟨⟨x, rfl, x0, x1⟩, hD⟩
  go_wp2
  go_ret
  exact ⟨⟨_, rfl⟩, hD⟩
/-- The elements of a list of ints in memory. -/
def NumsIn (n : Nat) (W : World) (b off : Nat) (zs : List Int) : Prop := b < n ∧ ∀ j, j < zs.length → W.cell? ⟨b, off + j, none⟩ = some (.int .i64 (zs[j]?.getD 0))
set_option maxHeartbeats 2000000 in
theorem among_any (b off : Nat) (zs : List Int) (lc : Nat) (p : Nat) (co : Option Addr) (cap : Nat) (bs : List Int) (k : Nat) (sd : Int) (w : World) (hl : bs.length ≤ 9223372036854775807) (ha : k ≤ 1099511627770) (hC : Cur w p co cap bs k sd) (h0 : 0 < zs.length) (h9 : zs.length ≤ 1048576) (hz : ∀ j, j < zs.length → w.cell? ⟨b, off + j, none⟩ = some (.int .i64 (zs[j]?.getD 0))) (hb : b ≠ p) :
    Calls Try.prog 30 #[.pointer (some ⟨p, 0, none⟩), .slice (some ⟨b, off, none⟩) zs.length lc] w fun e w' => (∃ j, j < zs.length ∧ e = .returned (.int .i64 (zs[j]?.getD 0))) ∧ Drawn w p co cap bs k 2 w' := by
  go_enter Try.func30, Try.ntmps30
  go_wp2_with fail
  refine (pick_any (zs.length : Int) p co cap bs k sd w hl ha hC).mono ?_
  rintro e w1 ⟨⟨x, rfl, x0, x1⟩, hD⟩
  obtain ⟨j, rfl⟩ : ∃ j : Nat, x = j := ⟨x.toNat, by omega⟩
  have hj : j < zs.length := by omega
  have hd : w1.cell? ⟨b, off + j, none⟩ = some (.int .i64 (zs[j]?.getD 0)) := by
    obtain ⟨_, _, _, _, O⟩ := hD
    exact (World.cell?_of_block (a := ⟨b, off + j, none⟩) (O.block b fun g e => by cases e; exact hb)).trans (hz j hj)
  obtain ⟨v, hv⟩ : ∃ v, zs[j]?.getD 0 = v := ⟨_, rfl⟩
  rw [hv] at hd
  go_wp2
  go_ret
  exact ⟨⟨j, hj, by rw [hv]; rfl⟩, hD⟩
end Go.Proofs.Ytimkadnnhfllnaa
