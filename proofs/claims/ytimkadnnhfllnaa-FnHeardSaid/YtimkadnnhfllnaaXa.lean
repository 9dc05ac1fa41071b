
/- The draws' cursor: one more byte. No conditions but those written. -/
import Derived.Test.YtimkadnnhfllnaaBx
namespace Go.Proofs.Ytimkadnnhfllnaa
open Go.RowKit

/-- The bytes of a text in memory. -/
def BytesIn (n : Nat) (W : World) (co : Option Addr) (bs : List Int) : Prop :=
  bs = [] ∨ ∃ b off, co = some ⟨b, off, none⟩ ∧ b < n ∧ ∀ j, j < bs.length → W.cell? ⟨b, off + j, none⟩ = some (.int .u8 (bs[j]?.getD 0)) ∧ 0 ≤ bs[j]?.getD 0 ∧ bs[j]?.getD 0 ≤ 255
/-- The cursor: its bytes, where it stands, its seed. -/
def Cur (W : World) (p : Nat) (co : Option Addr) (cap : Nat) (bs : List Int) (k : Nat) (sd : Int) : Prop :=
  p < W.heap.size ∧ (W.cell? ⟨p, 0, none⟩ = some (.slice co bs.length cap) ∧ W.cell? ⟨p, 1, none⟩ = some (.int .i64 (k : Int)) ∧ W.cell? ⟨p, 2, none⟩ = some (.int .u64 sd)) ∧ (W.frozen? ⟨p, 0, none⟩ = false ∧ W.frozen? ⟨p, 1, none⟩ = false ∧ W.frozen? ⟨p, 2, none⟩ = false) ∧ BytesIn p W co bs

theorem and255 (x : Int) : 0 ≤ wrap64 (bits .and .u64 x 255) ∧ wrap64 (bits .and .u64 x 255) ≤ 255 := by
  have h : 0 ≤ bits .and .u64 x 255 ∧ bits .and .u64 x 255 ≤ 255 := by
    have hb : ∀ v : BitVec 64, (v &&& BitVec.ofInt 64 255).toNat ≤ 255 := fun v => by
      rw [BitVec.toNat_and]
      exact Nat.le_trans Nat.and_le_right (by decide)
    have hk := hb (BitVec.ofInt 64 x)
    have e : bits .and .u64 x 255 = IntKind.u64.wrap ((BitVec.ofInt 64 x &&& BitVec.ofInt 64 255).toNat : Int) := rfl
    rw [e]
    generalize (BitVec.ofInt 64 x &&& BitVec.ofInt 64 255).toNat = n at hk
    have e2 : IntKind.u64.wrap (n : Int) = (n : Int) % 18446744073709551616 := by simp [IntKind.wrap, IntKind.bits, IntKind.signed]
    rw [e2]; omega
  have e : wrap64 (bits .and .u64 x 255) = bits .and .u64 x 255 := by unfold wrap64; omega
  rw [e]; exact h
theorem cur_step {w : World} {p : Nat} {co : Option Addr} {cap : Nat} {bs : List Int} {k : Nat} {sd : Int} (hC : Cur w p co cap bs k sd) (m n : Nat) (sd' : Int) :
    Cur ((((w.drewN m).setCell ⟨p, 1, none⟩ (.int .i64 ((k : Int) + 1))).setCell ⟨p, 2, none⟩ (.int .u64 sd')).drewN n) p co cap bs (k + 1) sd' ∧ OnlyAt (some ⟨p, 0, none⟩) w ((((w.drewN m).setCell ⟨p, 1, none⟩ (.int .i64 ((k : Int) + 1))).setCell ⟨p, 2, none⟩ (.int .u64 sd')).drewN n) := by
  obtain ⟨hp, ⟨c0, c1, c2⟩, ⟨f0, f1, f2⟩, hB⟩ := hC
  obtain ⟨W, hW⟩ : ∃ W, W = w.drewN m := ⟨_, rfl⟩
  have e : ∀ a, W.cell? a = w.cell? a := fun a => by rw [hW]; rfl
  have ef : ∀ a, W.frozen? a = w.frozen? a := fun a => by rw [hW]; rfl
  have eh : W.heap = w.heap := by rw [hW]; rfl
  have o1 : OnlyAt (some ⟨p, 0, none⟩) w W := ⟨by rw [hW]; rfl, by rw [hW]; rfl, by rw [hW]; rfl, by rw [eh], fun j _ => by rw [eh]⟩
  have o2 := (o1.trans (OnlyAt.set p 1 W (.int .i64 ((k : Int) + 1)))).trans (OnlyAt.set p 2 (W.setCell ⟨p, 1, none⟩ (.int .i64 ((k : Int) + 1))) (.int .u64 sd'))
  rw [← hW]
  have d0 : ((W.setCell ⟨p, 1, none⟩ (.int .i64 ((k : Int) + 1))).setCell ⟨p, 2, none⟩ (.int .u64 sd')).cell? ⟨p, 0, none⟩ = some (.slice co bs.length cap) := by
    rw [World.cell?_setCell_other _ _ _ _ (by simp), World.cell?_setCell_other _ _ _ _ (by simp), e]; exact c0
  have d1 : ((W.setCell ⟨p, 1, none⟩ (.int .i64 ((k : Int) + 1))).setCell ⟨p, 2, none⟩ (.int .u64 sd')).cell? ⟨p, 1, none⟩ = some (.int .i64 ((k + 1 : Nat) : Int)) := by
    rw [World.cell?_setCell_other _ _ _ _ (by simp)]
    have h := e ⟨p, 1, none⟩
    rw [c1] at h
    simp [go_sem, h]
  have d2 : ((W.setCell ⟨p, 1, none⟩ (.int .i64 ((k : Int) + 1))).setCell ⟨p, 2, none⟩ (.int .u64 sd')).cell? ⟨p, 2, none⟩ = some (.int .u64 sd') := by
    have h := e ⟨p, 2, none⟩
    rw [c2] at h
    have h' : (W.setCell ⟨p, 1, none⟩ (.int .i64 ((k : Int) + 1))).cell? ⟨p, 2, none⟩ = some (.int .u64 sd) := by rw [World.cell?_setCell_other _ _ _ _ (by simp)]; exact h
    simp [go_sem, h']
  refine ⟨⟨?_, ⟨d0, d1, d2⟩, ⟨?_, ?_, ?_⟩, ?_⟩, ⟨o2.os, o2.tape, o2.output, o2.size, o2.block⟩⟩
  · show p < ((W.setCell ⟨p, 1, none⟩ (.int .i64 ((k : Int) + 1))).setCell ⟨p, 2, none⟩ (.int .u64 sd')).heap.size
    rw [o2.size]; exact hp
  · show ((W.setCell ⟨p, 1, none⟩ (.int .i64 ((k : Int) + 1))).setCell ⟨p, 2, none⟩ (.int .u64 sd')).frozen? ⟨p, 0, none⟩ = false
    rw [World.frozen?_setCell, World.frozen?_setCell, ef]; exact f0
  · show ((W.setCell ⟨p, 1, none⟩ (.int .i64 ((k : Int) + 1))).setCell ⟨p, 2, none⟩ (.int .u64 sd')).frozen? ⟨p, 1, none⟩ = false
    rw [World.frozen?_setCell, World.frozen?_setCell, ef]; exact f1
  · show ((W.setCell ⟨p, 1, none⟩ (.int .i64 ((k : Int) + 1))).setCell ⟨p, 2, none⟩ (.int .u64 sd')).frozen? ⟨p, 2, none⟩ = false
    rw [World.frozen?_setCell, World.frozen?_setCell, ef]; exact f2
  · rcases hB with hB | ⟨b, off, rfl, hb, hc⟩
    · exact .inl hB
    · refine .inr ⟨b, off, rfl, hb, fun j hj => ⟨?_, (hc j hj).2⟩⟩
      have h := World.cell?_of_block (a := ⟨b, off + j, none⟩) (o2.block b fun g e => by cases e; omega)
      exact h.trans (hc j hj).1

set_option maxRecDepth 10000 in
set_option maxHeartbeats 2000000 in
theorem next_any (p : Nat) (co : Option Addr) (cap : Nat) (bs : List Int) (k : Nat) (sd : Int) (w : World) (hl : bs.length ≤ 9223372036854775807) (ha : k ≤ 1099511627776) (hC : Cur w p co cap bs k sd) :
    Calls Try.prog 38 #[.pointer (some ⟨p, 0, none⟩)] w fun e w' => ∃ x sd', e = .returned (.int .i64 x) ∧ (0 ≤ x ∧ x ≤ 255) ∧ Cur w' p co cap bs (k + 1) sd' ∧ OnlyAt (some ⟨p, 0, none⟩) w w' := by
  have HC : Hid (Cur w p co cap bs k sd) := hC
  obtain ⟨hp, ⟨c0, c1, c2⟩, ⟨f0, f1, f2⟩, hB⟩ := hC
  by_cases h : k < bs.length
  · have h' : decide ((k : Int) < (bs.length : Int)) = true := by simpa using h
    have h2 : decide ((k : Int) + 1 ≤ (bs.length : Int)) = true := by simp; omega
    have hB' := hB
    rcases hB' with hB' | ⟨b, off, rfl, hb, hc⟩
    · subst hB'; simp at h
    obtain ⟨v, hv⟩ : ∃ v, bs[k]?.getD 0 = v := ⟨_, rfl⟩
    obtain ⟨d0, d1, d2⟩ := hc k h
    rw [hv] at d0 d1 d2
    go_enter Try.func38, Try.ntmps38
    go_wp2
    go_quiet (fail)
    go_wp2
    go_quiet (fail)
    go_wp2
    go_quiet (fail)
    go_wp2
    go_ret
    refine ⟨_, _, rfl, ?_, (cur_step HC.out _ _ _).1, (cur_step HC.out _ _ _).2⟩
    have hv' : bs[k] = v := by simpa [h] using hv
    rw [hv']
    have e : wrap64 v = v := by unfold wrap64; omega
    rw [e]; exact ⟨d1, d2⟩
  · have h' : decide ((k : Int) < (bs.length : Int)) = false := by simpa using h
    have h2 : decide ((k : Int) + 1 ≤ (bs.length : Int)) = false := by simp; omega
    go_enter Try.func38, Try.ntmps38
    go_wp2
    go_quiet (fail)
    go_wp2
    go_quiet (fail)
    go_wp2
    go_ret
    refine ⟨_, _, rfl, ?_, (cur_step HC.out _ _ _).1, (cur_step HC.out _ _ _).2⟩
    exact and255 _
end Go.Proofs.Ytimkadnnhfllnaa
