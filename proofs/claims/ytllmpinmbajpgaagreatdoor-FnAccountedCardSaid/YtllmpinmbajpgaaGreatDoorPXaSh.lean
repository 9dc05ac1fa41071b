
/- The draws' cursor: one more byte. No conditions but those written. The draws' cursor: a number, yes or no. No conditions but those written. The draws' cursor: a waiter. No conditions but those written. The draws' cursor: any number. No conditions but those written. The draws' cursor: a number of any size. No conditions but those written. Stages: when they are good, on both sides. No conditions but those written. Stages: when the program finds them good, and what it keeps of each kind. No conditions but those written. -/
import Derived.Test.YtllmpinmbajpgaaGreatDoorPGenFq
import Derived.Laws.EntriesVeiled
namespace Go.Proofs.YtllmpinmbajpgaaGreatDoor
section
open Go.RowKit

/-- The bytes of a text in memory. -/
def BytesIn (n : Nat) (W : World) (co : Option Addr) (bs : List Int) : Prop :=
 bs = [] ∨ ∃ b off, co = some ⟨b, off, none⟩ ∧ b < n ∧ ∀ j, j < bs.length → W.cell? ⟨b, off + j, none⟩ = some (.int .u8 (bs[j]?.getD 0)) ∧ 0 ≤ bs[j]?.getD 0 ∧ bs[j]?.getD 0 ≤ 255
/-- The cursor: its bytes, where it stands, its seed. -/
def Cur (W : World) (p : Nat) (co : Option Addr) (cap : Nat) (bs : List Int) (k : Nat) (sd : Int) : Prop :=
 p < W.heap.size ∧ (W.cell? ⟨p, 0, none⟩ = some (.slice co bs.length cap) ∧ W.cell? ⟨p, 1, none⟩ = some (.int .i64 (k : Int)) ∧ W.cell? ⟨p, 2, none⟩ = some (.int .u64 sd)) ∧ (W.frozen? ⟨p, 0, none⟩ = false ∧ W.frozen? ⟨p, 1, none⟩ = false ∧ W.frozen? ⟨p, 2, none⟩ = false) ∧ BytesIn p W co bs

theorem and255 (x : Int) : 0 ≤ wrap64 (bits .and .u64 x 255) ∧ wrap64 (bits .and .u64 x 255) ≤ 255 := by
 have h : 0 ≤ bits .and .u64 x 255 ∧ bits .and .u64 x 255 ≤ 255 := by
  have hb : ∀ v : BitVec 64, (v &&& BitVec.ofInt 64 255).toNat ≤ 255 := fun v => by
   rw [BitVec.toNat_and];exact Nat.le_trans Nat.and_le_right (by decide)
  have hk := hb (BitVec.ofInt 64 x);have e : bits .and .u64 x 255 = IntKind.u64.wrap ((BitVec.ofInt 64 x &&& BitVec.ofInt 64 255).toNat : Int) := rfl;rw [e]
  generalize (BitVec.ofInt 64 x &&& BitVec.ofInt 64 255).toNat = n at hk
  have e2 : IntKind.u64.wrap (n : Int) = (n : Int) % 18446744073709551616 := by simp [IntKind.wrap, IntKind.bits, IntKind.signed]
  rw [e2]; omega
 have e : wrap64 (bits .and .u64 x 255) = bits .and .u64 x 255 := by unfold wrap64; omega
 rw [e]; exact h
theorem cur_step {w : World} {p : Nat} {co : Option Addr} {cap : Nat} {bs : List Int} {k : Nat} {sd : Int} (hC : Cur w p co cap bs k sd) (m n : Nat) (sd' : Int) :
  Cur ((((w.drewN m).setCell ⟨p, 1, none⟩ (.int .i64 ((k : Int) + 1))).setCell ⟨p, 2, none⟩ (.int .u64 sd')).drewN n) p co cap bs (k + 1) sd' ∧ OnlyAt (some ⟨p, 0, none⟩) w ((((w.drewN m).setCell ⟨p, 1, none⟩ (.int .i64 ((k : Int) + 1))).setCell ⟨p, 2, none⟩ (.int .u64 sd')).drewN n) := by
 obtain ⟨hp, ⟨c0, c1, c2⟩, ⟨f0, f1, f2⟩, hB⟩ := hC;obtain ⟨W, hW⟩ : ∃ W, W = w.drewN m := ⟨_, rfl⟩;have e : ∀ a, W.cell? a = w.cell? a := fun a => by rw [hW]; rfl
 have ef : ∀ a, W.frozen? a = w.frozen? a := fun a => by rw [hW]; rfl
 have eh : W.heap = w.heap := by rw [hW]; rfl
 have o1 : OnlyAt (some ⟨p, 0, none⟩) w W := ⟨by rw [hW]; rfl, by rw [hW]; rfl, by rw [hW]; rfl, by rw [eh], fun j _ => by rw [eh]⟩;have o2 := (o1.trans (OnlyAt.set p 1 W (.int .i64 ((k : Int) + 1)))).trans (OnlyAt.set p 2 (W.setCell ⟨p, 1, none⟩ (.int .i64 ((k : Int) + 1))) (.int .u64 sd'));rw [← hW];have d0 : ((W.setCell ⟨p, 1, none⟩ (.int .i64 ((k : Int) + 1))).setCell ⟨p, 2, none⟩ (.int .u64 sd')).cell? ⟨p, 0, none⟩ = some (.slice co bs.length cap) := by
  rw [World.cell?_setCell_other _ _ _ _ (by simp), World.cell?_setCell_other _ _ _ _ (by simp), e]; exact c0
 have d1 : ((W.setCell ⟨p, 1, none⟩ (.int .i64 ((k : Int) + 1))).setCell ⟨p, 2, none⟩ (.int .u64 sd')).cell? ⟨p, 1, none⟩ = some (.int .i64 ((k + 1 : Nat) : Int)) := by
  rw [World.cell?_setCell_other _ _ _ _ (by simp)];have h := e ⟨p, 1, none⟩;rw [c1] at h
  simp [go_sem, h]
 have d2 : ((W.setCell ⟨p, 1, none⟩ (.int .i64 ((k : Int) + 1))).setCell ⟨p, 2, none⟩ (.int .u64 sd')).cell? ⟨p, 2, none⟩ = some (.int .u64 sd') := by
  have h := e ⟨p, 2, none⟩;rw [c2] at h;have h' : (W.setCell ⟨p, 1, none⟩ (.int .i64 ((k : Int) + 1))).cell? ⟨p, 2, none⟩ = some (.int .u64 sd) := by rw [World.cell?_setCell_other _ _ _ _ (by simp)]; exact h
  simp [go_sem, h']
 refine ⟨⟨?_, ⟨d0, d1, d2⟩, ⟨?_, ?_, ?_⟩, ?_⟩, ⟨o2.os, o2.tape, o2.output, o2.size, o2.block⟩⟩
 ·show p < ((W.setCell ⟨p, 1, none⟩ (.int .i64 ((k : Int) + 1))).setCell ⟨p, 2, none⟩ (.int .u64 sd')).heap.size
  rw [o2.size]; exact hp
 ·show ((W.setCell ⟨p, 1, none⟩ (.int .i64 ((k : Int) + 1))).setCell ⟨p, 2, none⟩ (.int .u64 sd')).frozen? ⟨p, 0, none⟩ = false
  rw [World.frozen?_setCell, World.frozen?_setCell, ef]; exact f0
 ·show ((W.setCell ⟨p, 1, none⟩ (.int .i64 ((k : Int) + 1))).setCell ⟨p, 2, none⟩ (.int .u64 sd')).frozen? ⟨p, 1, none⟩ = false
  rw [World.frozen?_setCell, World.frozen?_setCell, ef]; exact f1
 ·show ((W.setCell ⟨p, 1, none⟩ (.int .i64 ((k : Int) + 1))).setCell ⟨p, 2, none⟩ (.int .u64 sd')).frozen? ⟨p, 2, none⟩ = false
  rw [World.frozen?_setCell, World.frozen?_setCell, ef]; exact f2
 ·rcases hB with hB | ⟨b, off, rfl, hb, hc⟩
  ·exact .inl hB
  ·refine .inr ⟨b, off, rfl, hb, fun j hj => ⟨?_, (hc j hj).2⟩⟩;have h := World.cell?_of_block (a := ⟨b, off + j, none⟩) (o2.block b fun g e => by cases e; omega);exact h.trans (hc j hj).1

set_option maxRecDepth 10000 in
set_option maxHeartbeats 2000000 in
theorem next_any (p : Nat) (co : Option Addr) (cap : Nat) (bs : List Int) (k : Nat) (sd : Int) (w : World) (hl : bs.length ≤ 9223372036854775807) (ha : k ≤ 1099511627776) (hC : Cur w p co cap bs k sd) :
  Calls Tryz.prog 76 #[.pointer (some ⟨p, 0, none⟩)] w fun e w' => ∃ x sd', e = .returned (.int .i64 x) ∧ (0 ≤ x ∧ x ≤ 255) ∧ Cur w' p co cap bs (k + 1) sd' ∧ OnlyAt (some ⟨p, 0, none⟩) w w' := by
 have HC : Hid (Cur w p co cap bs k sd) := hC;obtain ⟨hp, ⟨c0, c1, c2⟩, ⟨f0, f1, f2⟩, hB⟩ := hC
 by_cases h : k < bs.length
 ·have h' : decide ((k : Int) < (bs.length : Int)) = true := by simpa using h
  have h2 : decide ((k : Int) + 1 ≤ (bs.length : Int)) = true := by simp; omega
  have hB' := hB
  rcases hB' with hB' | ⟨b, off, rfl, hb, hc⟩
  ·subst hB'; simp at h
  obtain ⟨v, hv⟩ : ∃ v, bs[k]?.getD 0 = v := ⟨_, rfl⟩;obtain ⟨d0, d1, d2⟩ := hc k h;rw [hv] at d0 d1 d2;go_enter Tryz.func76, Tryz.ntmps76;go_wp2
  go_quiet (fail)
  go_wp2
  go_quiet (fail)
  go_wp2
  go_quiet (fail)
  go_wp2;go_ret;refine ⟨_, _, rfl, ?_, (cur_step HC.out _ _ _).1, (cur_step HC.out _ _ _).2⟩;have hv' : bs[k] = v := by simpa [h] using hv
  rw [hv'];have e : wrap64 v = v := by unfold wrap64; omega
  rw [e]; exact ⟨d1, d2⟩
 ·have h' : decide ((k : Int) < (bs.length : Int)) = false := by simpa using h
  have h2 : decide ((k : Int) + 1 ≤ (bs.length : Int)) = false := by simp; omega
  go_enter Tryz.func76, Tryz.ntmps76;go_wp2
  go_quiet (fail)
  go_wp2
  go_quiet (fail)
  go_wp2;go_ret;refine ⟨_, _, rfl, ?_, (cur_step HC.out _ _ _).1, (cur_step HC.out _ _ _).2⟩;exact and255 _
end
section
open Go.RowKit

/-- What a draw leaves: the cursor further on, and nothing else turned. -/
def Drawn (w : World) (p : Nat) (co : Option Addr) (cap : Nat) (bs : List Int) (k d : Nat) (w' : World) : Prop := ∃ k' sd', k' ≤ k + d ∧ Cur w' p co cap bs k' sd' ∧ OnlyAt (some ⟨p, 0, none⟩) w w'
set_option maxRecDepth 10000 in
set_option maxHeartbeats 2000000 in
theorem pick_any (n : Int) (p : Nat) (co : Option Addr) (cap : Nat) (bs : List Int) (k : Nat) (sd : Int) (w : World) (hl : bs.length ≤ 9223372036854775807) (ha : k ≤ 1099511627770) (hC : Cur w p co cap bs k sd) :
  Calls Tryz.prog 42 #[.pointer (some ⟨p, 0, none⟩), .int .i64 n] w fun e w' => (∃ x, e = .returned (.int .i64 x) ∧ 0 ≤ x ∧ (x < n ∨ x = 0)) ∧ Drawn w p co cap bs k 2 w' := by
 by_cases h1 : n ≤ 1
 ·have h1' : decide (n ≤ 1) = true := by simpa using h1
  go_enter Tryz.func42, Tryz.ntmps42;go_wp2;go_ret;exact ⟨⟨0, rfl, by omega, .inr rfl⟩, k, sd, by omega, hC, OnlyAt.refl _ _⟩
 have h1' : decide (n ≤ 1) = false := by simpa using h1
 by_cases h2 : 200 < n
 ·have h2' : decide (200 < n) = true := by simpa using h2
  go_enter Tryz.func42, Tryz.ntmps42;go_wp2_with fail;refine (next_any p co cap bs k sd w hl (by omega) hC).mono ?_;rintro e w1 ⟨x, sd1, rfl, ⟨x0, x1⟩, C1, O1⟩;go_wp2_with fail;refine (next_any p co cap bs (k + 1) sd1 w1 hl (by omega) C1).mono ?_;rintro e w2 ⟨y, sd2, rfl, ⟨y0, y1⟩, C2, O2⟩;have hn0 : (n == 0) = false := by simp; omega
  go_wp2;go_ret;exact ⟨⟨(x * 256 + y) % n, rfl, Int.emod_nonneg _ (by omega), .inl (Int.emod_lt_of_pos _ (by omega))⟩, k + 1 + 1, sd2, by omega, C2, O1.trans O2⟩
 ·have h2' : decide (200 < n) = false := by simpa using h2
  go_enter Tryz.func42, Tryz.ntmps42;go_wp2_with fail;refine (next_any p co cap bs k sd w hl (by omega) hC).mono ?_;rintro e w1 ⟨x, sd1, rfl, ⟨x0, x1⟩, C1, O1⟩;have hn0 : (n == 0) = false := by simp; omega
  go_wp2;go_ret;exact ⟨⟨x % n, rfl, Int.emod_nonneg _ (by omega), .inl (Int.emod_lt_of_pos _ (by omega))⟩, k + 1, sd1, by omega, C1, O1⟩
set_option maxHeartbeats 2000000 in
theorem one_any (n : Int) (p : Nat) (co : Option Addr) (cap : Nat) (bs : List Int) (k : Nat) (sd : Int) (w : World) (hl : bs.length ≤ 9223372036854775807) (ha : k ≤ 1099511627770) (hC : Cur w p co cap bs k sd) :
  Calls Tryz.prog 43 #[.pointer (some ⟨p, 0, none⟩), .int .i64 n] w fun e w' => (∃ x, e = .returned (.bool x)) ∧ Drawn w p co cap bs k 2 w' := by
 go_enter Tryz.func43, Tryz.ntmps43;go_wp2_with fail;refine (pick_any n p co cap bs k sd w hl ha hC).mono ?_;rintro e w1 ⟨⟨x, rfl, x0, x1⟩, hD⟩;go_wp2;go_ret;exact ⟨⟨_, rfl⟩, hD⟩
set_option maxHeartbeats 2000000 in
theorem among_any (b off : Nat) (zs : List Int) (lc : Nat) (p : Nat) (co : Option Addr) (cap : Nat) (bs : List Int) (k : Nat) (sd : Int) (w : World) (hl : bs.length ≤ 9223372036854775807) (ha : k ≤ 1099511627770) (hC : Cur w p co cap bs k sd) (h0 : 0 < zs.length) (h9 : zs.length ≤ 1048576) (hz : ∀ j, j < zs.length → w.cell? ⟨b, off + j, none⟩ = some (.int .i64 (zs[j]?.getD 0))) (hb : b ≠ p) :
  Calls Tryz.prog 47 #[.pointer (some ⟨p, 0, none⟩), .slice (some ⟨b, off, none⟩) zs.length lc] w fun e w' => (∃ j, j < zs.length ∧ e = .returned (.int .i64 (zs[j]?.getD 0))) ∧ Drawn w p co cap bs k 2 w' := by
 go_enter Tryz.func47, Tryz.ntmps47;go_wp2_with fail;refine (pick_any (zs.length : Int) p co cap bs k sd w hl ha hC).mono ?_;rintro e w1 ⟨⟨x, rfl, x0, x1⟩, hD⟩;obtain ⟨j, rfl⟩ : ∃ j : Nat, x = j := ⟨x.toNat, by omega⟩;have hj : j < zs.length := by omega
 have hd : w1.cell? ⟨b, off + j, none⟩ = some (.int .i64 (zs[j]?.getD 0)) := by
  obtain ⟨_, _, _, _, O⟩ := hD;exact (World.cell?_of_block (a := ⟨b, off + j, none⟩) (O.block b fun g e => by cases e; exact hb)).trans (hz j hj)
 obtain ⟨v, hv⟩ : ∃ v, zs[j]?.getD 0 = v := ⟨_, rfl⟩;rw [hv] at hd;go_wp2;go_ret;exact ⟨⟨j, hj, by rw [hv]; rfl⟩, hD⟩
end
section
open Go.RowKit

/-- Nothing that was there has turned but for the block p. -/
structure Grew (p : Nat) (w w' : World) : Prop where
 os : w'.os = w.os
 tape : w'.tape = w.tape
 output : w'.output = w.output
 size : w.heap.size ≤ w'.heap.size
 block : ∀ j, j < w.heap.size → j ≠ p → w'.heap[j]? = w.heap[j]?
theorem Grew.refl (p : Nat) (w : World) : Grew p w w := ⟨rfl, rfl, rfl, Nat.le_refl _, fun _ _ _ => rfl⟩
theorem Grew.trans {p : Nat} {a b c : World} (h : Grew p a b) (k : Grew p b c) : Grew p a c := ⟨k.os.trans h.os, k.tape.trans h.tape, k.output.trans h.output, Nat.le_trans h.size k.size, fun j hj hp => (k.block j (Nat.lt_of_lt_of_le hj h.size) hp).trans (h.block j hj hp)⟩
theorem Grew.of_only {p : Nat} {w w' : World} (h : OnlyAt (some ⟨p, 0, none⟩) w w') : Grew p w w' := ⟨h.os, h.tape, h.output, by rw [h.size]; exact Nat.le_refl _, fun j _ hp => h.block j fun g e => by cases e; exact hp⟩
theorem Grew.of_below {p : Nat} {w w' : World} (h : Below w.heap.size w w') : Grew p w w' := ⟨h.os, h.tape, h.output, h.size, fun j hj _ => h.block j hj⟩
theorem Grew.alloc (p : Nat) (w : World) (o : Obj) : Grew p w (w.alloc o) := .of_below (below1 w o)
theorem Grew.set {p : Nat} {w w' : World} (h : Grew p w w') {a : Addr} (ha : w.heap.size ≤ a.block) (u : Value) : Grew p w (w'.setCell a u) := ⟨h.os, h.tape, h.output, by simpa [World.setCell] using h.size, fun j hj hp => (Below.heap_setCell w' a u j (by omega)).trans (h.block j hj hp)⟩
theorem Cur.keep {W W' : World} {p : Nat} {co : Option Addr} {cap : Nat} {bs : List Int} {k : Nat} {sd : Int} (h : Cur W p co cap bs k sd) (hs : W.heap.size ≤ W'.heap.size) (hb : ∀ j, j ≤ p → W'.heap[j]? = W.heap[j]?) : Cur W' p co cap bs k sd := by
 obtain ⟨hp, ⟨c0, c1, c2⟩, ⟨f0, f1, f2⟩, hB⟩ := h;have hc : ∀ i, W'.cell? ⟨p, i, none⟩ = W.cell? ⟨p, i, none⟩ := fun i => World.cell?_of_block (a := ⟨p, i, none⟩) (hb p (Nat.le_refl _))
 have hf : ∀ i, W'.frozen? ⟨p, i, none⟩ = W.frozen? ⟨p, i, none⟩ := fun i => World.frozen?_of_block (a := ⟨p, i, none⟩) (hb p (Nat.le_refl _))
 refine ⟨Nat.lt_of_lt_of_le hp hs, ⟨(hc 0).trans c0, (hc 1).trans c1, (hc 2).trans c2⟩, ⟨(hf 0).trans f0, (hf 1).trans f1, (hf 2).trans f2⟩, ?_⟩
 rcases hB with hB | ⟨b, off, e, hbp, hc⟩
 ·exact .inl hB
 ·exact .inr ⟨b, off, e, hbp, fun j hj => ⟨(World.cell?_of_block (a := ⟨b, off + j, none⟩) (hb b (by omega))).trans (hc j hj).1, (hc j hj).2⟩⟩
theorem Cur.later {W W' : World} {p : Nat} {co : Option Addr} {cap : Nat} {bs : List Int} {k : Nat} {sd : Int} (h : Cur W p co cap bs k sd) (hb : Below W.heap.size W W') : Cur W' p co cap bs k sd := h.keep hb.size fun j hj => hb.block j (by have := h.1; omega)
theorem Cur.other {W : World} {p : Nat} {co : Option Addr} {cap : Nat} {bs : List Int} {k : Nat} {sd : Int} (h : Cur W p co cap bs k sd) {a : Addr} (ha : p < a.block) (u : Value) : Cur (W.setCell a u) p co cap bs k sd := h.keep (by simp [World.setCell]) fun j hj => Below.heap_setCell W a u j (by omega)
/-- What a draw leaves that makes memory. -/
def DrawnG (w : World) (p : Nat) (co : Option Addr) (cap : Nat) (bs : List Int) (k d : Nat) (w' : World) : Prop := ∃ k' sd', k' ≤ k + d ∧ Cur w' p co cap bs k' sd' ∧ Grew p w w'
theorem Bx.grew {W W' : World} {q p : Nat} {us : List Value} (h : Bx W q us) (hg : Grew p W W') (hne : q ≠ p) : Bx W' q us := h.keep hg.size (hg.block q h.1 hne)
theorem Grew.below {p B : Nat} {w w' : World} (h : Grew p w w') (hp : B ≤ p) (hB : B ≤ w.heap.size) : Below B w w' := ⟨h.os, h.tape, h.output, h.size, fun k hk => h.block k (by omega) (by omega)⟩
theorem Grew.drew {p : Nat} {w w' : World} (h : Grew p w w') : Grew p w w'.drew := ⟨h.os, h.tape, h.output, h.size, h.block⟩
theorem Grew.from {p : Nat} {w w' : World} (h : Grew p w.drew w') : Grew p w w' := ⟨h.os, h.tape, h.output, h.size, h.block⟩
theorem Cur.drew {W : World} {p : Nat} {co : Option Addr} {cap : Nat} {bs : List Int} {k : Nat} {sd : Int} (h : Cur W p co cap bs k sd) : Cur W.drew p co cap bs k sd := h
theorem Drawn.grew {w w' : World} {p : Nat} {co : Option Addr} {cap : Nat} {bs : List Int} {k d : Nat} (h : Drawn w p co cap bs k d w') : ∃ k' sd', k' ≤ k + d ∧ Cur w' p co cap bs k' sd' ∧ Grew p w w' ∧ w'.heap.size = w.heap.size := by
 obtain ⟨k', sd', h1, h2, h3⟩ := h;exact ⟨k', sd', h1, h2, .of_only h3, h3.size⟩
end
section
open Go.RowKit

set_option maxRecDepth 10000 in
set_option maxHeartbeats 2000000 in
theorem wide_any (p : Nat) (co : Option Addr) (cap : Nat) (bs : List Int) (k : Nat) (sd : Int) (w : World) (hl : bs.length ≤ 9223372036854775807) (ha : k ≤ 1099511627700) (hC : Cur w p co cap bs k sd) :
  Calls Tryz.prog 100 #[.pointer (some ⟨p, 0, none⟩)] w fun e w' => (∃ x, e = .returned (.int .i64 x)) ∧ Drawn w p co cap bs k 8 w' := by
 go_enter Tryz.func100, Tryz.ntmps100;go_wp2
 go_loopw [3, 4] (fun n i wr => ∃ (j : Nat) (v : Int), j ≤ 8 ∧ n = .int .i64 v ∧ i = .int .i64 j ∧ Hid (Drawn w p co cap bs k j wr)) (fun n i wr => 8 - (intOf i).toNat)
 case atStart => exact ⟨0, 0, by omega, rfl, rfl, k, sd, by omega, hC, OnlyAt.refl _ _⟩
 case round =>
  obtain ⟨j, v, hj, rfl, rfl, hD⟩ := hrel
  by_cases h8 : j < 8
  ·have h8' : decide ((j : Int) < 8) = true := by simp; omega
   obtain ⟨k', sd', hk', C', O'⟩ := hD.out;go_wp2_with fail;refine (next_any p co cap bs k' sd' _ hl (by omega) C').mono ?_;rintro e w1 ⟨x, sd1, rfl, ⟨x0, x1⟩, C1, O1⟩;go_wp2;go_roundw
   case rel => exact ⟨j + 1, _, by omega, rfl, by go_num, k' + 1, sd1, by omega, C1, O'.trans O1⟩
   case measure => simp [intOf]; omega
  ·have h8' : decide ((j : Int) < 8) = false := by simp; omega
   obtain rfl : j = 8 := by omega
   go_wp2;go_ret;exact ⟨⟨_, rfl⟩, hD.out⟩
end
section
open Go.RowKit

set_option maxRecDepth 10000 in
set_option maxHeartbeats 4000000 in
theorem sized_any (p : Nat) (co : Option Addr) (cap : Nat) (bs : List Int) (k : Nat) (sd : Int) (w : World) (hl : bs.length ≤ 9223372036854775807) (ha : k ≤ 1099511627600) (hC : Cur w p co cap bs k sd) :
  Calls Tryz.prog 77 #[.pointer (some ⟨p, 0, none⟩)] w fun e w' => (∃ x, e = .returned (.int .i64 x)) ∧ Drawn w p co cap bs k 20 w' := by
 go_enter Tryz.func77, Tryz.ntmps77;go_wp2_with fail;refine (pick_any 5 p co cap bs k sd _ hl (by omega) hC).mono ?_;rintro e w1 ⟨⟨y1, rfl, p1, q1⟩, ⟨k1, sd1, hk1, C1, O1⟩⟩;go_wp2_with fail;refine (pick_any 8 p co cap bs k1 sd1 _ hl (by omega) C1).mono ?_;rintro e w2 ⟨⟨y2, rfl, p2, q2⟩, ⟨k2, sd2, hk2, C2, O2⟩⟩
 by_cases h0 : y2 = 0
 ·have e0 : (y2 == 0) = true := by simp; omega
  clear h0;go_wp2_with fail;refine (pick_any 300 p co cap bs k2 sd2 _ hl (by omega) C2).mono ?_;rintro e w3 ⟨⟨y3, rfl, p3, q3⟩, ⟨k3, sd3, hk3, C3, O3⟩⟩;go_wp2_with fail;refine (one_any 3 p co cap bs k3 sd3 _ hl (by omega) C3).mono ?_;rintro e w9 ⟨⟨b9, rfl⟩, ⟨k9, sd9, hk9, C9, O9⟩⟩;have hO := (((O1).trans O2).trans O3).trans O9
  cases b9
  ·go_wp2;go_ret;exact ⟨⟨_, rfl⟩, k9, sd9, by omega, C9, hO⟩
  ·go_wp2;go_ret;exact ⟨⟨_, rfl⟩, k9, sd9, by omega, C9, hO⟩
 by_cases h1 : y2 = 1
 ·have e0 : (y2 == 0) = false := by simp; omega
  have e1 : (y2 == 1) = true := by simp; omega
  clear h1;go_wp2_with fail;refine (wide_any p co cap bs k2 sd2 _ hl (by omega) C2).mono ?_;rintro e w3 ⟨⟨y3, rfl⟩, ⟨k3, sd3, hk3, C3, O3⟩⟩;go_wp2_with fail;refine (pick_any 64 p co cap bs k3 sd3 _ hl (by omega) C3).mono ?_;rintro e w4 ⟨⟨y4, rfl, p4, q4⟩, ⟨k4, sd4, hk4, C4, O4⟩⟩;have hc : IntKind.u64.wrap y4 = y4 := by simp [IntKind.wrap, IntKind.bits, IntKind.signed]; omega
  go_wp2_with fail;refine (one_any 3 p co cap bs k4 sd4 _ hl (by omega) C4).mono ?_;rintro e w9 ⟨⟨b9, rfl⟩, ⟨k9, sd9, hk9, C9, O9⟩⟩;have hO := ((((O1).trans O2).trans O3).trans O4).trans O9
  cases b9
  ·go_wp2;go_ret;exact ⟨⟨_, rfl⟩, k9, sd9, by omega, C9, hO⟩
  ·go_wp2;go_ret;exact ⟨⟨_, rfl⟩, k9, sd9, by omega, C9, hO⟩
 by_cases h2 : y2 = 2
 ·have e0 : (y2 == 0) = false := by simp; omega
  have e1 : (y2 == 1) = false := by simp; omega
  have e2 : (y2 == 2) = true := by simp; omega
  clear h2;go_wp2_with fail;refine (pick_any 64 p co cap bs k2 sd2 _ hl (by omega) C2).mono ?_;rintro e w3 ⟨⟨y3, rfl, p3, q3⟩, ⟨k3, sd3, hk3, C3, O3⟩⟩;go_wp2_with fail;refine (one_any 3 p co cap bs k3 sd3 _ hl (by omega) C3).mono ?_;rintro e w9 ⟨⟨b9, rfl⟩, ⟨k9, sd9, hk9, C9, O9⟩⟩;have hO := (((O1).trans O2).trans O3).trans O9
  cases b9
  ·go_wp2;go_ret;exact ⟨⟨_, rfl⟩, k9, sd9, by omega, C9, hO⟩
  ·go_wp2;go_ret;exact ⟨⟨_, rfl⟩, k9, sd9, by omega, C9, hO⟩
 by_cases h3 : y2 = 3
 ·have e0 : (y2 == 0) = false := by simp; omega
  have e1 : (y2 == 1) = false := by simp; omega
  have e2 : (y2 == 2) = false := by simp; omega
  have e3 : (y2 == 3) = true := by simp; omega
  clear h3;go_wp2_with fail;refine (pick_any 64 p co cap bs k2 sd2 _ hl (by omega) C2).mono ?_;rintro e w3 ⟨⟨y3, rfl, p3, q3⟩, ⟨k3, sd3, hk3, C3, O3⟩⟩;go_wp2_with fail;refine (one_any 3 p co cap bs k3 sd3 _ hl (by omega) C3).mono ?_;rintro e w9 ⟨⟨b9, rfl⟩, ⟨k9, sd9, hk9, C9, O9⟩⟩;have hO := (((O1).trans O2).trans O3).trans O9
  cases b9
  ·go_wp2;go_ret;exact ⟨⟨_, rfl⟩, k9, sd9, by omega, C9, hO⟩
  ·go_wp2;go_ret;exact ⟨⟨_, rfl⟩, k9, sd9, by omega, C9, hO⟩
 have e0 : (y2 == 0) = false := by simp; omega
 have e1 : (y2 == 1) = false := by simp; omega
 have e2 : (y2 == 2) = false := by simp; omega
 have e3 : (y2 == 3) = false := by simp; omega
 go_wp2_with fail;refine (one_any 3 p co cap bs k2 sd2 _ hl (by omega) C2).mono ?_;rintro e w9 ⟨⟨b9, rfl⟩, ⟨k9, sd9, hk9, C9, O9⟩⟩;have hO := ((O1).trans O2).trans O9
 cases b9
 ·go_wp2;go_ret;exact ⟨⟨_, rfl⟩, k9, sd9, by omega, C9, hO⟩
 ·go_wp2;go_ret;exact ⟨⟨_, rfl⟩, k9, sd9, by omega, C9, hO⟩
end
section
open Go.RowKit

/-- A number is a value. -/
def valB (n : Int) : Bool := decide (-1000000 ≤ n) && decide (n ≤ 1000000)
/-- A stage is good. -/
def goodSt (k a b : Int) : Bool :=
 if k = 1 then (decide (-100 ≤ a) && decide (a ≤ 100)) && valB b
 else if k = 2 ∨ k = 4 then (decide (1 ≤ a) && decide (a ≤ 1000)) && (decide (0 ≤ b) && decide (b ≤ a - 1))
 else if k = 3 then (decide (1 ≤ a) && decide (a ≤ 3)) && (decide (-1000 ≤ b) && decide (b ≤ 1000))
 else false
theorem goodSt1 (a b : Int) : goodSt 1 a b = ((decide (-100 ≤ a) && decide (a ≤ 100)) && valB b) := rfl
theorem goodSt2 (a b : Int) : goodSt 2 a b = ((decide (1 ≤ a) && decide (a ≤ 1000)) && (decide (0 ≤ b) && decide (b ≤ a - 1))) := rfl
theorem goodSt4 (a b : Int) : goodSt 4 a b = ((decide (1 ≤ a) && decide (a ≤ 1000)) && (decide (0 ≤ b) && decide (b ≤ a - 1))) := rfl
theorem goodSt3 (a b : Int) : goodSt 3 a b = ((decide (1 ≤ a) && decide (a ≤ 3)) && (decide (-1000 ≤ b) && decide (b ≤ 1000))) := rfl
theorem goodSt0 {k a b : Int} (h1 : k ≠ 1) (h2 : k ≠ 2) (h3 : k ≠ 3) (h4 : k ≠ 4) : goodSt k a b = false := by
 unfold goodSt; rw [if_neg h1, if_neg (by omega), if_neg h3]
/-- The kind is one of the four, or none. -/
theorem kinds (k : Int) : k = 1 ∨ k = 2 ∨ k = 3 ∨ k = 4 ∨ (k ≠ 1 ∧ k ≠ 2 ∧ k ≠ 3 ∧ k ≠ 4) := by omega
set_option maxHeartbeats 400000 in
theorem l7Value_is (n : Int) (w : World) (b : Bool) (hb : valB n = b) :
  Calls Tryz.prog 35 #[.int .i64 n] w fun e w' => e = .returned (.bool b) ∧ w' = w := by
 go_enter Tryz.func35, Tryz.ntmps35;go_wp2_with fail;refine (l1In_is n (-1000000) 1000000 _ b hb).mono ?_;rintro e w1 ⟨rfl, rfl⟩;go_wp2;go_ret;exact ⟨rfl, rfl⟩
set_option maxHeartbeats 400000 in
theorem isValue_is (n : Int) (w : World) (b : Bool) (hb : valB n = b) :
  Calls Tryz.prog 28 #[.int .i64 n] w fun e w' => e = .returned (.bool b) ∧ w' = w := by
 subst hb
 by_cases h : -1000000 ≤ n
 ·go_enter Tryz.func28, Tryz.ntmps28;go_wp2;go_ret;exact ⟨ret_bool (by simp [h, valB]), rfl⟩
 ·have h' : decide (-1000000 ≤ n) = false := by simpa using h
  go_enter Tryz.func28, Tryz.ntmps28;go_wp2;go_ret;exact ⟨ret_bool (by simp [valB]; omega), rfl⟩
set_option maxHeartbeats 4000000 in
theorem specGood_is (k a b : Int) (w : World) (r : Bool) (hr : goodSt k a b = r) :
  Calls Tryz.prog 45 #[.agg #[.int .i64 k, .int .i64 a, .int .i64 b]] w fun e w' => e = .returned (.bool r) ∧ w' = w.alloc (.cells #[.int .i64 k, .int .i64 a, .int .i64 b] 82) := by
 have HR : Hid (goodSt k a b = r) := hr;clear hr
 rcases kinds k with rfl | rfl | rfl | rfl | ⟨h1, h2, h3, h4⟩
 ·rcases hb : (decide (-100 ≤ a) && decide (a ≤ 100)) with _ | _
  ·have hc : Hid ((decide (-100 ≤ a) && decide (a ≤ 100)) = false) := hb;clear hb;go_enter Tryz.func45, Tryz.ntmps45;go_wp2_with fail;refine (l1In_is a (-100) 100 _ _ hc.out).mono ?_;rintro e w1 ⟨rfl, hw1⟩;rw [hw1]; clear hw1 w1
   go_wp2;go_ret;exact ⟨ret_bool (by rw [← HR.out, goodSt1, hc.out]; rfl), rfl⟩
  ·have hc : Hid ((decide (-100 ≤ a) && decide (a ≤ 100)) = true) := hb;clear hb;have hd : Hid (r = (valB b)) := by rw [← HR.out, goodSt1, hc.out]; exact Bool.true_and _
   go_enter Tryz.func45, Tryz.ntmps45;go_wp2_with fail;refine (l1In_is a (-100) 100 _ _ hc.out).mono ?_;rintro e w1 ⟨rfl, hw1⟩;rw [hw1]; clear hw1 w1
   go_wp2_with fail;refine (l7Value_is b _ _ rfl).mono ?_;rintro e w1 ⟨rfl, hw1⟩;rw [hw1]; clear hw1 w1
   rw [← hd.out];go_wp2;go_ret;exact ⟨rfl, rfl⟩
 ·rcases hb : (decide (1 ≤ a) && decide (a ≤ 1000)) with _ | _
  ·have hc : Hid ((decide (1 ≤ a) && decide (a ≤ 1000)) = false) := hb;clear hb;go_enter Tryz.func45, Tryz.ntmps45;go_wp2_with fail;refine (l1In_is a 1 1000 _ _ hc.out).mono ?_;rintro e w1 ⟨rfl, hw1⟩;rw [hw1]; clear hw1 w1
   go_wp2;go_ret;exact ⟨ret_bool (by rw [← HR.out, goodSt2, hc.out]; rfl), rfl⟩
  ·have hc : Hid ((decide (1 ≤ a) && decide (a ≤ 1000)) = true) := hb;clear hb;have ha : 1 ≤ a ∧ a ≤ 1000 := by simpa using hc.out
   have hd : Hid (r = (decide (0 ≤ b) && decide (b ≤ a - 1))) := by rw [← HR.out, goodSt2, hc.out]; exact Bool.true_and _
   go_enter Tryz.func45, Tryz.ntmps45;go_wp2_with fail;refine (l1In_is a 1 1000 _ _ hc.out).mono ?_;rintro e w1 ⟨rfl, hw1⟩;rw [hw1]; clear hw1 w1
   go_wp2_with fail;refine (l1In_is b 0 (a - 1) _ _ rfl).mono ?_;rintro e w1 ⟨rfl, hw1⟩;rw [hw1]; clear hw1 w1
   rw [← hd.out];go_wp2;go_ret;exact ⟨rfl, rfl⟩
 ·rcases hb : (decide (1 ≤ a) && decide (a ≤ 3)) with _ | _
  ·have hc : Hid ((decide (1 ≤ a) && decide (a ≤ 3)) = false) := hb;clear hb;go_enter Tryz.func45, Tryz.ntmps45;go_wp2_with fail;refine (l1In_is a 1 3 _ _ hc.out).mono ?_;rintro e w1 ⟨rfl, hw1⟩;rw [hw1]; clear hw1 w1
   go_wp2;go_ret;exact ⟨ret_bool (by rw [← HR.out, goodSt3, hc.out]; rfl), rfl⟩
  ·have hc : Hid ((decide (1 ≤ a) && decide (a ≤ 3)) = true) := hb;clear hb;have hd : Hid (r = (decide (-1000 ≤ b) && decide (b ≤ 1000))) := by rw [← HR.out, goodSt3, hc.out]; exact Bool.true_and _
   go_enter Tryz.func45, Tryz.ntmps45;go_wp2_with fail;refine (l1In_is a 1 3 _ _ hc.out).mono ?_;rintro e w1 ⟨rfl, hw1⟩;rw [hw1]; clear hw1 w1
   go_wp2_with fail;refine (l1In_is b (-1000) 1000 _ _ rfl).mono ?_;rintro e w1 ⟨rfl, hw1⟩;rw [hw1]; clear hw1 w1
   rw [← hd.out];go_wp2;go_ret;exact ⟨rfl, rfl⟩
 ·rcases hb : (decide (1 ≤ a) && decide (a ≤ 1000)) with _ | _
  ·have hc : Hid ((decide (1 ≤ a) && decide (a ≤ 1000)) = false) := hb;clear hb;go_enter Tryz.func45, Tryz.ntmps45;go_wp2_with fail;refine (l1In_is a 1 1000 _ _ hc.out).mono ?_;rintro e w1 ⟨rfl, hw1⟩;rw [hw1]; clear hw1 w1
   go_wp2;go_ret;exact ⟨ret_bool (by rw [← HR.out, goodSt4, hc.out]; rfl), rfl⟩
  ·have hc : Hid ((decide (1 ≤ a) && decide (a ≤ 1000)) = true) := hb;clear hb;have ha : 1 ≤ a ∧ a ≤ 1000 := by simpa using hc.out
   have hd : Hid (r = (decide (0 ≤ b) && decide (b ≤ a - 1))) := by rw [← HR.out, goodSt4, hc.out]; exact Bool.true_and _
   go_enter Tryz.func45, Tryz.ntmps45;go_wp2_with fail;refine (l1In_is a 1 1000 _ _ hc.out).mono ?_;rintro e w1 ⟨rfl, hw1⟩;rw [hw1]; clear hw1 w1
   go_wp2_with fail;refine (l1In_is b 0 (a - 1) _ _ rfl).mono ?_;rintro e w1 ⟨rfl, hw1⟩;rw [hw1]; clear hw1 w1
   rw [← hd.out];go_wp2;go_ret;exact ⟨rfl, rfl⟩
 ·have k1 : (k == 1) = false := by simpa using h1
  have k2 : (k == 2) = false := by simpa using h2
  have k3 : (k == 3) = false := by simpa using h3
  have k4 : (k == 4) = false := by simpa using h4
  have hd : Hid (r = false) := HR.out.symm.trans (goodSt0 h1 h2 h3 h4);clear h1 h2 h3 h4;go_enter Tryz.func45, Tryz.ntmps45;go_wp2;go_ret;exact ⟨ret_bool hd.out.symm, rfl⟩
end
section
open Go.RowKit

set_option maxHeartbeats 2000000 in
theorem goodMap_is (k a b : Int) (w : World) (r : Bool) (hr : ((decide (-100 ≤ a) && decide (a ≤ 100)) && valB b) = r) :
  Calls Tryz.prog 155 #[.agg #[.int .i64 k, .int .i64 a, .int .i64 b]] w fun e w' => e = .returned (.bool r) ∧ w' = w.alloc (.cells #[.int .i64 k, .int .i64 a, .int .i64 b] 82) := by
 subst hr
 by_cases h1 : -100 ≤ a
 ·by_cases h2 : a ≤ 100
  ·have hd : Hid ((decide (-100 ≤ a) && decide (a ≤ 100) && valB b) = valB b) := by show _ = _; simp [h1, h2]
   rw [hd.out];go_enter Tryz.func155, Tryz.ntmps155;go_wp2_with fail;refine (isValue_is b _ _ rfl).mono ?_;rintro e w1 ⟨rfl, hw1⟩;rw [hw1]; clear hw1 w1
   go_wp2;go_ret;exact ⟨rfl, rfl⟩
  ·have h2' : decide (a ≤ 100) = false := by simpa using h2
   have hd : Hid ((decide (-100 ≤ a) && decide (a ≤ 100) && valB b) = false) := by show _ = _; simp [h1, h2]
   rw [hd.out];go_enter Tryz.func155, Tryz.ntmps155;go_wp2;go_ret;exact ⟨rfl, rfl⟩
 ·have h1' : decide (-100 ≤ a) = false := by simpa using h1
  have hd : Hid ((decide (-100 ≤ a) && decide (a ≤ 100) && valB b) = false) := by show _ = _; simp [h1]
  rw [hd.out];go_enter Tryz.func155, Tryz.ntmps155;go_wp2;go_ret;exact ⟨rfl, rfl⟩
set_option maxHeartbeats 2000000 in
theorem goodRest_is (k a b : Int) (w : World) (r : Bool) (hr : ((decide (1 ≤ a) && decide (a ≤ 1000)) && (decide (0 ≤ b) && decide (b ≤ a - 1))) = r) :
  Calls Tryz.prog 158 #[.agg #[.int .i64 k, .int .i64 a, .int .i64 b]] w fun e w' => e = .returned (.bool r) ∧ w' = w.alloc (.cells #[.int .i64 k, .int .i64 a, .int .i64 b] 82) := by
 subst hr
 by_cases h0 : 1 ≤ a
 ·skip
  by_cases h1 : a ≤ 1000
  ·skip
   by_cases h2 : 0 ≤ b
   ·skip
    by_cases h3 : b < a
    ·skip
     have hd : Hid (((decide (1 ≤ a) && decide (a ≤ 1000)) && (decide (0 ≤ b) && decide (b ≤ a - 1))) = true) := by show _ = _; simp; omega
     rw [hd.out];go_enter Tryz.func158, Tryz.ntmps158;go_wp2;go_ret;exact ⟨rfl, rfl⟩
    ·have hn : decide (b < a) = false := by simpa using h3
     have hd : Hid (((decide (1 ≤ a) && decide (a ≤ 1000)) && (decide (0 ≤ b) && decide (b ≤ a - 1))) = false) := by show _ = _; rcases hx : ((decide (1 ≤ a) && decide (a ≤ 1000)) && (decide (0 ≤ b) && decide (b ≤ a - 1))) with _ | _ <;> simp at hx <;> first | rfl | omega
     rw [hd.out];go_enter Tryz.func158, Tryz.ntmps158;go_wp2;go_ret;exact ⟨rfl, rfl⟩
   ·have hn : decide (0 ≤ b) = false := by simpa using h2
    have hd : Hid (((decide (1 ≤ a) && decide (a ≤ 1000)) && (decide (0 ≤ b) && decide (b ≤ a - 1))) = false) := by show _ = _; rcases hx : ((decide (1 ≤ a) && decide (a ≤ 1000)) && (decide (0 ≤ b) && decide (b ≤ a - 1))) with _ | _ <;> simp at hx <;> first | rfl | omega
    rw [hd.out];go_enter Tryz.func158, Tryz.ntmps158;go_wp2;go_ret;exact ⟨rfl, rfl⟩
  ·have hn : decide (a ≤ 1000) = false := by simpa using h1
   have hd : Hid (((decide (1 ≤ a) && decide (a ≤ 1000)) && (decide (0 ≤ b) && decide (b ≤ a - 1))) = false) := by show _ = _; rcases hx : ((decide (1 ≤ a) && decide (a ≤ 1000)) && (decide (0 ≤ b) && decide (b ≤ a - 1))) with _ | _ <;> simp at hx <;> first | rfl | omega
   rw [hd.out];go_enter Tryz.func158, Tryz.ntmps158;go_wp2;go_ret;exact ⟨rfl, rfl⟩
 ·have hn : decide (1 ≤ a) = false := by simpa using h0
  have hd : Hid (((decide (1 ≤ a) && decide (a ≤ 1000)) && (decide (0 ≤ b) && decide (b ≤ a - 1))) = false) := by show _ = _; rcases hx : ((decide (1 ≤ a) && decide (a ≤ 1000)) && (decide (0 ≤ b) && decide (b ≤ a - 1))) with _ | _ <;> simp at hx <;> first | rfl | omega
  rw [hd.out];go_enter Tryz.func158, Tryz.ntmps158;go_wp2;go_ret;exact ⟨rfl, rfl⟩
set_option maxHeartbeats 2000000 in
theorem goodExpand_is (k a b : Int) (w : World) (r : Bool) (hr : ((decide (1 ≤ a) && decide (a ≤ 3)) && (decide (-1000 ≤ b) && decide (b ≤ 1000))) = r) :
  Calls Tryz.prog 160 #[.agg #[.int .i64 k, .int .i64 a, .int .i64 b]] w fun e w' => e = .returned (.bool r) ∧ w' = w.alloc (.cells #[.int .i64 k, .int .i64 a, .int .i64 b] 82) := by
 subst hr
 by_cases h0 : 1 ≤ a
 ·skip
  by_cases h1 : a ≤ 3
  ·skip
   by_cases h2 : -1000 ≤ b
   ·skip
    by_cases h3 : b ≤ 1000
    ·skip
     have hd : Hid (((decide (1 ≤ a) && decide (a ≤ 3)) && (decide (-1000 ≤ b) && decide (b ≤ 1000))) = true) := by show _ = _; simp; omega
     rw [hd.out];go_enter Tryz.func160, Tryz.ntmps160;go_wp2;go_ret;exact ⟨rfl, rfl⟩
    ·have hn : decide (b ≤ 1000) = false := by simpa using h3
     have hd : Hid (((decide (1 ≤ a) && decide (a ≤ 3)) && (decide (-1000 ≤ b) && decide (b ≤ 1000))) = false) := by show _ = _; rcases hx : ((decide (1 ≤ a) && decide (a ≤ 3)) && (decide (-1000 ≤ b) && decide (b ≤ 1000))) with _ | _ <;> simp at hx <;> first | rfl | omega
     rw [hd.out];go_enter Tryz.func160, Tryz.ntmps160;go_wp2;go_ret;exact ⟨rfl, rfl⟩
   ·have hn : decide (-1000 ≤ b) = false := by simpa using h2
    have hd : Hid (((decide (1 ≤ a) && decide (a ≤ 3)) && (decide (-1000 ≤ b) && decide (b ≤ 1000))) = false) := by show _ = _; rcases hx : ((decide (1 ≤ a) && decide (a ≤ 3)) && (decide (-1000 ≤ b) && decide (b ≤ 1000))) with _ | _ <;> simp at hx <;> first | rfl | omega
    rw [hd.out];go_enter Tryz.func160, Tryz.ntmps160;go_wp2;go_ret;exact ⟨rfl, rfl⟩
  ·have hn : decide (a ≤ 3) = false := by simpa using h1
   have hd : Hid (((decide (1 ≤ a) && decide (a ≤ 3)) && (decide (-1000 ≤ b) && decide (b ≤ 1000))) = false) := by show _ = _; rcases hx : ((decide (1 ≤ a) && decide (a ≤ 3)) && (decide (-1000 ≤ b) && decide (b ≤ 1000))) with _ | _ <;> simp at hx <;> first | rfl | omega
   rw [hd.out];go_enter Tryz.func160, Tryz.ntmps160;go_wp2;go_ret;exact ⟨rfl, rfl⟩
 ·have hn : decide (1 ≤ a) = false := by simpa using h0
  have hd : Hid (((decide (1 ≤ a) && decide (a ≤ 3)) && (decide (-1000 ≤ b) && decide (b ≤ 1000))) = false) := by show _ = _; rcases hx : ((decide (1 ≤ a) && decide (a ≤ 3)) && (decide (-1000 ≤ b) && decide (b ≤ 1000))) with _ | _ <;> simp at hx <;> first | rfl | omega
  rw [hd.out];go_enter Tryz.func160, Tryz.ntmps160;go_wp2;go_ret;exact ⟨rfl, rfl⟩
set_option maxHeartbeats 2000000 in
theorem kindOf1_is (a b : Int) (w : World) :
  Calls Tryz.prog 127 #[.agg #[.int .i64 1, .int .i64 a, .int .i64 b]] w fun e w' => e = .returned (.tuple #[.agg #[.func (.func 155) #[] #[], .func (.func 156) #[] #[], .func (.func 157) #[] #[]], .bool true]) ∧ Below w.heap.size w w' := by
 go_enter Tryz.func127, Tryz.ntmps127;go_wp2;exact bodyPost_ret (v := .tuple #[.agg #[.func (.func 155) #[] #[], .func (.func 156) #[] #[], .func (.func 157) #[] #[]], .bool true]) (by simp [results, Tryz.results127, go_sem]) rfl ⟨rfl, below2 _ _ _⟩
set_option maxHeartbeats 2000000 in
theorem kindOf2_is (a b : Int) (w : World) :
  Calls Tryz.prog 127 #[.agg #[.int .i64 2, .int .i64 a, .int .i64 b]] w fun e w' => e = .returned (.tuple #[.agg #[.func (.func 158) #[] #[], .func (.func 159) #[] #[], .func (.func 157) #[] #[]], .bool true]) ∧ Below w.heap.size w w' := by
 go_enter Tryz.func127, Tryz.ntmps127;go_wp2;exact bodyPost_ret (v := .tuple #[.agg #[.func (.func 158) #[] #[], .func (.func 159) #[] #[], .func (.func 157) #[] #[]], .bool true]) (by simp [results, Tryz.results127, go_sem]) rfl ⟨rfl, below2 _ _ _⟩
set_option maxHeartbeats 2000000 in
theorem kindOf3_is (a b : Int) (w : World) :
  Calls Tryz.prog 127 #[.agg #[.int .i64 3, .int .i64 a, .int .i64 b]] w fun e w' => e = .returned (.tuple #[.agg #[.func (.func 160) #[] #[], .func (.func 161) #[] #[], .func (.func 162) #[] #[]], .bool true]) ∧ Below w.heap.size w w' := by
 go_enter Tryz.func127, Tryz.ntmps127;go_wp2;exact bodyPost_ret (v := .tuple #[.agg #[.func (.func 160) #[] #[], .func (.func 161) #[] #[], .func (.func 162) #[] #[]], .bool true]) (by simp [results, Tryz.results127, go_sem]) rfl ⟨rfl, below2 _ _ _⟩
set_option maxHeartbeats 2000000 in
theorem kindOf4_is (a b : Int) (w : World) :
  Calls Tryz.prog 127 #[.agg #[.int .i64 4, .int .i64 a, .int .i64 b]] w fun e w' => e = .returned (.tuple #[.agg #[.func (.func 158) #[] #[], .func (.func 163) #[] #[], .func (.func 157) #[] #[]], .bool true]) ∧ Below w.heap.size w w' := by
 go_enter Tryz.func127, Tryz.ntmps127;go_wp2;exact bodyPost_ret (v := .tuple #[.agg #[.func (.func 158) #[] #[], .func (.func 163) #[] #[], .func (.func 157) #[] #[]], .bool true]) (by simp [results, Tryz.results127, go_sem]) rfl ⟨rfl, below2 _ _ _⟩
set_option maxHeartbeats 2000000 in
theorem kindOf0_is (k a b : Int) (w : World) (h1 : k ≠ 1) (h2 : k ≠ 2) (h3 : k ≠ 3) (h4 : k ≠ 4) :
  Calls Tryz.prog 127 #[.agg #[.int .i64 k, .int .i64 a, .int .i64 b]] w fun e w' => e = .returned (.tuple #[.agg #[.nilFunc, .nilFunc, .nilFunc], .bool false]) ∧ Below w.heap.size w w' := by
 have k1 : (k == 1) = false := by simpa using h1
 have k2 : (k == 2) = false := by simpa using h2
 have k3 : (k == 3) = false := by simpa using h3
 have k4 : (k == 4) = false := by simpa using h4
 clear h1 h2 h3 h4;go_enter Tryz.func127, Tryz.ntmps127;go_wp2;exact bodyPost_ret (v := .tuple #[.agg #[.nilFunc, .nilFunc, .nilFunc], .bool false]) (by simp [results, Tryz.results127, go_sem]) rfl ⟨rfl, below2 _ _ _⟩
end
end Go.Proofs.YtllmpinmbajpgaaGreatDoor
