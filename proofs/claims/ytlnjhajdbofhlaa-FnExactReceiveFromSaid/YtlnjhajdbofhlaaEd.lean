/- LeaveChan: both. No conditions but those written. -/
import Derived.Test.YtlnjhajdbofhlaaEc
import Derived.Laws.BitsLemmas
namespace Go.Proofs.Ytlnjhajdbofhlaa
open Go.RowKit

set_option maxRecDepth 10000 in
set_option maxHeartbeats 4000000 in
theorem l3Leave_any (kap : Int) (cl : Bool) (bo : Option Addr) (bc : Nat) (b : List Int) (so : Option Addr) (sc : Nat) (s : List T3) (ro : Option Addr) (rc : Nat) (r : List T3) (task : Int) (w : World) (hls : s.length ≤ 1048576) (hlr : r.length ≤ 1048576) (hzs : TimersIn w.heap.size w so s) (hzr : TimersIn w.heap.size w ro r) :
    Calls Try.prog 128 #[.agg #[.int .i64 kap, .bool cl, .slice bo b.length bc, .slice so s.length sc, .slice ro r.length rc], .int .i64 task] w fun e w' => (∃ so' sc' ro' rc', e = .returned (.agg #[.int .i64 kap, .bool cl, .slice bo b.length bc, .slice so' (outT s task).length sc', .slice ro' (outT r task).length rc']) ∧ FreshC w.heap.size w'.heap.size w' so' sc' (outT s task) ∧ FreshC w.heap.size w'.heap.size w' ro' rc' (outT r task) ∧ Apart so' (outT s task) ro' (outT r task)) ∧ Below w.heap.size w w' := by
  obtain ⟨W2, hW2⟩ : ∃ W2, W2 = (w.alloc (.cells #[.int .i64 kap, .bool cl, .slice bo b.length bc, .slice so s.length sc, .slice ro r.length rc] 26)).alloc (.cells #[.int .i64 0, .bool false, .slice none 0 0, .slice none 0 0, .slice none 0 0] 26) := ⟨_, rfl⟩
  have hB2 : Below w.heap.size w W2 := by rw [hW2]; exact below2 _ _ _
  have A2 : BoxF5 W2 w.heap.size (.int .i64 kap) (.bool cl) (.slice bo b.length bc) (.slice so s.length sc) (.slice ro r.length rc) := by rw [hW2]; exact (BoxF5.new w _ _ _ _ _ _).later (below1 _ _)
  have R2 : BoxF5 W2 (w.heap.size + 1) (.int .i64 0) (.bool false) (.slice none 0 0) (.slice none 0 0) (.slice none 0 0) := by
    have h := BoxF5.new (w.alloc (.cells #[.int .i64 kap, .bool cl, .slice bo b.length bc, .slice so s.length sc, .slice ro r.length rc] 26)) (.int .i64 0) (.bool false) (.slice none 0 0) (.slice none 0 0) (.slice none 0 0) 26
    rw [hW2]; simpa using h
  have HW : Hid (W2 = (w.alloc (.cells #[.int .i64 kap, .bool cl, .slice bo b.length bc, .slice so s.length sc, .slice ro r.length rc] 26)).alloc (.cells #[.int .i64 0, .bool false, .slice none 0 0, .slice none 0 0, .slice none 0 0] 26)) := hW2
  have HS : Hid (W2.heap.size = w.heap.size + 1 + 1) := by rw [hW2]; simp [Hid]
  clear hW2
  obtain ⟨⟨_, a0, a1, a2, a3, a4⟩, af0, af1, af2, af3, af4⟩ := id A2
  go_enter Try.func128, Try.ntmps128
  go_wp2_with fail
  rw [← HW.out]
  refine (l3Without_any so sc s task W2 hls (hzs.later hB2)).mono ?_
  rintro e w3 ⟨⟨so', sc', rfl, hF3, _⟩, hb3⟩
  have hB3 := hB2.trans (hb3.mono hB2.size)
  have B3 := A2.later hb3
  have S3 := R2.later hb3
  have q3 : w.heap.size + 1 + 1 ≤ w3.heap.size := by have := hb3.size; rw [HS.out] at this; exact this
  clear hb3 A2 R2 a0 a1 a2 a3 a4 af0 af1 af2 af3 af4 HW
  obtain ⟨⟨_, a0, a1, a2, a3, a4⟩, af0, af1, af2, af3, af4⟩ := id B3
  obtain ⟨V3, hV3⟩ : ∃ V3, V3 = w3.setCell ⟨w.heap.size, 3, none⟩ (.slice so' (outT s task).length sc') := ⟨_, rfl⟩
  have A3 := B3.set3 (.slice so' (outT s task).length sc')
  have R3 := S3.other ⟨w.heap.size, 3, none⟩ (by simp) (.slice so' (outT s task).length sc')
  rw [← hV3] at A3 R3
  have HS3 : Hid (V3.heap.size = w3.heap.size) := by rw [hV3]; simp [World.setCell, Hid]
  have hBV3 : Below w.heap.size w V3 := by rw [hV3]; exact hB3.setCell (p := ⟨w.heap.size, 3, none⟩) (Nat.le_refl _) _
  have F3 : Hid (FreshC W2.heap.size w3.heap.size V3 so' sc' (outT s task)) := by rw [hV3]; exact hF3.setBelow (by rw [HS.out]; simp; omega) _
  have HV3 : Hid (V3 = w3.setCell ⟨w.heap.size, 3, none⟩ (.slice so' (outT s task).length sc')) := hV3
  clear hV3 B3 S3 hF3
  go_wp2_with fail
  rw [← HV3.out]
  refine (l3Without_any ro rc r task V3 hlr (hzr.later hBV3)).mono ?_
  rintro e w4 ⟨⟨ro', rc', rfl, hF4, _⟩, hb4⟩
  have hB4 := hBV3.trans (hb4.mono hBV3.size)
  have A4 := A3.later hb4
  have R4 := R3.later hb4
  have F4 : Hid (FreshC W2.heap.size w3.heap.size w4 so' sc' (outT s task) ∧ FreshC w3.heap.size w4.heap.size w4 ro' rc' (outT r task) ∧ w3.heap.size ≤ w4.heap.size) := by rw [HS3.out] at hF4; exact ⟨F3.out.later hb4, hF4, by have := hb4.size; rw [HS3.out] at this; exact this⟩
  clear hb4 hF4 A3 R3 a0 a1 a2 a3 a4 af0 af1 af2 af3 af4 HV3 F3
  obtain ⟨⟨_, a0, a1, a2, a3, a4⟩, af0, af1, af2, af3, af4⟩ := id A4
  obtain ⟨⟨_, r0, r1, r2, r3, r4⟩, rf0, rf1, rf2, rf3, rf4⟩ := id R4
  have HQ : Hid (w.heap.size + 1 + 1 ≤ w3.heap.size) := q3
  clear q3
  go_wp2
  refine bodyPost_ret (v := .agg #[.int .i64 kap, .bool cl, .slice bo b.length bc, .slice so' (outT s task).length sc', .slice ro' (outT r task).length rc']) (by simp [results, Try.results128, go_sem, r0, r1, r2, r3, r4]) rfl ⟨⟨so', sc', ro', rc', rfl, ?_, ?_, apart_of F4.out.1 F4.out.2.1 (Nat.le_refl _)⟩, ?_⟩
  · have h0 := F4.out.1.wide (lo' := w.heap.size + 1 + 1) (hi' := w4.heap.size) (by rw [HS.out]; exact Nat.le_refl _) F4.out.2.2
    have h1 := h0.setBelow (a := ⟨w.heap.size, 4, none⟩) (by simp; omega) (.slice ro' (outT r task).length rc')
    exact (((((h1.setBelow (a := ⟨w.heap.size + 1, 0, none⟩) (by simp) _).setBelow (a := ⟨w.heap.size + 1, 1, none⟩) (by simp) _).setBelow (a := ⟨w.heap.size + 1, 2, none⟩) (by simp) _).setBelow (a := ⟨w.heap.size + 1, 3, none⟩) (by simp) _).setBelow (a := ⟨w.heap.size + 1, 4, none⟩) (by simp) _).wide (by omega) (by simp)
  · have h0 := F4.out.2.1.wide (lo' := w.heap.size + 1 + 1) (hi' := w4.heap.size) HQ.out (Nat.le_refl _)
    have h1 := h0.setBelow (a := ⟨w.heap.size, 4, none⟩) (by simp; omega) (.slice ro' (outT r task).length rc')
    exact (((((h1.setBelow (a := ⟨w.heap.size + 1, 0, none⟩) (by simp) _).setBelow (a := ⟨w.heap.size + 1, 1, none⟩) (by simp) _).setBelow (a := ⟨w.heap.size + 1, 2, none⟩) (by simp) _).setBelow (a := ⟨w.heap.size + 1, 3, none⟩) (by simp) _).setBelow (a := ⟨w.heap.size + 1, 4, none⟩) (by simp) _).wide (by omega) (by simp)
  · exact ((((((hB4.setCell (p := ⟨w.heap.size, 4, none⟩) (by simp) _).setCell (p := ⟨w.heap.size + 1, 0, none⟩) (by simp) _).setCell (p := ⟨w.heap.size + 1, 1, none⟩) (by simp) _).setCell (p := ⟨w.heap.size + 1, 2, none⟩) (by simp) _).setCell (p := ⟨w.heap.size + 1, 3, none⟩) (by simp) _).setCell (p := ⟨w.heap.size + 1, 4, none⟩) (by simp) _)

/-- A channel and a number, the channel in its own memory. -/
def AnsL (w : World) (R : Int × Bool × List Int × List T3 × List T3 × Int) (e : Ending) (w' : World) : Prop :=
  (∃ bo bc so sc ro rc, e = .returned (.tuple #[.agg #[.int .i64 R.1, .bool R.2.1, .slice bo R.2.2.1.length bc, .slice so R.2.2.2.1.length sc, .slice ro R.2.2.2.2.1.length rc], .int .i64 R.2.2.2.2.2]) ∧ FreshCh w.heap.size w'.heap.size w' bo bc R.2.2.1 so sc R.2.2.2.1 ro rc R.2.2.2.2.1) ∧ Below w.heap.size w w'
theorem ansL_of {w W : World} {kap : Int} {cl : Bool} {bo : Option Addr} {bc : Nat} {b : List Int} {so : Option Addr} {sc : Nat} {s : List T3} {ro : Option Addr} {rc : Nat} {r : List T3} {c : Int} (hB : Below w.heap.size w W) (hF : FreshCh (w.heap.size + 1 + 1) W.heap.size W bo bc b so sc s ro rc r) (u0 u1 u2 u3 u4 : Value) :
    AnsL w (kap, cl, b, s, r, c) (.returned (.tuple #[.agg #[.int .i64 kap, .bool cl, .slice bo b.length bc, .slice so s.length sc, .slice ro r.length rc], .int .i64 c])) (((((W.setCell ⟨w.heap.size + 1, 0, none⟩ u0).setCell ⟨w.heap.size + 1, 1, none⟩ u1).setCell ⟨w.heap.size + 1, 2, none⟩ u2).setCell ⟨w.heap.size + 1, 3, none⟩ u3).setCell ⟨w.heap.size + 1, 4, none⟩ u4) := by
  refine ⟨⟨bo, bc, so, sc, ro, rc, rfl, ?_⟩, ?_⟩
  · exact (((((hF.setBelow (a := ⟨w.heap.size + 1, 0, none⟩) (by simp) _).setBelow (a := ⟨w.heap.size + 1, 1, none⟩) (by simp) _).setBelow (a := ⟨w.heap.size + 1, 2, none⟩) (by simp) _).setBelow (a := ⟨w.heap.size + 1, 3, none⟩) (by simp) _).setBelow (a := ⟨w.heap.size + 1, 4, none⟩) (by simp) _).wide (by omega) (by simp)
  · exact (((((hB.setCell (p := ⟨w.heap.size + 1, 0, none⟩) (by simp) _).setCell (p := ⟨w.heap.size + 1, 1, none⟩) (by simp) _).setCell (p := ⟨w.heap.size + 1, 2, none⟩) (by simp) _).setCell (p := ⟨w.heap.size + 1, 3, none⟩) (by simp) _).setCell (p := ⟨w.heap.size + 1, 4, none⟩) (by simp) _)
theorem addr_ne {p q i j : Nat} (h : p ≠ q) : (⟨p, i, none⟩ : Addr) ≠ ⟨q, j, none⟩ := fun e => h (by cases e; rfl)
theorem wrapS (n : Int) (h0 : 0 ≤ n) (h1 : n < 9223372036854775808) : IntKind.i64.wrap n = n := by rw [IntKind.wrap_i64]; omega
theorem freshCh_nil (lo hi : Nat) (W : World) : FreshCh lo hi W none 0 [] none 0 [] none 0 [] := ⟨.inl rfl, .inl rfl, .inl rfl, .inl rfl⟩

/-- LeaveChan. -/
def leaveR (kap : Int) (cl : Bool) (b : List Int) (s r : List T3) (task : Int) : Int × Bool × List Int × List T3 × List T3 × Int :=
  if (goodC kap cl b s r && (decide (0 ≤ task) && decide (task ≤ 29))) = true then (kap, cl, b, outT s task, outT r task, (s.length : Int) + (r.length : Int) - ((outT s task).length : Int) - ((outT r task).length : Int)) else (0, false, [], [], [], -1)
theorem leaveR_len (kap : Int) (cl : Bool) (b : List Int) (s r : List T3) (task : Int) (hl : b.length ≤ 1048576) (hls : s.length ≤ 1048576) (hlr : r.length ≤ 1048576) : (leaveR kap cl b s r task).2.2.1.length ≤ 1048576 ∧ (leaveR kap cl b s r task).2.2.2.1.length ≤ 1048576 ∧ (leaveR kap cl b s r task).2.2.2.2.1.length ≤ 1048576 := by
  have h1 := outT_len s task
  have h2 := outT_len r task
  unfold leaveR
  split
  · exact ⟨hl, by dsimp only; omega, by dsimp only; omega⟩
  · simp
end Go.Proofs.Ytlnjhajdbofhlaa
