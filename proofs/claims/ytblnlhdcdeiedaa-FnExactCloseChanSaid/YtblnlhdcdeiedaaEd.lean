/- LeaveChan: both. No conditions but those written. -/
import Derived.Test.YtblnlhdcdeiedaaEc
import Derived.Laws.BitsLemmas
namespace Go.Proofs.Ytblnlhdcdeiedaa
open Go.RowKit

set_option maxRecDepth 10000 in
set_option maxHeartbeats 4000000 in
theorem l3Leave_any (kap : Int) (cl : Bool) (bo : Option Addr) (bc : Nat) (b : List Int) (so : Option Addr) (sc : Nat) (s : List T3) (ro : Option Addr) (rc : Nat) (r : List T3) (task : Int) (w : World) (hls : s.length ≤ 1048576) (hlr : r.length ≤ 1048576) (hzs : TimersIn w.heap.size w so s) (hzr : TimersIn w.heap.size w ro r) :
    Calls Try.prog 74 #[.agg #[.int .i64 kap, .bool cl, .slice bo b.length bc, .slice so s.length sc, .slice ro r.length rc], .int .i64 task] w fun e w' => (∃ so' sc' ro' rc', e = .returned (.agg #[.int .i64 kap, .bool cl, .slice bo b.length bc, .slice so' (outT s task).length sc', .slice ro' (outT r task).length rc']) ∧ FreshC w.heap.size w'.heap.size w' so' sc' (outT s task) ∧ FreshC w.heap.size w'.heap.size w' ro' rc' (outT r task) ∧ Apart so' (outT s task) ro' (outT r task)) ∧ Below w.heap.size w w' := by
  obtain ⟨W2, hW2⟩ : ∃ W2, W2 = (w.alloc (.cells #[.int .i64 kap, .bool cl, .slice bo b.length bc, .slice so s.length sc, .slice ro r.length rc] 26)).alloc (.cells #[.int .i64 0, .bool false, .slice none 0 0, .slice none 0 0, .slice none 0 0] 26) := ⟨_, rfl⟩
  have hB2 : Below w.heap.size w W2 := by rw [hW2]; exact below2 _ _ _
  have A2 : BoxF5 W2 w.heap.size (.int .i64 kap) (.bool cl) (.slice bo b.length bc) (.slice so s.length sc) (.slice ro r.length rc) := by rw [hW2]; exact (BoxF5.new w _ _ _ _ _ _).later (below1 _ _)
  have R2 : BoxF5 W2 (w.heap.size + 1) (.int .i64 0) (.bool false) (.slice none 0 0) (.slice none 0 0) (.slice none 0 0) := by
    have h := BoxF5.new (w.alloc (.cells #[.int .i64 kap, .bool cl, .slice bo b.length bc, .slice so s.length sc, .slice ro r.length rc] 26)) (.int .i64 0) (.bool false) (.slice none 0 0) (.slice none 0 0) (.slice none 0 0) 26
    rw [hW2]; simpa using h
  have HW : Hid (W2 = (w.alloc (.cells #[.int .i64 kap, .bool cl, .slice bo b.length bc, .slice so s.length sc, .slice ro r.length rc] 26)).alloc (.cells #[.int .i64 0, .bool false, .slice none 0 0, .slice none 0 0, .slice none 0 0] 26)) := hW2
  have HS : Hid (W2.heap.size = w.heap.size + 1 + 1) := by rw [hW2]; simp [Hid]
  clear hW2
  obtain ⟨⟨_, a0, a1, a2, a3, a4⟩, af0, af1, af2, af3, af4⟩ := id A2
  go_enter Try.func74, Try.ntmps74
  go_wp2_with fail
  rw [← HW.out]
  refine (l3Without_any so sc s task W2 hls (hzs.later hB2)).mono ?_
  rintro e w3 ⟨⟨so', sc', rfl, hF3, _⟩, hb3⟩
  have hB3 := hB2.trans (hb3.mono hB2.size)
  have B3 := A2.later hb3
  have S3 := R2.later hb3
  have q3 : w.heap.size + 1 + 1 ≤ w3.heap.size := by have := hb3.size; rw [HS.out] at this; exact this
  clear hb3 A2 R2 a0 a1 a2 a3 a4 af0 af1 af2 af3 af4 HW
  obtain ⟨⟨_, a0, a1, a2, a3, a4⟩, af0, af1, af2, af3, af4⟩ := id B3
  obtain ⟨V3, hV3⟩ : ∃ V3, V3 = w3.setCell ⟨w.heap.size, 3, none⟩ (.slice so' (outT s task).length sc') := ⟨_, rfl⟩
  have A3 := B3.set3 (.slice so' (outT s task).length sc')
  have R3 := S3.other ⟨w.heap.size, 3, none⟩ (by simp) (.slice so' (outT s task).length sc')
  rw [← hV3] at A3 R3
  have HS3 : Hid (V3.heap.size = w3.heap.size) := by rw [hV3]; simp [World.setCell, Hid]
  have hBV3 : Below w.heap.size w V3 := by rw [hV3]; exact hB3.setCell (p := ⟨w.heap.size, 3, none⟩) (Nat.le_refl _) _
  have F3 : Hid (FreshC W2.heap.size w3.heap.size V3 so' sc' (outT s task)) := by rw [hV3]; exact hF3.setBelow (by rw [HS.out]; simp; omega) _
  have HV3 : Hid (V3 = w3.setCell ⟨w.heap.size, 3, none⟩ (.slice so' (outT s task).length sc')) := hV3
  clear hV3 B3 S3 hF3
  go_wp2_with fail
  rw [← HV3.out]
  refine (l3Without_any ro rc r task V3 hlr (hzr.later hBV3)).mono ?_
  rintro e w4 ⟨⟨ro', rc', rfl, hF4, _⟩, hb4⟩
  have hB4 := hBV3.trans (hb4.mono hBV3.size)
  have A4 := A3.later hb4
  have R4 := R3.later hb4
  have F4 : Hid (FreshC W2.heap.size w3.heap.size w4 so' sc' (outT s task) ∧ FreshC w3.heap.size w4.heap.size w4 ro' rc' (outT r task) ∧ w3.heap.size ≤ w4.heap.size) := by rw [HS3.out] at hF4; exact ⟨F3.out.later hb4, hF4, by have := hb4.size; rw [HS3.out] at this; exact this⟩
  clear hb4 hF4 A3 R3 a0 a1 a2 a3 a4 af0 af1 af2 af3 af4 HV3 F3
  obtain ⟨⟨_, a0, a1, a2, a3, a4⟩, af0, af1, af2, af3, af4⟩ := id A4
  obtain ⟨⟨_, r0, r1, r2, r3, r4⟩, rf0, rf1, rf2, rf3, rf4⟩ := id R4
  have HQ : Hid (w.heap.size + 1 + 1 ≤ w3.heap.size) := q3
  clear q3
  go_wp2
  refine bodyPost_ret (v := .agg #[.int .i64 kap, .bool cl, .slice bo b.length bc, .slice so' (outT s task).length sc', .slice ro' (outT r task).length rc']) (by simp [results, Try.results74, go_sem, r0, r1, r2, r3, r4]) rfl ⟨⟨so', sc', ro', rc', rfl, ?_, ?_, apart_of F4.out.1 F4.out.2.1 (Nat.le_refl _)⟩, ?_⟩
  · have h0 := F4.out.1.wide (lo' := w.heap.size + 1 + 1) (hi' := w4.heap.size) (by rw [HS.out]; exact Nat.le_refl _) F4.out.2.2
    have h1 := h0.setBelow (a := ⟨w.heap.size, 4, none⟩) (by simp; omega) (.slice ro' (outT r task).length rc')
    exact (((((h1.setBelow (a := ⟨w.heap.size + 1, 0, none⟩) (by simp) _).setBelow (a := ⟨w.heap.size + 1, 1, none⟩) (by simp) _).setBelow (a := ⟨w.heap.size + 1, 2, none⟩) (by simp) _).setBelow (a := ⟨w.heap.size + 1, 3, none⟩) (by simp) _).setBelow (a := ⟨w.heap.size + 1, 4, none⟩) (by simp) _).wide (by omega) (by simp)
  · have h0 := F4.out.2.1.wide (lo' := w.heap.size + 1 + 1) (hi' := w4.heap.size) HQ.out (Nat.le_refl _)
    have h1 := h0.setBelow (a := ⟨w.heap.size, 4, none⟩) (by simp; omega) (.slice ro' (outT r task).length rc')
    exact (((((h1.setBelow (a := ⟨w.heap.size + 1, 0, none⟩) (by simp) _).setBelow (a := ⟨w.heap.size + 1, 1, none⟩) (by simp) _).setBelow (a := ⟨w.heap.size + 1, 2, none⟩) (by simp) _).setBelow (a := ⟨w.heap.size + 1, 3, none⟩) (by simp) _).setBelow (a := ⟨w.heap.size + 1, 4, none⟩) (by simp) _).wide (by omega) (by simp)
  · exact ((((((hB4.setCell (p := ⟨w.heap.size, 4, none⟩) (by simp) _).setCell (p := ⟨w.heap.size + 1, 0, none⟩) (by simp) _).setCell (p := ⟨w.heap.size + 1, 1, none⟩) (by simp) _).setCell (p := ⟨w.heap.size + 1, 2, none⟩) (by simp) _).setCell (p := ⟨w.heap.size + 1, 3, none⟩) (by simp) _).setCell (p := ⟨w.heap.size + 1, 4, none⟩) (by simp) _)

/-- A channel and a number, the channel in its own memory. -/
def AnsL (w : World) (R : Int × Bool × List Int × List T3 × List T3 × Int) (e : Ending) (w' : World) : Prop :=
  (∃ bo bc so sc ro rc, e = .returned (.tuple #[.agg #[.int .i64 R.1, .bool R.2.1, .slice bo R.2.2.1.length bc, .slice so R.2.2.2.1.length sc, .slice ro R.2.2.2.2.1.length rc], .int .i64 R.2.2.2.2.2]) ∧ FreshCh w.heap.size w'.heap.size w' bo bc R.2.2.1 so sc R.2.2.2.1 ro rc R.2.2.2.2.1) ∧ Below w.heap.size w w'
theorem ansL_of {w W : World} {kap : Int} {cl : Bool} {bo : Option Addr} {bc : Nat} {b : List Int} {so : Option Addr} {sc : Nat} {s : List T3} {ro : Option Addr} {rc : Nat} {r : List T3} {c : Int} (hB : Below w.heap.size w W) (hF : FreshCh (w.heap.size + 1 + 1) W.heap.size W bo bc b so sc s ro rc r) (u0 u1 u2 u3 u4 : Value) :
    AnsL w (kap, cl, b, s, r, c) (.returned (.tuple #[.agg #[.int .i64 kap, .bool cl, .slice bo b.length bc, .slice so s.length sc, .slice ro r.length rc], .int .i64 c])) (((((W.setCell ⟨w.heap.size + 1, 0, none⟩ u0).setCell ⟨w.heap.size + 1, 1, none⟩ u1).setCell ⟨w.heap.size + 1, 2, none⟩ u2).setCell ⟨w.heap.size + 1, 3, none⟩ u3).setCell ⟨w.heap.size + 1, 4, none⟩ u4) := by
  refine ⟨⟨bo, bc, so, sc, ro, rc, rfl, ?_⟩, ?_⟩
  · exact (((((hF.setBelow (a := ⟨w.heap.size + 1, 0, none⟩) (by simp) _).setBelow (a := ⟨w.heap.size + 1, 1, none⟩) (by simp) _).setBelow (a := ⟨w.heap.size + 1, 2, none⟩) (by simp) _).setBelow (a := ⟨w.heap.size + 1, 3, none⟩) (by simp) _).setBelow (a := ⟨w.heap.size + 1, 4, none⟩) (by simp) _).wide (by omega) (by simp)
  · exact (((((hB.setCell (p := ⟨w.heap.size + 1, 0, none⟩) (by simp) _).setCell (p := ⟨w.heap.size + 1, 1, none⟩) (by simp) _).setCell (p := ⟨w.heap.size + 1, 2, none⟩) (by simp) _).setCell (p := ⟨w.heap.size + 1, 3, none⟩) (by simp) _).setCell (p := ⟨w.heap.size + 1, 4, none⟩) (by simp) _)
theorem addr_ne {p q i j : Nat} (h : p ≠ q) : (⟨p, i, none⟩ : Addr) ≠ ⟨q, j, none⟩ := fun e => h (by cases e; rfl)
theorem wrapS (n : Int) (h0 : 0 ≤ n) (h1 : n < 9223372036854775808) : IntKind.i64.wrap n = n := by rw [IntKind.wrap_i64]; omega
theorem freshCh_nil (lo hi : Nat) (W : World) : FreshCh lo hi W none 0 [] none 0 [] none 0 [] := ⟨.inl rfl, .inl rfl, .inl rfl, .inl rfl⟩

/-- LeaveChan. -/
def leaveR (kap : Int) (cl : Bool) (b : List Int) (s r : List T3) (task : Int) : Int × Bool × List Int × List T3 × List T3 × Int :=
  if (goodC kap cl b s r && (decide (0 ≤ task) && decide (task ≤ 29))) = true then (kap, cl, b, outT s task, outT r task, (s.length : Int) + (r.length : Int) - ((outT s task).length : Int) - ((outT r task).length : Int)) else (0, false, [], [], [], -1)
theorem leaveR_len (kap : Int) (cl : Bool) (b : List Int) (s r : List T3) (task : Int) (hl : b.length ≤ 1048576) (hls : s.length ≤ 1048576) (hlr : r.length ≤ 1048576) : (leaveR kap cl b s r task).2.2.1.length ≤ 1048576 ∧ (leaveR kap cl b s r task).2.2.2.1.length ≤ 1048576 ∧ (leaveR kap cl b s r task).2.2.2.2.1.length ≤ 1048576 := by
  have h1 := outT_len s task
  have h2 := outT_len r task
  unfold leaveR
  split
  · exact ⟨hl, by dsimp only; omega, by dsimp only; omega⟩
  · simp

set_option maxRecDepth 10000 in
set_option maxHeartbeats 8000000 in
theorem specLeave_any (kap : Int) (cl : Bool) (bo : Option Addr) (bc : Nat) (b : List Int) (so : Option Addr) (sc : Nat) (s : List T3) (ro : Option Addr) (rc : Nat) (r : List T3) (task : Int) (w : World) (hl : b.length ≤ 1048576) (hls : s.length ≤ 1048576) (hlr : r.length ≤ 1048576) (hz : ChanIn w.heap.size w bo b so s ro r) (hwf : Wf3 bo bc so sc ro rc) :
    Calls Try.prog 36 #[.agg #[.int .i64 kap, .bool cl, .slice bo b.length bc, .slice so s.length sc, .slice ro r.length rc], .int .i64 task] w fun e w' => AnsL w (leaveR kap cl b s r task) e w' := by
  generalize hR : leaveR kap cl b s r task = R
  have HR : Hid (leaveR kap cl b s r task = R) := hR
  clear hR
  obtain ⟨W2, hW2⟩ : ∃ W2, W2 = (w.alloc (.cells #[.int .i64 kap, .bool cl, .slice bo b.length bc, .slice so s.length sc, .slice ro r.length rc] 26)).alloc (.cells #[.int .i64 0, .bool false, .slice none 0 0, .slice none 0 0, .slice none 0 0] 26) := ⟨_, rfl⟩
  have hB2 : Below w.heap.size w W2 := by rw [hW2]; exact below2 _ _ _
  have A2 : BoxF5 W2 w.heap.size (.int .i64 kap) (.bool cl) (.slice bo b.length bc) (.slice so s.length sc) (.slice ro r.length rc) := by rw [hW2]; exact (BoxF5.new w _ _ _ _ _ _).later (below1 _ _)
  have R2 : BoxF5 W2 (w.heap.size + 1) (.int .i64 0) (.bool false) (.slice none 0 0) (.slice none 0 0) (.slice none 0 0) := by
    have h := BoxF5.new (w.alloc (.cells #[.int .i64 kap, .bool cl, .slice bo b.length bc, .slice so s.length sc, .slice ro r.length rc] 26)) (.int .i64 0) (.bool false) (.slice none 0 0) (.slice none 0 0) (.slice none 0 0) 26
    rw [hW2]; simpa using h
  have HW : Hid (W2 = (w.alloc (.cells #[.int .i64 kap, .bool cl, .slice bo b.length bc, .slice so s.length sc, .slice ro r.length rc] 26)).alloc (.cells #[.int .i64 0, .bool false, .slice none 0 0, .slice none 0 0, .slice none 0 0] 26)) := hW2
  have HS : Hid (W2.heap.size = w.heap.size + 1 + 1) := by rw [hW2]; simp [Hid]
  clear hW2
  obtain ⟨⟨_, a0, a1, a2, a3, a4⟩, af0, af1, af2, af3, af4⟩ := id A2
  cases hg : goodC kap cl b s r
  · have HR2 : Hid (R = (0, false, [], [], [], -1)) := by rw [Hid, ← HR.out, leaveR, hg]; rfl
    have HG : Hid (goodC kap cl b s r = false) := hg
    clear hg HR
    go_enter Try.func36, Try.ntmps36
    go_wp2_with fail
    rw [← HW.out]
    refine (specGood_is kap cl bo bc b so sc s ro rc r W2 false (by omega) (by omega) (by omega) (hz.2.1.later hB2) (hz.2.2.later hB2) HG.out).mono ?_
    rintro e w3 ⟨rfl, hb3⟩
    have hB3 := hB2.trans (hb3.mono hB2.size)
    obtain ⟨⟨_, r0, r1, r2, r3, r4⟩, rf0, rf1, rf2, rf3, rf4⟩ := id (R2.later hb3)
    clear hb3 A2 R2 a0 a1 a2 a3 a4 af0 af1 af2 af3 af4 HW
    go_wp2
    refine bodyPost_ret (v := .tuple #[.agg #[.int .i64 0, .bool false, .slice none 0 0, .slice none 0 0, .slice none 0 0], .int .i64 (-1)]) (by simp [results, Try.results36, go_sem, r0, r1, r2, r3, r4]) rfl ?_
    rw [HR2.out]
    exact ansL_of (b := []) (s := []) (r := []) hB3 (freshCh_nil _ _ _) _ _ _ _ _
  have HG : Hid (goodC kap cl b s r = true) := hg
  clear hg
  cases ht : (decide (0 ≤ task) && decide (task ≤ 29))
  · have HR2 : Hid (R = (0, false, [], [], [], -1)) := by rw [Hid, ← HR.out, leaveR, HG.out, ht]; rfl
    have HT : Hid ((decide (0 ≤ task) && decide (task ≤ 29)) = false) := ht
    clear ht HR
    go_enter Try.func36, Try.ntmps36
    go_wp2_with fail
    rw [← HW.out]
    refine (specGood_is kap cl bo bc b so sc s ro rc r W2 true (by omega) (by omega) (by omega) (hz.2.1.later hB2) (hz.2.2.later hB2) HG.out).mono ?_
    rintro e w3 ⟨rfl, hb3⟩
    have hB3 := hB2.trans (hb3.mono hB2.size)
    obtain ⟨⟨_, r0, r1, r2, r3, r4⟩, rf0, rf1, rf2, rf3, rf4⟩ := id (R2.later hb3)
    clear hb3 A2 R2 a0 a1 a2 a3 a4 af0 af1 af2 af3 af4 HW
    go_wp2_with fail
    refine (l3Task_is task _ false HT.out).mono ?_
    rintro e w3 ⟨rfl, rfl⟩
    go_wp2
    refine bodyPost_ret (v := .tuple #[.agg #[.int .i64 0, .bool false, .slice none 0 0, .slice none 0 0, .slice none 0 0], .int .i64 (-1)]) (by simp [results, Try.results36, go_sem, r0, r1, r2, r3, r4]) rfl ?_
    rw [HR2.out]
    exact ansL_of (b := []) (s := []) (r := []) hB3 (freshCh_nil _ _ _) _ _ _ _ _
  have HT : Hid ((decide (0 ≤ task) && decide (task ≤ 29)) = true) := ht
  have HR2 : Hid (R = (kap, cl, b, outT s task, outT r task, (s.length : Int) + (r.length : Int) - ((outT s task).length : Int) - ((outT r task).length : Int))) := by rw [Hid, ← HR.out, leaveR, HG.out, ht]; rfl
  have ho1 := outT_len s task
  have ho2 := outT_len r task
  clear ht HR
  go_enter Try.func36, Try.ntmps36
  go_wp2_with fail
  rw [← HW.out]
  refine (specGood_is kap cl bo bc b so sc s ro rc r W2 true (by omega) (by omega) (by omega) (hz.2.1.later hB2) (hz.2.2.later hB2) HG.out).mono ?_
  rintro e w3 ⟨rfl, hb3⟩
  have hB3 := hB2.trans (hb3.mono hB2.size)
  have A3 := A2.later hb3
  have R3 := R2.later hb3
  have HQ3 : Hid (w.heap.size + 1 + 1 ≤ w3.heap.size) := by have := hb3.size; rw [HS.out] at this; exact this
  clear hb3 A2 R2 a0 a1 a2 a3 a4 af0 af1 af2 af3 af4 HW HS
  obtain ⟨⟨_, a0, a1, a2, a3, a4⟩, af0, af1, af2, af3, af4⟩ := id A3
  go_wp2_with fail
  refine (l3Task_is task _ true HT.out).mono ?_
  rintro e w3 ⟨rfl, rfl⟩
  go_wp2_with fail
  refine (l3Own_any kap cl bo bc b so sc s ro rc r w3 hl hls hlr (hz.later hB3) hwf).mono ?_
  rintro e w4 ⟨⟨gb, bc4, gs, sc4, gr, rc4, rfl, hF4⟩, hb4⟩
  have hB4 := hB3.trans (hb4.mono hB3.size)
  have A4 := A3.later hb4
  have R4 := R3.later hb4
  have HQ4 : Hid (w.heap.size + 1 + 1 ≤ w4.heap.size ∧ w3.heap.size ≤ w4.heap.size) := ⟨Nat.le_trans HQ3.out hb4.size, hb4.size⟩
  have F4 : Hid (FreshCh w3.heap.size w4.heap.size w4 (some ⟨gb, 0, none⟩) bc4 b (some ⟨gs, 0, none⟩) sc4 s (some ⟨gr, 0, none⟩) rc4 r) := hF4
  clear hb4 hF4 A3 R3 a0 a1 a2 a3 a4 af0 af1 af2 af3 af4
  obtain ⟨⟨_, a0, a1, a2, a3, a4⟩, af0, af1, af2, af3, af4⟩ := id A4
  go_wp2_with fail
  refine (l3Leave_any kap cl (some ⟨gb, 0, none⟩) bc4 b (some ⟨gs, 0, none⟩) sc4 s (some ⟨gr, 0, none⟩) rc4 r task w4 hls hlr F4.out.chan.2.1 F4.out.chan.2.2).mono ?_
  rintro e w5 ⟨⟨so5, sc5, ro5, rc5, rfl, hS5, hR5, hap⟩, hb5⟩
  have hB5 := hB4.trans (hb5.mono hB4.size)
  have A5 := A4.later hb5
  have R5 := R4.later hb5
  have F5 : Hid (FreshCh (w.heap.size + 1 + 1) w5.heap.size w5 (some ⟨gb, 0, none⟩) bc4 b so5 sc5 (outT s task) ro5 rc5 (outT r task)) := ⟨(F4.out.1.later hb5).wide HQ3.out hb5.size, hS5.wide HQ4.out.1 (Nat.le_refl _), hR5.wide HQ4.out.1 (Nat.le_refl _), hap⟩
  clear hb5 hS5 hR5 hap A4 R4 F4 a0 a1 a2 a3 a4 af0 af1 af2 af3 af4
  obtain ⟨P, hP⟩ : ∃ P, P = outT s task := ⟨_, rfl⟩
  obtain ⟨Q, hQ⟩ : ∃ Q, Q = outT r task := ⟨_, rfl⟩
  rw [← hP, ← hQ] at F5 HR2 ⊢
  rw [← hP] at ho1
  rw [← hQ] at ho2
  clear hP hQ
  obtain ⟨W6, hW6⟩ : ∃ W6, W6 = w5.alloc (.cells #[.int .i64 kap, .bool cl, .slice (some ⟨gb, 0, none⟩) b.length bc4, .slice so5 P.length sc5, .slice ro5 Q.length rc5] 26) := ⟨_, rfl⟩
  have hb6 : Below w5.heap.size w5 W6 := by rw [hW6]; exact below1 _ _
  have hB6 := hB5.trans (hb6.mono hB5.size)
  have A6 := A5.later hb6
  have R6 := R5.later hb6
  have X6 : BoxF5 W6 w5.heap.size (.int .i64 kap) (.bool cl) (.slice (some ⟨gb, 0, none⟩) b.length bc4) (.slice so5 P.length sc5) (.slice ro5 Q.length rc5) := by rw [hW6]; exact BoxF5.new _ _ _ _ _ _ _
  have F6 : Hid (FreshCh (w.heap.size + 1 + 1) W6.heap.size W6 (some ⟨gb, 0, none⟩) bc4 b so5 sc5 P ro5 rc5 Q) := (F5.out.later hb6).wide (Nat.le_refl _) hb6.size
  have HW6 : Hid (W6 = w5.alloc (.cells #[.int .i64 kap, .bool cl, .slice (some ⟨gb, 0, none⟩) b.length bc4, .slice so5 P.length sc5, .slice ro5 Q.length rc5] 26)) := hW6
  have hne : w5.heap.size ≠ w.heap.size + 1 := by have := R5.1.1; omega
  clear hW6 hb6 A5 R5 F5
  obtain ⟨⟨_, a0, a1, a2, a3, a4⟩, af0, af1, af2, af3, af4⟩ := id A6
  obtain ⟨⟨_, r0, r1, r2, r3, r4⟩, rf0, rf1, rf2, rf3, rf4⟩ := id R6
  obtain ⟨⟨_, x0, x1, x2, x3, x4⟩, xf0, xf1, xf2, xf3, xf4⟩ := id X6
  go_wp2
  rw [← HW6.out]
  go_region_held3 (fun Y => Y.cell? ⟨w.heap.size, 3, none⟩ = some (.slice so s.length sc) ∧ Y.cell? ⟨w.heap.size, 4, none⟩ = some (.slice ro r.length rc) ∧ Y.cell? ⟨w5.heap.size, 0, none⟩ = some (.int .i64 kap) ∧ Y.cell? ⟨w5.heap.size, 1, none⟩ = some (.bool cl) ∧ Y.cell? ⟨w5.heap.size, 2, none⟩ = some (.slice (some ⟨gb, 0, none⟩) b.length bc4) ∧ Y.cell? ⟨w5.heap.size, 3, none⟩ = some (.slice so5 P.length sc5) ∧ Y.cell? ⟨w5.heap.size, 4, none⟩ = some (.slice ro5 Q.length rc5))
    (first | ((refine ⟨?_, ?_, ?_, ?_, ?_, ?_, ?_⟩ <;> (rw [World.cell?_drew, World.cell?_setCell_other _ _ _ _ (addr_ne (by omega)), World.cell?_setCell_other _ _ _ _ (addr_ne (by omega)), World.cell?_setCell_other _ _ _ _ (addr_ne (by omega)), World.cell?_setCell_other _ _ _ _ (addr_ne (by omega)), World.cell?_setCell_other _ _ _ _ (addr_ne (by omega))])); exact a3; exact a4; exact x0; exact x1; exact x2; exact x3; exact x4) | exact ⟨a3, a4, x0, x1, x2, x3, x4⟩)
    (fail)
  all_goals
    go_wp2
    refine bodyPost_ret (v := .tuple #[.agg #[.int .i64 kap, .bool cl, .slice (some ⟨gb, 0, none⟩) b.length bc4, .slice so5 P.length sc5, .slice ro5 Q.length rc5], .int .i64 (IntKind.i64.wrap (IntKind.i64.wrap (IntKind.i64.wrap ((s.length : Int) + (r.length : Int)) - (P.length : Int)) - (Q.length : Int)))]) (by simp [results, Try.results36, go_sem, r0, r1, r2, r3, r4]) rfl ?_
    rw [HR2.out, wrapS ((s.length : Int) + (r.length : Int)) (by omega) (by omega), wrapS ((s.length : Int) + (r.length : Int) - (P.length : Int)) (by omega) (by omega), wrapS ((s.length : Int) + (r.length : Int) - (P.length : Int) - (Q.length : Int)) (by omega) (by omega)]
    exact ansL_of (W := W6.drew) hB6.drew F6.out _ _ _ _ _

set_option maxRecDepth 10000 in
set_option maxHeartbeats 8000000 in
theorem implLeave_any (kap : Int) (cl : Bool) (bo : Option Addr) (bc : Nat) (b : List Int) (so : Option Addr) (sc : Nat) (s : List T3) (ro : Option Addr) (rc : Nat) (r : List T3) (task : Int) (w : World) (hl : b.length ≤ 1048576) (hls : s.length ≤ 1048576) (hlr : r.length ≤ 1048576) (hz : ChanIn w.heap.size w bo b so s ro r) :
    Calls Try.prog 37 #[.agg #[.int .i64 kap, .bool cl, .slice bo b.length bc, .slice so s.length sc, .slice ro r.length rc], .int .i64 task] w fun e w' => AnsL w (leaveR kap cl b s r task) e w' := by
  generalize hR : leaveR kap cl b s r task = R
  have HR : Hid (leaveR kap cl b s r task = R) := hR
  clear hR
  obtain ⟨W2, hW2⟩ : ∃ W2, W2 = (w.alloc (.cells #[.int .i64 kap, .bool cl, .slice bo b.length bc, .slice so s.length sc, .slice ro r.length rc] 26)).alloc (.cells #[.int .i64 0, .bool false, .slice none 0 0, .slice none 0 0, .slice none 0 0] 26) := ⟨_, rfl⟩
  have hB2 : Below w.heap.size w W2 := by rw [hW2]; exact below2 _ _ _
  have A2 : BoxF5 W2 w.heap.size (.int .i64 kap) (.bool cl) (.slice bo b.length bc) (.slice so s.length sc) (.slice ro r.length rc) := by rw [hW2]; exact (BoxF5.new w _ _ _ _ _ _).later (below1 _ _)
  have R2 : BoxF5 W2 (w.heap.size + 1) (.int .i64 0) (.bool false) (.slice none 0 0) (.slice none 0 0) (.slice none 0 0) := by
    have h := BoxF5.new (w.alloc (.cells #[.int .i64 kap, .bool cl, .slice bo b.length bc, .slice so s.length sc, .slice ro r.length rc] 26)) (.int .i64 0) (.bool false) (.slice none 0 0) (.slice none 0 0) (.slice none 0 0) 26
    rw [hW2]; simpa using h
  have HW : Hid (W2 = (w.alloc (.cells #[.int .i64 kap, .bool cl, .slice bo b.length bc, .slice so s.length sc, .slice ro r.length rc] 26)).alloc (.cells #[.int .i64 0, .bool false, .slice none 0 0, .slice none 0 0, .slice none 0 0] 26)) := hW2
  have HS : Hid (W2.heap.size = w.heap.size + 1 + 1) := by rw [hW2]; simp [Hid]
  clear hW2
  obtain ⟨⟨_, a0, a1, a2, a3, a4⟩, af0, af1, af2, af3, af4⟩ := id A2
  cases hg : goodC kap cl b s r
  · have HR2 : Hid (R = (0, false, [], [], [], -1)) := by rw [Hid, ← HR.out, leaveR, hg]; rfl
    have HG : Hid (goodC kap cl b s r = false) := hg
    clear hg HR
    go_enter Try.func37, Try.ntmps37
    go_wp2_with fail
    rw [← HW.out]
    refine (implGood_is kap cl bo bc b so sc s ro rc r W2 false (by omega) (by omega) (by omega) (hz.2.1.later hB2) (hz.2.2.later hB2) HG.out).mono ?_
    rintro e w3 ⟨rfl, hb3⟩
    have hB3 := hB2.trans (hb3.mono hB2.size)
    obtain ⟨⟨_, r0, r1, r2, r3, r4⟩, rf0, rf1, rf2, rf3, rf4⟩ := id (R2.later hb3)
    clear hb3 A2 R2 a0 a1 a2 a3 a4 af0 af1 af2 af3 af4 HW
    go_wp2
    refine bodyPost_ret (v := .tuple #[.agg #[.int .i64 0, .bool false, .slice none 0 0, .slice none 0 0, .slice none 0 0], .int .i64 (-1)]) (by simp [results, Try.results37, go_sem, r0, r1, r2, r3, r4]) rfl ?_
    rw [HR2.out]
    exact ansL_of (b := []) (s := []) (r := []) hB3 (freshCh_nil _ _ _) _ _ _ _ _
  have HG : Hid (goodC kap cl b s r = true) := hg
  clear hg
  cases ht : (decide (0 ≤ task) && decide (task ≤ 29))
  · have HR2 : Hid (R = (0, false, [], [], [], -1)) := by rw [Hid, ← HR.out, leaveR, HG.out, ht]; rfl
    have HT : Hid ((decide (0 ≤ task) && decide (task ≤ 29)) = false) := ht
    clear ht HR
    go_enter Try.func37, Try.ntmps37
    go_wp2_with fail
    rw [← HW.out]
    refine (implGood_is kap cl bo bc b so sc s ro rc r W2 true (by omega) (by omega) (by omega) (hz.2.1.later hB2) (hz.2.2.later hB2) HG.out).mono ?_
    rintro e w3 ⟨rfl, hb3⟩
    have hB3 := hB2.trans (hb3.mono hB2.size)
    obtain ⟨⟨_, r0, r1, r2, r3, r4⟩, rf0, rf1, rf2, rf3, rf4⟩ := id (R2.later hb3)
    clear hb3 A2 R2 a0 a1 a2 a3 a4 af0 af1 af2 af3 af4 HW
    go_wp2_with fail
    refine (isTask_is task _ false HT.out).mono ?_
    rintro e w3 ⟨rfl, rfl⟩
    go_wp2
    refine bodyPost_ret (v := .tuple #[.agg #[.int .i64 0, .bool false, .slice none 0 0, .slice none 0 0, .slice none 0 0], .int .i64 (-1)]) (by simp [results, Try.results37, go_sem, r0, r1, r2, r3, r4]) rfl ?_
    rw [HR2.out]
    exact ansL_of (b := []) (s := []) (r := []) hB3 (freshCh_nil _ _ _) _ _ _ _ _
  have HT : Hid ((decide (0 ≤ task) && decide (task ≤ 29)) = true) := ht
  have HR2 : Hid (R = (kap, cl, b, outT s task, outT r task, (s.length : Int) + (r.length : Int) - ((outT s task).length : Int) - ((outT r task).length : Int))) := by rw [Hid, ← HR.out, leaveR, HG.out, ht]; rfl
  have ho1 := outT_len s task
  have ho2 := outT_len r task
  clear ht HR
  go_enter Try.func37, Try.ntmps37
  go_wp2_with fail
  rw [← HW.out]
  refine (implGood_is kap cl bo bc b so sc s ro rc r W2 true (by omega) (by omega) (by omega) (hz.2.1.later hB2) (hz.2.2.later hB2) HG.out).mono ?_
  rintro e w3 ⟨rfl, hb3⟩
  have hB3 := hB2.trans (hb3.mono hB2.size)
  have A3 := A2.later hb3
  have R3 := R2.later hb3
  have HQ3 : Hid (w.heap.size + 1 + 1 ≤ w3.heap.size) := by have := hb3.size; rw [HS.out] at this; exact this
  clear hb3 A2 R2 a0 a1 a2 a3 a4 af0 af1 af2 af3 af4 HW HS
  obtain ⟨⟨_, a0, a1, a2, a3, a4⟩, af0, af1, af2, af3, af4⟩ := id A3
  go_wp2_with fail
  refine (isTask_is task _ true HT.out).mono ?_
  rintro e w3 ⟨rfl, rfl⟩
  go_wp2_with fail
  refine (copyChan_any kap cl bo bc b so sc s ro rc r w3 hl hls hlr (hz.later hB3)).mono ?_
  rintro e w4 ⟨⟨bo4, bc4, so4, sc4, ro4, rc4, rfl, hF4⟩, hb4⟩
  have hB4 := hB3.trans (hb4.mono hB3.size)
  have A4 := A3.later hb4
  have R4 := R3.later hb4
  have HQ4 : Hid (w.heap.size + 1 + 1 ≤ w4.heap.size ∧ w3.heap.size ≤ w4.heap.size) := ⟨Nat.le_trans HQ3.out hb4.size, hb4.size⟩
  obtain ⟨W5, hW5⟩ : ∃ W5, W5 = w4.alloc (.cells #[.int .i64 kap, .bool cl, .slice bo4 b.length bc4, .slice so4 s.length sc4, .slice ro4 r.length rc4] 26) := ⟨_, rfl⟩
  have hb5 : Below w4.heap.size w4 W5 := by rw [hW5]; exact below1 _ _
  have hB5 := hB4.trans (hb5.mono hB4.size)
  have A5 := A4.later hb5
  have R5 := R4.later hb5
  have X5 : BoxF5 W5 w4.heap.size (.int .i64 kap) (.bool cl) (.slice bo4 b.length bc4) (.slice so4 s.length sc4) (.slice ro4 r.length rc4) := by rw [hW5]; exact BoxF5.new _ _ _ _ _ _ _
  have F5 : Hid (FreshI w3.heap.size w4.heap.size W5 bo4 bc4 b) := hF4.1.later hb5
  have HW5 : Hid (W5 = w4.alloc (.cells #[.int .i64 kap, .bool cl, .slice bo4 b.length bc4, .slice so4 s.length sc4, .slice ro4 r.length rc4] 26)) := hW5
  have HQ5 : Hid (w4.heap.size + 1 = W5.heap.size) := by rw [hW5]; simp [Hid]
  have hne : w4.heap.size ≠ w.heap.size + 1 := by have := R4.1.1; omega
  have hne2 : w4.heap.size ≠ w.heap.size := by have := A4.1.1; omega
  clear hb4 hF4 A3 R3 R4 a0 a1 a2 a3 a4 af0 af1 af2 af3 af4 hW5 hb5
  obtain ⟨⟨_, a0, a1, a2, a3, a4⟩, af0, af1, af2, af3, af4⟩ := id A4
  clear A4
  go_wp2_with fail
  rw [← HW5.out]
  refine (withoutTask_any so sc s task W5 hls (hz.2.1.later hB5)).mono ?_
  rintro e w6 ⟨⟨so6, sc6, rfl, hF6, _⟩, hb6⟩
  have hB6 := hB5.trans (hb6.mono hB5.size)
  have A6 := A5.later hb6
  have R6 := R5.later hb6
  have B6 := X5.later hb6
  have G6 : Hid (FreshI w3.heap.size w4.heap.size w6 bo4 bc4 b ∧ FreshC W5.heap.size w6.heap.size w6 so6 sc6 (outT s task)) := ⟨F5.out.later hb6, hF6⟩
  have HQ6 : Hid (w4.heap.size < w6.heap.size) := by have := hb6.size; have := HQ5.out; unfold Hid; omega
  clear hb6 hF6 A5 R5 X5 F5 a0 a1 a2 a3 a4 af0 af1 af2 af3 af4 HW5
  obtain ⟨⟨_, a0, a1, a2, a3, a4⟩, af0, af1, af2, af3, af4⟩ := id A6
  obtain ⟨⟨_, x0, x1, x2, x3, x4⟩, xf0, xf1, xf2, xf3, xf4⟩ := id B6
  obtain ⟨V6, hV6⟩ : ∃ V6, V6 = w6.setCell ⟨w4.heap.size, 3, none⟩ (.slice so6 (outT s task).length sc6) := ⟨_, rfl⟩
  have A7 := A6.other ⟨w4.heap.size, 3, none⟩ hne2 (.slice so6 (outT s task).length sc6)
  have R7 := R6.other ⟨w4.heap.size, 3, none⟩ hne (.slice so6 (outT s task).length sc6)
  have X7 := B6.set3 (.slice so6 (outT s task).length sc6)
  rw [← hV6] at A7 R7 X7
  have HS6 : Hid (V6.heap.size = w6.heap.size) := by rw [hV6]; simp [World.setCell, Hid]
  have hBV6 : Below w.heap.size w V6 := by rw [hV6]; exact hB6.setCell (p := ⟨w4.heap.size, 3, none⟩) (by have := HQ4.out.1; simp; omega) _
  have F7 : Hid (FreshI w3.heap.size w4.heap.size V6 bo4 bc4 b ∧ FreshC W5.heap.size w6.heap.size V6 so6 sc6 (outT s task)) := by
    rw [hV6]; exact ⟨G6.out.1.keep fun k _ h2 _ => Below.heap_setCell _ _ _ k (by simp; omega), G6.out.2.setBelow (by have := HQ5.out; simp; omega) _⟩
  have HV6 : Hid (V6 = w6.setCell ⟨w4.heap.size, 3, none⟩ (.slice so6 (outT s task).length sc6)) := hV6
  clear hV6 A6 R6 B6 G6
  go_wp2_with fail
  rw [← HV6.out]
  refine (withoutTask_any ro rc r task V6 hlr (hz.2.2.later hBV6)).mono ?_
  rintro e w8 ⟨⟨ro8, rc8, rfl, hF8, _⟩, hb8⟩
  have hB8 := hBV6.trans (hb8.mono hBV6.size)
  have A8 := A7.later hb8
  have R8 := R7.later hb8
  have X8 := X7.later hb8
  have F8 : Hid (FreshI w3.heap.size w4.heap.size w8 bo4 bc4 b ∧ FreshC W5.heap.size w6.heap.size w8 so6 sc6 (outT s task) ∧ FreshC w6.heap.size w8.heap.size w8 ro8 rc8 (outT r task) ∧ w6.heap.size ≤ w8.heap.size) := by
    rw [HS6.out] at hF8; exact ⟨F7.out.1.later hb8, F7.out.2.later hb8, hF8, by have := hb8.size; rw [HS6.out] at this; exact this⟩
  clear hb8 hF8 A7 R7 X7 F7 a0 a1 a2 a3 a4 af0 af1 af2 af3 af4 x0 x1 x2 x3 x4 xf0 xf1 xf2 xf3 xf4 HV6
  obtain ⟨⟨_, a0, a1, a2, a3, a4⟩, af0, af1, af2, af3, af4⟩ := id A8
  obtain ⟨⟨_, r0, r1, r2, r3, r4⟩, rf0, rf1, rf2, rf3, rf4⟩ := id R8
  obtain ⟨⟨_, x0, x1, x2, x3, x4⟩, xf0, xf1, xf2, xf3, xf4⟩ := id X8
  have G8 : Hid (FreshCh (w.heap.size + 1 + 1) w8.heap.size (w8.setCell ⟨w4.heap.size, 4, none⟩ (.slice ro8 (outT r task).length rc8)) bo4 bc4 b so6 sc6 (outT s task) ro8 rc8 (outT r task)) := by
    have q1 := HQ3.out
    have q2 := HQ4.out
    have q3 := HQ5.out
    have q4 := HQ6.out
    have q5 := F8.out.2.2.2
    refine ⟨FreshI.wide (lo := w3.heap.size) (hi := w4.heap.size) (F8.out.1.keep fun k _ h2 _ => Below.heap_setCell _ _ _ k (by simp; omega)) q1 (by omega), FreshC.wide (F8.out.2.1.setBelow (by simp; omega) _) (by omega) (by omega), FreshC.wide (F8.out.2.2.1.setBelow (by simp; omega) _) (by omega) (Nat.le_refl _), apart_of F8.out.2.1 F8.out.2.2.1 (Nat.le_refl _)⟩
  have hBZ : Below w.heap.size w (w8.setCell ⟨w4.heap.size, 4, none⟩ (.slice ro8 (outT r task).length rc8)) := hB8.setCell (p := ⟨w4.heap.size, 4, none⟩) (by have := HQ4.out.1; simp; omega) _
  have HBZ : Hid (Below w.heap.size w (w8.setCell ⟨w4.heap.size, 4, none⟩ (.slice ro8 (outT r task).length rc8))) := hBZ
  clear hBZ
  obtain ⟨P, hP⟩ : ∃ P, P = outT s task := ⟨_, rfl⟩
  obtain ⟨Q, hQ⟩ : ∃ Q, Q = outT r task := ⟨_, rfl⟩
  rw [← hP, ← hQ] at G8 HR2 ⊢
  rw [← hP] at ho1 x3
  rw [← hQ] at ho2 HBZ
  clear hP hQ F8 A8 R8 X8
  go_wp2
  refine bodyPost_ret (v := .tuple #[.agg #[.int .i64 kap, .bool cl, .slice bo4 b.length bc4, .slice so6 P.length sc6, .slice ro8 Q.length rc8], .int .i64 ((s.length : Int) - (P.length : Int) + (r.length : Int) - (Q.length : Int))]) (by simp [results, Try.results37, go_sem, r0, r1, r2, r3, r4]) rfl ?_
  rw [HR2.out, show (s.length : Int) - (P.length : Int) + (r.length : Int) - (Q.length : Int) = (s.length : Int) + (r.length : Int) - (P.length : Int) - (Q.length : Int) from by omega]
  exact ansL_of HBZ.out (by simpa using G8.out) _ _ _ _ _
end Go.Proofs.Ytblnlhdcdeiedaa
