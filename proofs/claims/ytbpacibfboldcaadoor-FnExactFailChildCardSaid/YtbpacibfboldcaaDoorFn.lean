
/- Keepers and acts: marks; how long the answers are. No conditions but those written. -/
import Derived.Test.YtbpacibfboldcaaDoorFm
import Derived.Test.YtbpacibfboldcaaDoorAc
namespace Go.Proofs.YtbpacibfboldcaaDoor
open Go.RowKit

set_option maxHeartbeats 2000000 in
theorem markKeeper_acts (lo hi : Nat) (kd : Int) (mr : Int) (wi : Int) (up : Int) (ch : Int) (ov : Bool) (ro : Option Addr) (rc : Nat) (r : List (Bool)) (fo : Option Addr) (fc : Nat) (f : List (Int)) (k0 : Int) (w : World) (hlr : r.length ≤ 1048576) (hlf : f.length ≤ 1048576) (hk0 : 0 ≤ k0) (hk1 : k0 ≤ 4194304) (hF : FrKeeper lo hi w ro rc r fo fc f) (ao : Option Addr) (ac : Nat) (al : List (Int × Int × Int)) (hG : kA.Fresh lo hi w ao ac al) :
    Calls Tryd.prog 11 #[.agg #[.int .i64 kd, .int .i64 mr, .int .i64 wi, .int .i64 up, .int .i64 ch, .slice ro r.length rc, .slice fo f.length fc, .bool ov], .int .i64 k0] w fun e w' => e = .returned (.int .i64 (k0 + (r.length : Int) + (f.length : Int))) ∧ FrKeeper lo hi w' ro rc (markB (k0) r.length) fo fc (markI (k0 + (r.length : Int)) f.length) ∧ kA.Fresh lo hi w' ao ac al ∧ Between lo hi w w' := by
  have hB0 := below1 w (.cells #[.int .i64 kd, .int .i64 mr, .int .i64 wi, .int .i64 up, .int .i64 ch, .slice ro r.length rc, .slice fo f.length fc, .bool ov] 27)
  have oa0 : Off ao al.length ro r.length := hG.rowAt.off hF.1.rowAt (by decide)
  have oa1 : Off ao al.length fo f.length := hG.rowAt.off hF.2.rowAt (by decide)
  have Oa0 := hid oa0
  have Oa1 := hid oa1
  clear oa0 oa1
  have G0 := hid (hG.later hB0)
  have X0 := hid (Bx.new (w := w) [.int .i64 kd, .int .i64 mr, .int .i64 wi, .int .i64 up, .int .i64 ch, .slice ro r.length rc, .slice fo f.length fc, .bool ov] 27 rfl)
  have F0 := hid (hF.later hB0)
  have hT0 : Between lo hi w (w.alloc (.cells #[.int .i64 kd, .int .i64 mr, .int .i64 wi, .int .i64 up, .int .i64 ch, .slice ro r.length rc, .slice fo f.length fc, .bool ov] 27)) := Between.of_below hB0
  have of0_1 : Off ro r.length fo f.length := hF.1.rowAt.off hF.2.rowAt (by decide)
  have of1_0 : Off fo f.length ro r.length := hF.2.rowAt.off hF.1.rowAt (by decide)
  have Of0_1 := hid of0_1; have Of1_0 := hid of1_0; skip
  clear of0_1 of1_0
  have HN : Hid (∀ j, j = w.heap.size → True) := fun _ _ => trivial
  go_enter Tryd.func11, Tryd.ntmps11
  go_wp2_with fail
  refine (markBoolS_any lo hi ro rc r (k0) _ (by omega) (by omega) (by omega) F0.out.1).mono ?_
  rintro e w1 ⟨rfl, hR0, hO0⟩
  have hT1 := hT0.trans (F0.out.1.between hO0)
  have F1 : Hid (kB.Fresh lo hi w1 ro rc (markB (k0) r.length) ∧ kI.Fresh lo hi w1 fo fc f) := ⟨hR0, (F0.out.2.off Of1_0.out hO0)⟩
  have G1 := hid (G0.out.off Oa0.out hO0)
  have X1 := hid (X0.out.only hO0 (fun g e => Kind.Fresh.notNew (hF.1) e))
  clear hR0 hO0 F0 X0 hT0
  have x0 := X1.out.c 0 rfl
  have x1 := X1.out.c 1 rfl
  have x2 := X1.out.c 2 rfl
  have x3 := X1.out.c 3 rfl
  have x4 := X1.out.c 4 rfl
  have x5 := X1.out.c 5 rfl
  have x6 := X1.out.c 6 rfl
  have x7 := X1.out.c 7 rfl
  go_wp2_with fail
  refine (markIntS_any lo hi fo fc f (k0 + (r.length : Int)) _ (by omega) (by omega) (by omega) F1.out.2).mono ?_
  rintro e w2 ⟨rfl, hR1, hO1⟩
  have hT2 := hT1.trans (F1.out.2.between hO1)
  have F2 : Hid (kB.Fresh lo hi w2 ro rc (markB (k0) r.length) ∧ kI.Fresh lo hi w2 fo fc (markI (k0 + (r.length : Int)) f.length)) := ⟨(F1.out.1.off (by rw [markB_len]; exact Of0_1.out) hO1), hR1⟩
  have G2 := hid (G1.out.off Oa1.out hO1)
  have X2 := hid (X1.out.only hO1 (fun g e => Kind.Fresh.notNew (hF.2) e))
  clear hR1 hO1 F1 X1 hT1
  clear x0 x1 x2 x3 x4 x5 x6 x7
  have x0 := X2.out.c 0 rfl
  have x1 := X2.out.c 1 rfl
  have x2 := X2.out.c 2 rfl
  have x3 := X2.out.c 3 rfl
  have x4 := X2.out.c 4 rfl
  have x5 := X2.out.c 5 rfl
  have x6 := X2.out.c 6 rfl
  have x7 := X2.out.c 7 rfl
  go_wp2
  go_ret
  exact ⟨rfl, ⟨F2.out.1, F2.out.2⟩, G2.out, hT2⟩
set_option maxHeartbeats 2000000 in
theorem markKeeper_any (lo hi : Nat) (kd : Int) (mr : Int) (wi : Int) (up : Int) (ch : Int) (ov : Bool) (ro : Option Addr) (rc : Nat) (r : List (Bool)) (fo : Option Addr) (fc : Nat) (f : List (Int)) (k0 : Int) (w : World) (hlr : r.length ≤ 1048576) (hlf : f.length ≤ 1048576) (hk0 : 0 ≤ k0) (hk1 : k0 ≤ 4194304) (hF : FrKeeper lo hi w ro rc r fo fc f) :
    Calls Tryd.prog 11 #[.agg #[.int .i64 kd, .int .i64 mr, .int .i64 wi, .int .i64 up, .int .i64 ch, .slice ro r.length rc, .slice fo f.length fc, .bool ov], .int .i64 k0] w fun e w' => e = .returned (.int .i64 (k0 + (r.length : Int) + (f.length : Int))) ∧ FrKeeper lo hi w' ro rc (markB (k0) r.length) fo fc (markI (k0 + (r.length : Int)) f.length) ∧ Between lo hi w w' := by
  have hB0 := below1 w (.cells #[.int .i64 kd, .int .i64 mr, .int .i64 wi, .int .i64 up, .int .i64 ch, .slice ro r.length rc, .slice fo f.length fc, .bool ov] 27)
  have X0 := hid (Bx.new (w := w) [.int .i64 kd, .int .i64 mr, .int .i64 wi, .int .i64 up, .int .i64 ch, .slice ro r.length rc, .slice fo f.length fc, .bool ov] 27 rfl)
  have F0 := hid (hF.later hB0)
  have hT0 : Between lo hi w (w.alloc (.cells #[.int .i64 kd, .int .i64 mr, .int .i64 wi, .int .i64 up, .int .i64 ch, .slice ro r.length rc, .slice fo f.length fc, .bool ov] 27)) := Between.of_below hB0
  have of0_1 : Off ro r.length fo f.length := hF.1.rowAt.off hF.2.rowAt (by decide)
  have of1_0 : Off fo f.length ro r.length := hF.2.rowAt.off hF.1.rowAt (by decide)
  have Of0_1 := hid of0_1; have Of1_0 := hid of1_0; skip
  clear of0_1 of1_0
  have HN : Hid (∀ j, j = w.heap.size → True) := fun _ _ => trivial
  go_enter Tryd.func11, Tryd.ntmps11
  go_wp2_with fail
  refine (markBoolS_any lo hi ro rc r (k0) _ (by omega) (by omega) (by omega) F0.out.1).mono ?_
  rintro e w1 ⟨rfl, hR0, hO0⟩
  have hT1 := hT0.trans (F0.out.1.between hO0)
  have F1 : Hid (kB.Fresh lo hi w1 ro rc (markB (k0) r.length) ∧ kI.Fresh lo hi w1 fo fc f) := ⟨hR0, (F0.out.2.off Of1_0.out hO0)⟩
  have X1 := hid (X0.out.only hO0 (fun g e => Kind.Fresh.notNew (hF.1) e))
  clear hR0 hO0 F0 X0 hT0
  have x0 := X1.out.c 0 rfl
  have x1 := X1.out.c 1 rfl
  have x2 := X1.out.c 2 rfl
  have x3 := X1.out.c 3 rfl
  have x4 := X1.out.c 4 rfl
  have x5 := X1.out.c 5 rfl
  have x6 := X1.out.c 6 rfl
  have x7 := X1.out.c 7 rfl
  go_wp2_with fail
  refine (markIntS_any lo hi fo fc f (k0 + (r.length : Int)) _ (by omega) (by omega) (by omega) F1.out.2).mono ?_
  rintro e w2 ⟨rfl, hR1, hO1⟩
  have hT2 := hT1.trans (F1.out.2.between hO1)
  have F2 : Hid (kB.Fresh lo hi w2 ro rc (markB (k0) r.length) ∧ kI.Fresh lo hi w2 fo fc (markI (k0 + (r.length : Int)) f.length)) := ⟨(F1.out.1.off (by rw [markB_len]; exact Of0_1.out) hO1), hR1⟩
  have X2 := hid (X1.out.only hO1 (fun g e => Kind.Fresh.notNew (hF.2) e))
  clear hR1 hO1 F1 X1 hT1
  clear x0 x1 x2 x3 x4 x5 x6 x7
  have x0 := X2.out.c 0 rfl
  have x1 := X2.out.c 1 rfl
  have x2 := X2.out.c 2 rfl
  have x3 := X2.out.c 3 rfl
  have x4 := X2.out.c 4 rfl
  have x5 := X2.out.c 5 rfl
  have x6 := X2.out.c 6 rfl
  have x7 := X2.out.c 7 rfl
  go_wp2
  go_ret
  exact ⟨rfl, ⟨F2.out.1, F2.out.2⟩, hT2⟩
set_option maxHeartbeats 2000000 in
theorem heldKeeper_any (kd : Int) (mr : Int) (wi : Int) (up : Int) (ch : Int) (ov : Bool) (ro : Option Addr) (rc nr : Nat) (fo : Option Addr) (fc nf : Nat) (k0 : Int) (w : World) (hlr : nr ≤ 1048576) (hlf : nf ≤ 1048576) (hk0 : 0 ≤ k0) (hk1 : k0 ≤ 4194304) (hF : InKeeper w.heap.size w ro (markB (k0) nr) fo (markI (k0 + (nr : Int)) nf)) :
    Calls Tryd.prog 13 #[.agg #[.int .i64 kd, .int .i64 mr, .int .i64 wi, .int .i64 up, .int .i64 ch, .slice ro nr rc, .slice fo nf fc, .bool ov], .int .i64 k0] w fun e w' => e = .returned (.int .i64 (k0 + (nr : Int) + (nf : Int))) ∧ Below w.heap.size w w' := by
  have hB0 := below1 w (.cells #[.int .i64 kd, .int .i64 mr, .int .i64 wi, .int .i64 up, .int .i64 ch, .slice ro nr rc, .slice fo nf fc, .bool ov] 27)
  have hz0 := hF.later hB0
  have h0 : decide (k0 + (nr : Int) < 0) = false := by simp; omega
  have h1 : decide (k0 + (nr : Int) + (nf : Int) < 0) = false := by simp; omega
  go_enter Tryd.func13, Tryd.ntmps13
  go_wp2_with fail
  refine (heldBoolS_any ro rc nr (k0) _ (by omega) (by omega) (by omega) hz0.1).mono ?_
  rintro e w1 ⟨rfl, rfl⟩
  go_wp2_with fail
  refine (heldIntS_any fo fc nf (k0 + (nr : Int)) _ (by omega) (by omega) (by omega) hz0.2).mono ?_
  rintro e w1 ⟨rfl, rfl⟩
  go_wp2
  go_ret
  exact ⟨rfl, hB0⟩
theorem FrKeeper.offA {lo hi : Nat} {W W' : World} {ro : Option Addr} {rc : Nat} {r : List (Bool)} {fo : Option Addr} {fc : Nat} {f : List (Int)} {ao : Option Addr} {ac : Nat} {al : List (Int × Int × Int)} (h : FrKeeper lo hi W ro rc r fo fc f) (hG : kA.Fresh lo hi W ao ac al) (hO : OnlyAt (eff ao al.length) W W') : FrKeeper lo hi W' ro rc r fo fc f :=
  ⟨h.1.off (h.1.rowAt.off hG.rowAt (by decide)) hO, h.2.off (h.2.rowAt.off hG.rowAt (by decide)) hO⟩
theorem offD_len (lo : Nat) : ∀ (m : Nat) (x : List Bool × List (Int × Int × Int) × List Int), (offD lo m x).1.length = x.1.length ∧ (offD lo m x).2.1.length ≤ x.2.1.length + m ∧ (offD lo m x).2.2.length ≤ x.2.2.length + m
  | 0, x => ⟨rfl, Nat.le_refl _, Nat.le_refl _⟩
  | m + 1, x => by
    rw [offD]
    cases h : el x.1 (lo + m)
    · have := offD_len lo m x
      simp only [Bool.false_eq_true, if_false]; omega
    · have := offD_len lo m (x.1.set (lo + m) false, x.2.1 ++ [(((0 : Nat) : Int), 1, ((lo + m : Nat) : Int))], x.2.2 ++ [((lo + m : Nat) : Int)])
      simp only [if_true]
      simp only [List.length_set, List.length_append, List.length_singleton] at this
      omega
theorem onD_len : ∀ (l : List Int) (r : List Bool) (t : List (Int × Int × Int)), (onD r t l).1.length = r.length ∧ (onD r t l).2.length = t.length + l.length
  | [], _, _ => ⟨rfl, rfl⟩
  | j :: l, r, t => by
    have h := onD_len l (r.set j.toNat true) (t ++ [(((0 : Nat) : Int), 2, (j.toNat : Int))])
    have e : onD r t (j :: l) = onD (r.set j.toNat true) (t ++ [(((0 : Nat) : Int), 2, (j.toNat : Int))]) l := rfl
    rw [e]
    simp only [List.length_set, List.length_append, List.length_singleton] at h
    simp only [List.length_cons]; omega
theorem restart_len (p : PKeeper) (r : List Bool) (c : Nat) : (runsP (el (restartS ([withRuns p r], []) c).1 0)).length = r.length ∧ fltP (el (restartS ([withRuns p r], []) c).1 0) = fltP p ∧ (restartS ([withRuns p r], []) c).2.length ≤ 2 * r.length + 1 := by
  unfold restartS
  split
  · rw [startP_single]
    refine ⟨?_, rfl, ?_⟩
    · show (r.set c true).length = _; simp
    · show ([] ++ [_]).length ≤ _; simp
  · rw [fromF_single]
    dsimp only
    rw [startP_single, startAll_single]
    have h1 := offD_len (c + 1) (r.length - (c + 1)) (r, [], [])
    have h2 := onD_len (offD (c + 1) (r.length - (c + 1)) (r, [], [])).2.2.reverse ((offD (c + 1) (r.length - (c + 1)) (r, [], [])).1.set c true) ((offD (c + 1) (r.length - (c + 1)) (r, [], [])).2.1 ++ [(((0 : Nat) : Int), 2, (c : Int))])
    refine ⟨?_, rfl, ?_⟩
    · show (onD _ _ _).1.length = _
      rw [h2.1, List.length_set, h1.1]
    · rw [h2.2]
      simp only [List.length_append, List.length_singleton, List.length_reverse, List.length_nil] at h1 ⊢
      rcases Nat.eq_zero_or_pos r.length with h0 | h0 <;> omega
theorem give_len (p : PKeeper) (c : Nat) : (runsP (el (giveS ([p], []) c).1 0)).length = (runsP p).length ∧ fltP (el (giveS ([p], []) c).1 0) = [] ∧ (giveS ([p], []) c).2.length ≤ (runsP p).length + 1 := by
  unfold giveS
  rw [setRun_single, fromF_single]
  have h1 := offD_len 0 (((runsP p).set c false).length - 0) ((runsP p).set c false, [], [])
  simp only [List.length_set, List.length_nil] at h1
  refine ⟨?_, rfl, ?_⟩
  · show (offD _ _ _).1.length = _
    rw [List.length_set]; exact h1.1
  · simp only [List.length_append, List.length_singleton, List.length_set]; omega
theorem fail_len (p : PKeeper) (c : Nat) (t : Int) : (runsP (el (failSP ([p], []) c t).1 0)).length = (runsP p).length ∧ (fltP (el (failSP ([p], []) c t).1 0)).length ≤ (fltP p).length + 1 ∧ (failSP ([p], []) c t).2.length ≤ 2 * (runsP p).length + 1 := by
  unfold failSP
  split
  · have h := give_len p c
    rw [h.2.1]
    exact ⟨h.1, by simp, by omega⟩
  · have h := restart_len (withFaults p (recentI (fltP p) t p.2.2.1)) ((runsP p).set c false) c
    rw [List.length_set] at h
    refine ⟨h.1, ?_, h.2.2⟩
    have e : fltP (el (restartS ([withRuns (withFaults p (recentI (fltP p) t p.2.2.1)) ((runsP p).set c false)], []) c).1 0) = recentI (fltP p) t p.2.2.1 := h.2.1
    show (fltP (el (restartS ([withRuns (withFaults p (recentI (fltP p) t p.2.2.1)) ((runsP p).set c false)], []) c).1 0)).length ≤ _
    rw [e]; exact recentI_le _ _ _
theorem failR_len {kd mr wi up ch : Int} {ov : Bool} {r : List Bool} {f : List Int} {c t : Int} (hr : r.length ≤ 1048576) (hf : f.length ≤ 1048576) : (runsP (failR (kd, mr, wi, up, ch, r, f, ov) c t).1).length ≤ 1048576 ∧ (fltP (failR (kd, mr, wi, up, ch, r, f, ov) c t).1).length ≤ 1048576 ∧ (failR (kd, mr, wi, up, ch, r, f, ov) c t).2.1.length ≤ 1048576 := by
  rw [failR]
  split
  · rename_i hg
    have hk : keeperB kd mr wi r f ov = true := hg.1
    obtain ⟨k1, k2, k3, _, _⟩ := keeperB_facts hk
    split
    · have h1 := fail_eq (kd, mr, wi, up, ch, r, f, ov) c.toNat t
      have h2 := fail_len (kd, mr, wi, up, ch, r, f, ov) c.toNat t
      have e1 : upP ((kd, mr, wi, up, ch, r, f, ov) : PKeeper) = up := rfl
      have e2 : runsP ((kd, mr, wi, up, ch, r, f, ov) : PKeeper) = r := rfl
      have e3 : fltP ((kd, mr, wi, up, ch, r, f, ov) : PKeeper) = f := rfl
      rw [e2, e3] at h2
      refine ⟨?_, ?_, ?_⟩
      · dsimp only; rw [h1.1]; omega
      · dsimp only; rw [h1.1]; omega
      · dsimp only; rw [h1.2]; omega
    · exact ⟨hr, hf, by simp⟩
  · exact ⟨by simp [runsP], by simp [fltP], by simp⟩
end Go.Proofs.YtbpacibfboldcaaDoor
