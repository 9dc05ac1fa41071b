
/- Stop: the program's and the specification's answers. No conditions but those written. -/
import Derived.Test.YtpbgkkemaioidaaODf
namespace Go.Proofs.Ytpbgkkemaioidaa.Old
open Go.RowKit

/-- A clock and a code, the clock in its own memory. -/
def AnsK (w : World) (R : Int × Int × List T3 × Int) (e : Ending) (w' : World) : Prop :=
  (∃ to tc, e = .returned (.tuple #[.agg #[.int .i64 R.1, .int .i64 R.2.1, .slice to R.2.2.1.length tc], .int .i64 R.2.2.2]) ∧ FreshC w.heap.size w'.heap.size w' to tc R.2.2.1) ∧ Below w.heap.size w w'
theorem ansK_of {w W : World} {to : Option Addr} {tc : Nat} {ts : List T3} {now sq c : Int} (hB : Below w.heap.size w W) (hF : FreshC (w.heap.size + 1 + 1) W.heap.size W to tc ts) (u0 u1 u2 : Value) :
    AnsK w (now, sq, ts, c) (.returned (.tuple #[.agg #[.int .i64 now, .int .i64 sq, .slice to ts.length tc], .int .i64 c])) (((W.setCell ⟨w.heap.size + 1, 0, none⟩ u0).setCell ⟨w.heap.size + 1, 1, none⟩ u1).setCell ⟨w.heap.size + 1, 2, none⟩ u2) := by
  refine ⟨⟨to, tc, rfl, ?_⟩, ?_⟩
  · exact (((hF.setBelow (a := ⟨w.heap.size + 1, 0, none⟩) (by simp) _).setBelow (a := ⟨w.heap.size + 1, 1, none⟩) (by simp) _).setBelow (a := ⟨w.heap.size + 1, 2, none⟩) (by simp) _).wide (by omega) (by simp)
  · exact ((hB.setCell (p := ⟨w.heap.size + 1, 0, none⟩) (by simp) _).setCell (p := ⟨w.heap.size + 1, 1, none⟩) (by simp) _).setCell (p := ⟨w.heap.size + 1, 2, none⟩) (by simp) _

/-- A clock and a code; an empty row has no room where the code is 0. -/
def AnsKz (w : World) (R : Int × Int × List T3 × Int) (e : Ending) (w' : World) : Prop :=
  (∃ to tc, e = .returned (.tuple #[.agg #[.int .i64 R.1, .int .i64 R.2.1, .slice to R.2.2.1.length tc], .int .i64 R.2.2.2]) ∧ FreshC w.heap.size w'.heap.size w' to tc R.2.2.1 ∧ (R.2.2.2 = 0 → R.2.2.1 = [] → tc = 0)) ∧ Below w.heap.size w w'
theorem ansKz_of {w W : World} {to : Option Addr} {tc : Nat} {ts : List T3} {now sq c : Int} (hB : Below w.heap.size w W) (hF : FreshC (w.heap.size + 1 + 1) W.heap.size W to tc ts) (hz : c = 0 → ts = [] → tc = 0) (u0 u1 u2 : Value) :
    AnsKz w (now, sq, ts, c) (.returned (.tuple #[.agg #[.int .i64 now, .int .i64 sq, .slice to ts.length tc], .int .i64 c])) (((W.setCell ⟨w.heap.size + 1, 0, none⟩ u0).setCell ⟨w.heap.size + 1, 1, none⟩ u1).setCell ⟨w.heap.size + 1, 2, none⟩ u2) := by
  refine ⟨⟨to, tc, rfl, ?_, hz⟩, ?_⟩
  · exact (((hF.setBelow (a := ⟨w.heap.size + 1, 0, none⟩) (by simp) _).setBelow (a := ⟨w.heap.size + 1, 1, none⟩) (by simp) _).setBelow (a := ⟨w.heap.size + 1, 2, none⟩) (by simp) _).wide (by omega) (by simp)
  · exact ((hB.setCell (p := ⟨w.heap.size + 1, 0, none⟩) (by simp) _).setCell (p := ⟨w.heap.size + 1, 1, none⟩) (by simp) _).setCell (p := ⟨w.heap.size + 1, 2, none⟩) (by simp) _
/-- What StopTimer answers. -/
def stopR (now sq : Int) (ts : List T3) (id : Int) : Int × Int × List T3 × Int :=
  if goodB now sq ts = true then (match findT ts id with | none => (now, sq, ts, 3) | some k => (now, sq, ts.take k ++ ts.drop (k + 1), 0)) else (0, 0, [], 1)
theorem stopR_len (now sq : Int) (ts : List T3) (id : Int) (h : ts.length ≤ 1048576) : (stopR now sq ts id).2.2.1.length ≤ 1048576 := by
  unfold stopR
  split
  · split
    · exact h
    · simp; omega
  · simp

/-- The box after its clock is written anew. -/
theorem Boxes.put {W : World} {p : Nat} {now sq : Int} {v : Value} (h : Boxes W p now sq v) (now' sq' : Int) (v' : Value) : Boxes (((W.setCell ⟨p, 0, none⟩ (.int .i64 now')).setCell ⟨p, 1, none⟩ (.int .i64 sq')).setCell ⟨p, 2, none⟩ v') p now' sq' v' := by
  obtain ⟨b0, b1, b2, bf0, bf1, bf2, r0, r1, r2, f0, f1, f2, l1⟩ := h
  constructor <;> simp [go_sem, b0, b1, b2, bf0, bf1, bf2, r0, r1, r2, f0, f1, f2, l1]

set_option maxHeartbeats 4000000 in
theorem specStop_any (now sq : Int) (ao : Option Addr) (cap : Nat) (ts : List T3) (id : Int) (w : World) (hwf : ao = none → cap = 0) (hl : ts.length ≤ 1048576) (hcap : ts.length ≤ cap) (hz : TimersIn w.heap.size w ao ts) :
    Calls Try.prog 19 #[.agg #[.int .i64 now, .int .i64 sq, .slice ao ts.length cap], .int .i64 id] w fun e w' => AnsKz w (stopR now sq ts id) e w' := by
  generalize hR : stopR now sq ts id = R
  have HR : Hid (stopR now sq ts id = R) := hR
  clear hR
  go_enter Try.func19, Try.ntmps19
  go_wp2_with fail
  refine (specGood_any now sq ao cap ts _ hl hcap (hz.later (below2 _ _ _))).mono ?_
  rintro e w1 ⟨rfl, hb1⟩
  have hB1 := (below2 w (.cells #[.int .i64 now, .int .i64 sq, .slice ao ts.length cap] 25) (.cells #[.int .i64 0, .int .i64 0, .slice none 0 0] 25)).trans (hb1.mono (by simp; omega))
  have X1 := (Boxes.new w now sq (.slice ao ts.length cap)).later hb1
  obtain ⟨b0, b1, b2, bf0, bf1, bf2, r0, r1, r2, f0, f1, f2, l1⟩ := _root_.id X1
  clear hb1
  cases hg : goodB now sq ts
  · have HR2 : Hid (R = (0, 0, [], 1)) := by rw [Hid, ← HR.out, stopR, hg]; rfl
    clear hg HR
    go_wp2
    refine bodyPost_ret (v := .tuple #[.agg #[.int .i64 0, .int .i64 0, .slice none 0 0], .int .i64 1]) (by simp [results, Try.results19, go_sem, r0, r1, r2]) rfl ?_
    rw [HR2.out]
    exact ansKz_of (ts := []) hB1 (.inl rfl) (fun h => by simp at h) _ _ _
  · have HG : Hid (goodB now sq ts = true) := hg
    clear hg
    go_wp2_with fail
    refine (l2Own_any now sq ao cap ts w1 hwf hl (hz.later hB1)).mono ?_
    rintro e w2 ⟨⟨to, tc, rfl, hF, g, rfl⟩, hb2⟩
    have hB2 := hB1.trans (hb2.mono hB1.size)
    have X2 := X1.later hb2
    obtain ⟨c0, c1, c2, cf0, cf1, cf2, m0, m1, m2, n0, n1, n2, l2⟩ := _root_.id X2
    have HF : Hid (FreshC (w.heap.size + 1 + 1) w2.heap.size w2 (some ⟨g, 0, none⟩) tc ts) := hF.wide (by omega) (Nat.le_refl _)
    clear hb2 X1 b0 b1 b2 bf0 bf1 bf2 r0 r1 r2 f0 f1 f2 l1 hF
    go_wp2_with fail
    obtain ⟨W3, hW3⟩ : ∃ W3, W3 = ((w2.setCell ⟨w.heap.size, 0, none⟩ (.int .i64 now)).setCell ⟨w.heap.size, 1, none⟩ (.int .i64 sq)).setCell ⟨w.heap.size, 2, none⟩ (.slice (some ⟨g, 0, none⟩) ts.length tc) := ⟨_, rfl⟩
    rw [← hW3]
    have hB3 : Below w.heap.size w W3 := by rw [hW3]; exact ((hB2.setCell (p := ⟨w.heap.size, 0, none⟩) (by simp) _).setCell (p := ⟨w.heap.size, 1, none⟩) (by simp) _).setCell (p := ⟨w.heap.size, 2, none⟩) (by simp) _
    have X3 : Boxes W3 w.heap.size now sq (.slice (some ⟨g, 0, none⟩) ts.length tc) := by rw [hW3]; exact X2.put _ _ _
    have HF3 : Hid (FreshC (w.heap.size + 1 + 1) W3.heap.size W3 (some ⟨g, 0, none⟩) tc ts) := by
      rw [hW3]; exact (((HF.out.setBelow (a := ⟨w.heap.size, 0, none⟩) (by simp; omega) _).setBelow (a := ⟨w.heap.size, 1, none⟩) (by simp; omega) _).setBelow (a := ⟨w.heap.size, 2, none⟩) (by simp; omega) _).wide (Nat.le_refl _) (by simp)
    clear hW3 HF X2 c0 c1 c2 cf0 cf1 cf2 m0 m1 m2 n0 n1 n2 l2
    refine (l2At_any now sq _ tc ts id W3 hl HF3.out.timers).mono ?_
    rintro e w4 ⟨rfl, hb4⟩
    have hB4 := hB3.trans (hb4.mono hB3.size)
    have X4 := X3.later hb4
    obtain ⟨b0, b1, b2, bf0, bf1, bf2, r0, r1, r2, f0, f1, f2, l1⟩ := _root_.id X4
    have HF4 : Hid (FreshC (w.heap.size + 1 + 1) w4.heap.size w4 (some ⟨g, 0, none⟩) tc ts) := (HF3.out.later hb4).wide (Nat.le_refl _) hb4.size
    clear hb4 HF3 X3
    cases hf : findT ts id with
    | none =>
      have HR2 : Hid (R = (now, sq, ts, 3)) := by rw [Hid, ← HR.out, stopR, HG.out, hf]; rfl
      rw [show atI ts id = -1 from by rw [atI, hf]]
      clear hf HR
      go_wp2
      refine bodyPost_ret (v := .tuple #[.agg #[.int .i64 now, .int .i64 sq, .slice (some ⟨g, 0, none⟩) ts.length tc], .int .i64 3]) (by simp [results, Try.results19, go_sem, r0, r1, r2]) rfl ?_
      rw [HR2.out]
      exact ansKz_of hB4 HF4.out (fun h => by simp at h) _ _ _
    | some k =>
      have hk := findT_lt hf
      obtain ⟨T, hT⟩ : ∃ T, T = ts.take k ++ ts.drop (k + 1) := ⟨_, rfl⟩
      have HR2 : Hid (R = (now, sq, T, 0)) := by rw [Hid, ← HR.out, stopR, HG.out, hf, hT]; rfl
      rw [show atI ts id = (k : Int) from by rw [atI, hf]]
      have HT : Hid (T = ts.take k ++ ts.drop (k + 1)) := hT
      have hk0 : decide ((k : Int) < 0) = false := by simp
      clear hf HR hT
      go_wp2_with fail
      refine (l2Stop_any now sq g 0 tc ts k w4 hl hk HF4.out.cap HF4.out.timers T HT.out).mono ?_
      rintro e w5 ⟨⟨to5, tc5, rfl, hF5, _, hz5⟩, hb5⟩
      have HZ5 : Hid (T = [] → tc5 = 0) := hz5
      clear hz5
      have hB5 := hB4.trans (hb5.mono hB4.size)
      obtain ⟨d0, d1, d2, df0, df1, df2, p0, p1, p2, q0, q1, q2, l3⟩ := X4.later hb5
      have HF5 : Hid (FreshC (w.heap.size + 1 + 1) w5.heap.size w5 to5 tc5 T) := hF5.wide (by omega) (Nat.le_refl _)
      clear hF5 hb5 X4 b0 b1 b2 bf0 bf1 bf2 r0 r1 r2 f0 f1 f2 l1
      go_wp2
      refine bodyPost_ret (v := .tuple #[.agg #[.int .i64 now, .int .i64 sq, .slice to5 T.length tc5], .int .i64 0]) (by simp [results, Try.results19, go_sem, p0, p1, p2]) rfl ?_
      rw [HR2.out]
      exact ansKz_of hB5 HF5.out (fun _ => HZ5.out) _ _ _
end Go.Proofs.Ytpbgkkemaioidaa.Old
