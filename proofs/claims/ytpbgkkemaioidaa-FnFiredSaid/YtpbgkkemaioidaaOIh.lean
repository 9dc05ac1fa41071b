
/- Reset: the specification's answer. No conditions but those written. -/
import Derived.Test.YtpbgkkemaioidaaOIg
namespace Go.Proofs.Ytpbgkkemaioidaa.Old
open Go.RowKit

set_option maxHeartbeats 4000000 in
theorem specReset_any (now sq : Int) (ao : Option Addr) (cap : Nat) (ts : List T3) (id d : Int) (w : World) (hwf : ao = none → cap = 0) (hn : I64 now) (hd : I64 d) (hA : AtsIn ts) (hl : ts.length ≤ 1048576) (hcap : ts.length ≤ cap) (hz : TimersIn w.heap.size w ao ts) :
    Calls Try.prog 20 #[.agg #[.int .i64 now, .int .i64 sq, .slice ao ts.length cap], .int .i64 id, .int .i64 d] w fun e w' => AnsK w (resetR now sq ts id d) e w' := by
  have _hA := hA
  generalize hR : resetR now sq ts id d = R
  have HR : Hid (resetR now sq ts id d = R) := hR
  clear hR
  go_enter Try.func20, Try.ntmps20
  go_wp2_with fail
  refine (specGood_any now sq ao cap ts _ hl hcap (hz.later (below2 _ _ _))).mono ?_
  rintro e w1 ⟨rfl, hb1⟩
  have hB1 := (below2 w (.cells #[.int .i64 now, .int .i64 sq, .slice ao ts.length cap] 25) (.cells #[.int .i64 0, .int .i64 0, .slice none 0 0] 25)).trans (hb1.mono (by simp; omega))
  have X1 := (Boxes.new w now sq (.slice ao ts.length cap)).later hb1
  obtain ⟨b0, b1, b2, bf0, bf1, bf2, r0, r1, r2, f0, f1, f2, l1⟩ := _root_.id X1
  clear hb1
  cases hg : goodB now sq ts
  · have HR2 : Hid (R = (0, 0, [], 1)) := by rw [Hid, ← HR.out, resetR, mayB, hg]; rfl
    clear hg HR
    go_wp2
    refine bodyPost_ret (v := .tuple #[.agg #[.int .i64 0, .int .i64 0, .slice none 0 0], .int .i64 1]) (by simp [results, Try.results20, go_sem, r0, r1, r2]) rfl ?_
    rw [HR2.out]
    exact ansK_of (ts := []) hB1 (.inl rfl) _ _ _
  have hgp := good_parts hg
  have hn30 : ts.length ≤ 30 := hgp.2.2.2.1
  have hsq0 : 0 ≤ sq := hgp.2.1
  have hsqm : sq ≤ 1000000 := hgp.2.2.1
  by_cases hq : sq = 1000000
  · have HR2 : Hid (R = (0, 0, [], 1)) := by rw [Hid, ← HR.out, resetR, mayB, hg, hq]; rfl
    have hq' : (sq == 1000000) = true := by simpa using hq
    clear hg HR hq hgp
    go_wp2
    refine bodyPost_ret (v := .tuple #[.agg #[.int .i64 0, .int .i64 0, .slice none 0 0], .int .i64 1]) (by simp [results, Try.results20, go_sem, r0, r1, r2]) rfl ?_
    rw [HR2.out]
    exact ansK_of (ts := []) hB1 (.inl rfl) _ _ _
  · have HG : Hid (mayB now sq ts = true) := by rw [Hid, mayB, hg]; simp; omega
    have hq' : (sq == 1000000) = false := by simpa using hq
    clear hg hq hgp
    go_wp2_with fail
    refine (l2Own_any now sq ao cap ts w1 hwf hl (hz.later hB1)).mono ?_
    rintro e w2 ⟨⟨to, tc, rfl, hF, g, rfl⟩, hb2⟩
    have hB2 := hB1.trans (hb2.mono hB1.size)
    have X2 := X1.later hb2
    obtain ⟨c0, c1, c2, cf0, cf1, cf2, m0, m1, m2, n0, n1, n2, l2⟩ := _root_.id X2
    have HF : Hid (FreshC (w.heap.size + 1 + 1) w2.heap.size w2 (some ⟨g, 0, none⟩) tc ts) := hF.wide (by omega) (Nat.le_refl _)
    clear hb2 X1 b0 b1 b2 bf0 bf1 bf2 r0 r1 r2 f0 f1 f2 l1 hF
    go_wp2_with fail
    obtain ⟨W3, hW3⟩ : ∃ W3, W3 = ((w2.setCell ⟨w.heap.size, 0, none⟩ (.int .i64 now)).setCell ⟨w.heap.size, 1, none⟩ (.int .i64 sq)).setCell ⟨w.heap.size, 2, none⟩ (.slice (some ⟨g, 0, none⟩) ts.length tc) := ⟨_, rfl⟩
    rw [← hW3]
    have hB3 : Below w.heap.size w W3 := by rw [hW3]; exact ((hB2.setCell (p := ⟨w.heap.size, 0, none⟩) (by simp) _).setCell (p := ⟨w.heap.size, 1, none⟩) (by simp) _).setCell (p := ⟨w.heap.size, 2, none⟩) (by simp) _
    have X3 : Boxes W3 w.heap.size now sq (.slice (some ⟨g, 0, none⟩) ts.length tc) := by rw [hW3]; exact X2.put _ _ _
    have HF3 : Hid (FreshC (w.heap.size + 1 + 1) W3.heap.size W3 (some ⟨g, 0, none⟩) tc ts) := by
      rw [hW3]; exact (((HF.out.setBelow (a := ⟨w.heap.size, 0, none⟩) (by simp; omega) _).setBelow (a := ⟨w.heap.size, 1, none⟩) (by simp; omega) _).setBelow (a := ⟨w.heap.size, 2, none⟩) (by simp; omega) _).wide (Nat.le_refl _) (by simp)
    clear hW3 HF X2 c0 c1 c2 cf0 cf1 cf2 m0 m1 m2 n0 n1 n2 l2
    refine (l2At_any now sq _ tc ts id W3 hl HF3.out.timers).mono ?_
    rintro e w4 ⟨rfl, hb4⟩
    have hB4 := hB3.trans (hb4.mono hB3.size)
    have X4 := X3.later hb4
    obtain ⟨b0, b1, b2, bf0, bf1, bf2, r0, r1, r2, f0, f1, f2, l1⟩ := _root_.id X4
    have HF4 : Hid (FreshC (w.heap.size + 1 + 1) w4.heap.size w4 (some ⟨g, 0, none⟩) tc ts) := (HF3.out.later hb4).wide (Nat.le_refl _) hb4.size
    clear hb4 HF3 X3
    cases hf : findT ts id with
    | none =>
      have HR2 : Hid (R = (now, sq, ts, 3)) := by rw [Hid, ← HR.out, resetR, HG.out, hf]; rfl
      rw [show atI ts id = -1 from by rw [atI, hf]]
      clear hf HR
      go_wp2
      refine bodyPost_ret (v := .tuple #[.agg #[.int .i64 now, .int .i64 sq, .slice (some ⟨g, 0, none⟩) ts.length tc], .int .i64 3]) (by simp [results, Try.results20, go_sem, r0, r1, r2]) rfl ?_
      rw [HR2.out]
      exact ansK_of hB4 HF4.out _ _ _
    | some k =>
      have hk := findT_lt hf
      obtain ⟨E, hE⟩ : ∃ E, E = eraseT ts k := ⟨_, rfl⟩
      obtain ⟨T, hT⟩ : ∃ T, T = insT E (id, laterI now d, sq + 1) := ⟨_, rfl⟩
      have HR2 : Hid (R = (now, sq + 1, T, 0)) := by rw [Hid, ← HR.out, resetR, HG.out, hf, hT, hE]; rfl
      rw [show atI ts id = (k : Int) from by rw [atI, hf]]
      have HE : Hid (E = ts.take k ++ ts.drop (k + 1)) := hE
      have HT : Hid (T = insT E (id, laterI now d, sq + 1)) := hT
      have hk0 : decide ((k : Int) < 0) = false := by simp
      have hEl : E.length ≤ 1048576 := by rw [hE]; have := eraseT_len ts k hk; omega
      clear hf HR hT hE
      go_wp2_with fail
      refine (l2Stop_any now sq g 0 tc ts k w4 hl hk HF4.out.cap HF4.out.timers E HE.out).mono ?_
      rintro e w6 ⟨⟨to6, tc6, rfl, hF6, hwf6, _⟩, hb6⟩
      have hB6 := hB4.trans (hb6.mono hB4.size)
      have X6 := X4.later hb6
      have l6 := X6.lt
      have HF6 : Hid (FreshC w4.heap.size w6.heap.size w6 to6 tc6 E) := hF6
      clear hF6 hb6 X4 b0 b1 b2 bf0 bf1 bf2 r0 r1 r2 f0 f1 f2 l1
      go_wp2_with fail
      refine (l2Arm_wf now sq to6 tc6 E id d w6 T HT.out hwf6 hEl HF6.out.cap hn hd hsqm hsq0 HF6.out.timers).mono ?_
      rintro e w5 ⟨⟨to5, tc5, rfl, hF5⟩, hb5⟩
      have hB5 := hB6.trans (hb5.mono hB6.size)
      obtain ⟨d0, d1, d2, df0, df1, df2, p0, p1, p2, q0, q1, q2, l3⟩ := X6.later hb5
      have HF5 : Hid (FreshC (w.heap.size + 1 + 1) w5.heap.size w5 to5 tc5 T) := hF5.wide (by omega) (Nat.le_refl _)
      clear hF5 hb5 X6
      go_wp2
      refine bodyPost_ret (v := .tuple #[.agg #[.int .i64 now, .int .i64 (sq + 1), .slice to5 T.length tc5], .int .i64 0]) (by simp [results, Try.results20, go_sem, p0, p1, p2]) rfl ?_
      rw [HR2.out]
      exact ansK_of hB5 HF5.out _ _ _
end Go.Proofs.Ytpbgkkemaioidaa.Old
