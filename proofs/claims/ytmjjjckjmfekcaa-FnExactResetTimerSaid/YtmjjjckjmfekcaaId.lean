/- Arm and Reset: the program's answers. No conditions but those written. -/
import Derived.Test.YtmjjjckjmfekcaaIb
import Derived.Test.YtmjjjckjmfekcaaPc
namespace Go.Proofs.Ytmjjjckjmfekcaa
open Go.RowKit

theorem withTimer_ins (now sq : Int) (ao : Option Addr) (cap : Nat) (ts : List T3) (id d : Int) (w : World) (T : List T3) (hT : T = insT ts (id, laterI now d, sq + 1)) (hl : ts.length ≤ 1030000) (hn : I64 now) (hd : I64 d) (hsq : sq ≤ 1000000) (hsq0 : 0 ≤ sq) (hA : AtsIn ts) (hS : SortedT ts) (hQ : SeqLt ts (sq + 1)) (hz : TimersIn w.heap.size w ao ts) :
    Calls Try.prog 43 #[.agg #[.int .i64 now, .int .i64 sq, .slice ao ts.length cap], .int .i64 id, .int .i64 d] w fun e w' => AnsC w.heap.size now (sq + 1) T e w' ∧ Below w.heap.size w w' := by
  have e : dueL (ts ++ [(id, laterI now d, sq + 1)]) 9223372036854775807 (insS ts.length (insK ts (laterI now d))) = T := by
    rw [hT]; exact due_all (t := (id, laterI now d, sq + 1)) hA (laterI_in hn hd).2
  have h := withTimer_any now sq ao cap ts id d w hl hn hd hsq hsq0 hz (insS ts.length (insK ts (laterI now d))) (insS_perm _ _ (insK_ins ts _).1) (insS_sorted (t := (id, laterI now d, sq + 1)) hS hQ)
  rw [e] at h
  exact h

set_option maxHeartbeats 4000000 in
theorem implArm_any (now sq : Int) (ao : Option Addr) (cap : Nat) (ts : List T3) (id d : Int) (w : World) (hn : I64 now) (hd : I64 d) (hA : AtsIn ts) (hl : ts.length ≤ 1048576) (hcap : ts.length ≤ cap) (hz : TimersIn w.heap.size w ao ts) :
    Calls Try.prog 18 #[.agg #[.int .i64 now, .int .i64 sq, .slice ao ts.length cap], .int .i64 id, .int .i64 d] w fun e w' => AnsK w (armR now sq ts id d) e w' := by
  generalize hR : armR now sq ts id d = R
  have HR : Hid (armR now sq ts id d = R) := hR
  clear hR
  go_enter Try.func18, Try.ntmps18
  go_wp2_with fail
  refine (mayArm_any now sq ao cap ts _ hl hcap (hz.later (below2 _ _ _))).mono ?_
  rintro e w1 ⟨rfl, hb1⟩
  have hB1 := (below2 w (.cells #[.int .i64 now, .int .i64 sq, .slice ao ts.length cap] 29) (.cells #[.int .i64 0, .int .i64 0, .slice none 0 0] 29)).trans (hb1.mono (by simp; omega))
  have X1 := (Boxes.new w now sq (.slice ao ts.length cap)).later hb1
  obtain ⟨b0, b1, b2, bf0, bf1, bf2, r0, r1, r2, f0, f1, f2, l1⟩ := _root_.id X1
  clear hb1
  cases hg : mayB now sq ts
  · have HR2 : Hid (R = (0, 0, [], 1)) := by rw [Hid, ← HR.out, armR, hg]; rfl
    clear hg HR
    go_wp2
    refine bodyPost_ret (v := .tuple #[.agg #[.int .i64 0, .int .i64 0, .slice none 0 0], .int .i64 1]) (by simp [results, Try.results18, go_sem, r0, r1, r2]) rfl ?_
    rw [HR2.out]
    exact ansK_of (ts := []) hB1 (.inl rfl) _ _ _
  · have HG : Hid (mayB now sq ts = true) := hg
    obtain ⟨hgood, hsq⟩ := may_parts hg
    have hgp := good_parts hgood
    have hn30 : ts.length ≤ 30 := hgp.2.2.2.1
    have hsq0 : 0 ≤ sq := hgp.2.1
    have HS : Hid (SortedT ts ∧ SeqLt ts (sq + 1)) := good_sort hgood
    clear hg hgood hgp
    go_wp2_with fail
    refine (place_any now sq ao cap ts id w1 hl (hz.later hB1)).mono ?_
    rintro e w2 ⟨rfl, hb2⟩
    have hB2 := hB1.trans (hb2.mono hB1.size)
    have X2 := X1.later hb2
    obtain ⟨c0, c1, c2, cf0, cf1, cf2, m0, m1, m2, n0, n1, n2, l2⟩ := _root_.id X2
    clear hb2 X1 b0 b1 b2 bf0 bf1 bf2 r0 r1 r2 f0 f1 f2 l1
    cases hf : findT ts id with
    | some k =>
      have HR2 : Hid (R = (now, sq, ts, 2)) := by rw [Hid, ← HR.out, armR, HG.out, hf]; rfl
      rw [show placeV ts id = .tuple #[.int .i64 (k : Int), .bool true] from by rw [placeV, hf]]
      clear hf HR
      go_wp2_with fail
      refine (copyClock_any now sq ao cap ts w2 hl (hz.later hB2)).mono ?_
      rintro e w3 ⟨⟨to, tc, rfl, hF⟩, hb3⟩
      have hB3 := hB2.trans (hb3.mono hB2.size)
      obtain ⟨d0, d1, d2, df0, df1, df2, p0, p1, p2, q0, q1, q2, l3⟩ := X2.later hb3
      have HF : Hid (FreshC (w.heap.size + 1 + 1) w3.heap.size w3 to tc ts) := hF.wide (by omega) (Nat.le_refl _)
      clear hF hb3 X2 c0 c1 c2 cf0 cf1 cf2 m0 m1 m2 n0 n1 n2 l2
      go_wp2
      refine bodyPost_ret (v := .tuple #[.agg #[.int .i64 now, .int .i64 sq, .slice to ts.length tc], .int .i64 2]) (by simp [results, Try.results18, go_sem, p0, p1, p2]) rfl ?_
      rw [HR2.out]
      exact ansK_of hB3 HF.out _ _ _
    | none =>
      rw [show placeV ts id = .tuple #[.int .i64 0, .bool false] from by rw [placeV, hf]]
      by_cases h30 : ts.length = 30
      · have HR2 : Hid (R = (now, sq, ts, 4)) := by rw [Hid, ← HR.out, armR, HG.out, hf, if_pos rfl, if_pos h30]
        have h30' : ((ts.length : Int) == 30) = true := by simp [h30]
        clear hf HR h30
        go_wp2_with fail
        refine (copyClock_any now sq ao cap ts w2 hl (hz.later hB2)).mono ?_
        rintro e w3 ⟨⟨to, tc, rfl, hF⟩, hb3⟩
        have hB3 := hB2.trans (hb3.mono hB2.size)
        obtain ⟨d0, d1, d2, df0, df1, df2, p0, p1, p2, q0, q1, q2, l3⟩ := X2.later hb3
        have HF : Hid (FreshC (w.heap.size + 1 + 1) w3.heap.size w3 to tc ts) := hF.wide (by omega) (Nat.le_refl _)
        clear hF hb3 X2 c0 c1 c2 cf0 cf1 cf2 m0 m1 m2 n0 n1 n2 l2
        go_wp2
        refine bodyPost_ret (v := .tuple #[.agg #[.int .i64 now, .int .i64 sq, .slice to ts.length tc], .int .i64 4]) (by simp [results, Try.results18, go_sem, p0, p1, p2]) rfl ?_
        rw [HR2.out]
        exact ansK_of hB3 HF.out _ _ _
      · have h30' : ((ts.length : Int) == 30) = false := by simp; omega
        obtain ⟨T, hT⟩ : ∃ T, T = insT ts (id, laterI now d, sq + 1) := ⟨_, rfl⟩
        have HR2 : Hid (R = (now, sq + 1, T, 0)) := by rw [Hid, ← HR.out, armR, HG.out, hf, if_pos rfl, if_neg h30, hT]
        have HT : Hid (T = insT ts (id, laterI now d, sq + 1)) := hT
        clear hf HR h30 hT
        go_wp2_with fail
        refine (withTimer_ins now sq ao cap ts id d w2 T HT.out (by omega) hn hd (by omega) hsq0 hA HS.out.1 HS.out.2 (hz.later hB2)).mono ?_
        rintro e w3 ⟨⟨to, tc, rfl, hF⟩, hb3⟩
        have hB3 := hB2.trans (hb3.mono hB2.size)
        obtain ⟨d0, d1, d2, df0, df1, df2, p0, p1, p2, q0, q1, q2, l3⟩ := X2.later hb3
        have HF : Hid (FreshC (w.heap.size + 1 + 1) w3.heap.size w3 to tc T) := hF.wide (by omega) (Nat.le_refl _)
        clear hF hb3 X2 c0 c1 c2 cf0 cf1 cf2 m0 m1 m2 n0 n1 n2 l2
        go_wp2
        refine bodyPost_ret (v := .tuple #[.agg #[.int .i64 now, .int .i64 (sq + 1), .slice to T.length tc], .int .i64 0]) (by simp [results, Try.results18, go_sem, p0, p1, p2]) rfl ?_
        rw [HR2.out]
        exact ansK_of hB3 HF.out _ _ _

set_option maxHeartbeats 4000000 in
theorem implReset_any (now sq : Int) (ao : Option Addr) (cap : Nat) (ts : List T3) (id d : Int) (w : World) (hn : I64 now) (hd : I64 d) (hA : AtsIn ts) (hl : ts.length ≤ 1048576) (hcap : ts.length ≤ cap) (hz : TimersIn w.heap.size w ao ts) :
    Calls Try.prog 24 #[.agg #[.int .i64 now, .int .i64 sq, .slice ao ts.length cap], .int .i64 id, .int .i64 d] w fun e w' => AnsK w (resetR now sq ts id d) e w' := by
  generalize hR : resetR now sq ts id d = R
  have HR : Hid (resetR now sq ts id d = R) := hR
  clear hR
  go_enter Try.func24, Try.ntmps24
  go_wp2_with fail
  refine (mayArm_any now sq ao cap ts _ hl hcap (hz.later (below2 _ _ _))).mono ?_
  rintro e w1 ⟨rfl, hb1⟩
  have hB1 := (below2 w (.cells #[.int .i64 now, .int .i64 sq, .slice ao ts.length cap] 29) (.cells #[.int .i64 0, .int .i64 0, .slice none 0 0] 29)).trans (hb1.mono (by simp; omega))
  have X1 := (Boxes.new w now sq (.slice ao ts.length cap)).later hb1
  obtain ⟨b0, b1, b2, bf0, bf1, bf2, r0, r1, r2, f0, f1, f2, l1⟩ := _root_.id X1
  clear hb1
  cases hg : mayB now sq ts
  · have HR2 : Hid (R = (0, 0, [], 1)) := by rw [Hid, ← HR.out, resetR, hg]; rfl
    clear hg HR
    go_wp2
    refine bodyPost_ret (v := .tuple #[.agg #[.int .i64 0, .int .i64 0, .slice none 0 0], .int .i64 1]) (by simp [results, Try.results24, go_sem, r0, r1, r2]) rfl ?_
    rw [HR2.out]
    exact ansK_of (ts := []) hB1 (.inl rfl) _ _ _
  · have HG : Hid (mayB now sq ts = true) := hg
    obtain ⟨hgood, hsq⟩ := may_parts hg
    have hgp := good_parts hgood
    have hn30 : ts.length ≤ 30 := hgp.2.2.2.1
    have hsq0 : 0 ≤ sq := hgp.2.1
    have HS : Hid (SortedT ts ∧ SeqLt ts (sq + 1)) := good_sort hgood
    clear hg hgood hgp
    go_wp2_with fail
    refine (place_any now sq ao cap ts id w1 hl (hz.later hB1)).mono ?_
    rintro e w2 ⟨rfl, hb2⟩
    have hB2 := hB1.trans (hb2.mono hB1.size)
    have X2 := X1.later hb2
    obtain ⟨c0, c1, c2, cf0, cf1, cf2, m0, m1, m2, n0, n1, n2, l2⟩ := _root_.id X2
    clear hb2 X1 b0 b1 b2 bf0 bf1 bf2 r0 r1 r2 f0 f1 f2 l1
    cases hf : findT ts id with
    | none =>
      have HR2 : Hid (R = (now, sq, ts, 3)) := by rw [Hid, ← HR.out, resetR, HG.out, hf]; rfl
      rw [show placeV ts id = .tuple #[.int .i64 0, .bool false] from by rw [placeV, hf]]
      clear hf HR
      go_wp2_with fail
      refine (copyClock_any now sq ao cap ts w2 hl (hz.later hB2)).mono ?_
      rintro e w3 ⟨⟨to, tc, rfl, hF⟩, hb3⟩
      have hB3 := hB2.trans (hb3.mono hB2.size)
      obtain ⟨d0, d1, d2, df0, df1, df2, p0, p1, p2, q0, q1, q2, l3⟩ := X2.later hb3
      have HF : Hid (FreshC (w.heap.size + 1 + 1) w3.heap.size w3 to tc ts) := hF.wide (by omega) (Nat.le_refl _)
      clear hF hb3 X2 c0 c1 c2 cf0 cf1 cf2 m0 m1 m2 n0 n1 n2 l2
      go_wp2
      refine bodyPost_ret (v := .tuple #[.agg #[.int .i64 now, .int .i64 sq, .slice to ts.length tc], .int .i64 3]) (by simp [results, Try.results24, go_sem, p0, p1, p2]) rfl ?_
      rw [HR2.out]
      exact ansK_of hB3 HF.out _ _ _
    | some k =>
      have hk := findT_lt hf
      obtain ⟨E, hE⟩ : ∃ E, E = eraseT ts k := ⟨_, rfl⟩
      obtain ⟨T, hT⟩ : ∃ T, T = insT E (id, laterI now d, sq + 1) := ⟨_, rfl⟩
      have HR2 : Hid (R = (now, sq + 1, T, 0)) := by rw [Hid, ← HR.out, resetR, HG.out, hf, hT, hE]; rfl
      rw [show placeV ts id = .tuple #[.int .i64 (k : Int), .bool true] from by rw [placeV, hf]]
      have HE : Hid (E = keepN ts (k : Int) (List.range ts.length)) := by rw [Hid, hE, keepN_range ts k hk]; rfl
      have HT : Hid (T = insT E (id, laterI now d, sq + 1) ∧ AtsIn E ∧ SortedT E ∧ SeqLt E (sq + 1)) := ⟨hT, by rw [hE]; exact hA.erase k hk, by rw [hE]; exact HS.out.1.erase k hk, by rw [hE]; exact HS.out.2.erase k hk⟩
      have hEl : E.length + 1 = ts.length := by rw [hE]; exact eraseT_len ts k hk
      have hEl2 : E.length ≤ 1030000 := by omega
      clear hf HR hT hE hEl
      go_wp2_with fail
      refine (withoutTimer_any now sq ao cap ts (k : Int) w2 hl (hz.later hB2) E HE.out).mono ?_
      rintro e w5 ⟨⟨to5, tc5, rfl, hF5⟩, hb5⟩
      have hB5 := hB2.trans (hb5.mono hB2.size)
      have X5 := X2.later hb5
      have l5 := X5.lt
      have HF5 : Hid (TimersIn w5.heap.size w5 to5 E) := hF5.timers
      clear hF5 hb5 X2 c0 c1 c2 cf0 cf1 cf2 m0 m1 m2 n0 n1 n2 l2
      go_wp2_with fail
      refine (withTimer_ins now sq to5 tc5 E id d w5 T HT.out.1 hEl2 hn hd (by omega) hsq0 HT.out.2.1 HT.out.2.2.1 HT.out.2.2.2 HF5.out).mono ?_
      rintro e w3 ⟨⟨to, tc, rfl, hF⟩, hb3⟩
      have hB3 := hB5.trans (hb3.mono hB5.size)
      obtain ⟨d0, d1, d2, df0, df1, df2, p0, p1, p2, q0, q1, q2, l3⟩ := X5.later hb3
      have HF : Hid (FreshC (w.heap.size + 1 + 1) w3.heap.size w3 to tc T) := hF.wide (by omega) (Nat.le_refl _)
      clear hF hb3 X5
      go_wp2
      refine bodyPost_ret (v := .tuple #[.agg #[.int .i64 now, .int .i64 (sq + 1), .slice to T.length tc], .int .i64 0]) (by simp [results, Try.results24, go_sem, p0, p1, p2]) rfl ?_
      rw [HR2.out]
      exact ansK_of hB3 HF.out _ _ _
end Go.Proofs.Ytmjjjckjmfekcaa
