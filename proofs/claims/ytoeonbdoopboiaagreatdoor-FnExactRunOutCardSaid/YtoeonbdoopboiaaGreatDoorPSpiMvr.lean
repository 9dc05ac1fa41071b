/- The specification's moves: ticks, drains, aborts. No conditions but those written. The specification plays moves on a new pipe. No conditions but those written. Rows of moves: sizes, copies, comparisons. No conditions but those written. The walk of the law of RoomOf: it returns true. No conditions but those written. How the arguments that come in are read. No conditions but those written. How rows that come in are read. No conditions but those written. How graphs that come in are read. No conditions but those written. How a row of moves that comes in is read. No conditions but those written. -/
import Derived.Test.YtoeonbdoopboiaaGreatDoorPSpgSph
import Derived.Test.YtoeonbdoopboiaaGreatDoorPCkLd
import Derived.Test.YtoeonbdoopboiaaGreatDoorPThWp
import Derived.Test.YtoeonbdoopboiaaGreatDoorPYtYj
import Derived.Test.YtoeonbdoopboiaaGreatDoorPGenBx
import Derived.ProofKit
import Derived.Deep.SlicePairs
import Derived.Lib.SmallJoins
import Derived.Test.YtoeonbdoopboiaaGreatDoorPDpFx
namespace Go.Proofs.YtoeonbdoopboiaaGreatDoor
section
open Go.RowKit

set_option maxRecDepth 100000 in
set_option maxHeartbeats 2000000 in
theorem moveS4 (lo : Nat) (W : World) (p bb gb goff gc : Nat) (ts : List LNode) (xs : List Value) (ev fv uv : Value) (s : PP) (m2 m3 : Int) (n : Nat) (h : FlowS lo W p bb (.slice (some ⟨gb, goff, none⟩) ts.length gc) xs ev fv uv s) (hz : DIn dNode lo W (some ⟨gb, goff, none⟩) ts) (hG : GoodE (ts.map valNode)) (_hI : InvS (ts.map valNode) s) (hB : BndP ts.length n s) (_hn : n ≤ 1000) :
    Calls Tryz.prog 65 #[.pointer (some ⟨p, 0, none⟩), .agg #[.int .i64 4, .int .i64 m2, .int .i64 m3]] W fun e W' => e = .returned (.int .i64 (tickR s m3).1) ∧ FStepS lo p (.slice (some ⟨gb, goff, none⟩) ts.length gc) (FO p bb xs ev fv uv) W W' (tickR s m3).2 := by
  have hb0 := below1 W (.cells #[.int .i64 4, .int .i64 m2, .int .i64 m3] 74)
  have hlo : lo ≤ W.heap.size := h.lo_le
  have F0 := h.later hb0
  have hp := h.box.size
  have hbb := h.hnd.size
  have hN := hB.len
  have hmany : s.bx.length ≤ 10 := by have := hG.edg.many; rw [List.length_map] at this; omega
  have h1 := hB.tot
  have h2 := hB.em
  have h3 := hB.fu
  have h4 := hB.it1
  have h5 := hB.ti0
  have h6 := hB.ti1
  obtain ⟨V, hV⟩ : ∃ V, V = W.alloc (.cells #[.int .i64 4, .int .i64 m2, .int .i64 m3] 74) := ⟨_, rfl⟩
  rw [← hV] at hb0 F0
  have HF0 := hid F0
  have HB0 := hid hb0
  have HV := hid hV
  have M0 := Bx.new (w := W) [.int .i64 4, .int .i64 m2, .int .i64 m3] 74 rfl
  rw [← hV] at M0
  have HM0 := hid M0
  have b0 := M0.c 0 rfl
  have b1 := M0.c 1 rfl
  have b2 := M0.c 2 rfl
  have hz0 := hz.below dNode_ok (hb0.mono hlo)
  have HNN := hid hN
  clear hV hb0 M0 F0 hN
  have c1 := HF0.out.box.c 1 rfl
  have f1 := HF0.out.box.f 1 rfl
  rcases hb : (decide (0 ≤ m3) && decide (m3 ≤ 1000)) with _ | _
  case false =>
    have HR : Hid (tickR s m3 = (2, s)) := by
      rw [Hid, tickR, if_pos]
      rw [Bool.and_eq_false_iff, decide_eq_false_iff_not, decide_eq_false_iff_not] at hb
      omega
    have HLI := hid (l1In_is m3 0 1000 V false hb)
    clear hb
    go_enter Tryz.func65, Tryz.ntmps65
    go_wp2_with fail
    rw [← HV.out]
    refine HLI.out.mono ?_
    rintro e w2 ⟨rfl, hw2⟩
    rw [hw2]; clear hw2 w2
    go_wp2
    go_ret
    rw [HR.out]
    exact ⟨rfl, FStepS.same h HB0.out⟩
  have HLI := hid (l1In_is m3 0 1000 V true hb)
  have h30 : 0 ≤ m3 ∧ m3 ≤ 1000 := by simpa using hb
  have hw : IntKind.i64.wrap (s.ti + m3) = s.ti + m3 := by rw [IntKind.wrap_i64]; omega
  clear hb
  by_cases hgt : 1000000 < s.ti + m3
  · have hd : decide (1000000 < s.ti + m3) = true := by simpa using hgt
    have HR : Hid (tickR s m3 = (4, s)) := by rw [Hid, tickR, if_neg (by omega), if_pos hgt]
    go_enter Tryz.func65, Tryz.ntmps65
    go_wp2_with fail
    rw [← HV.out]
    refine HLI.out.mono ?_
    rintro e w2 ⟨rfl, hw2⟩
    rw [hw2]; clear hw2 w2
    go_wp2_with fail
    go_quiet (fail)
    go_wp2
    go_ret
    rw [HR.out]
    exact ⟨rfl, FStepS.same h (below_draws HB0.out _)⟩
  · have hd : decide (1000000 < s.ti + m3) = false := by simpa using hgt
    have HR : Hid (tickR s m3 = (0, { s with ti := s.ti + m3 })) := by rw [Hid, tickR, if_neg (by omega), if_neg hgt]
    go_enter Tryz.func65, Tryz.ntmps65
    go_wp2_with fail
    rw [← HV.out]
    refine HLI.out.mono ?_
    rintro e w2 ⟨rfl, hw2⟩
    rw [hw2]; clear hw2 w2
    go_wp2_with fail
    go_quiet (fail)
    go_wp2_with fail
    generalize hV7 : V.drewN _ = V7
    have B7 : Below V.heap.size V V7 := by rw [← hV7]; exact below_draws (Below.refl _ _) _
    have HB7 := hid (HB0.out.trans (B7.mono HB0.out.size))
    have HF7 := hid (HF0.out.later B7)
    have M7 := HM0.out.later B7
    have SU := And.intro (HF7.out.box.c 1 rfl) (M7.c 2 rfl)
    have f17 := HF7.out.box.f 1 rfl
    have HX7 := hid (HF7.out.putTi (s.ti + m3))
    clear hV7 B7 M7 c1 f1 b0 b1 b2 hd
    refine wp_walks (zl := [11]) (S := fun Y => Y.cell? ⟨p, 1, none⟩ = some (.int .i64 s.ti) ∧ Y.cell? ⟨W.heap.size, 2, none⟩ = some (.int .i64 m3)) (by kernel_rfl) SU (fun hH => ?_)
    refine Walks.take (i := 0) (v := ?va0) rfl (by kernel_rfl) (by kernel_rfl) (fun _ _ _ h => h) _ _ _ _ (by kernel_rfl) (by kernel_rfl) (Or.inl ⟨by rfl, ?hya0⟩) hH ?resta0
    case hya0 => (intro w' hSw; (try dsimp only at hSw); go_simp <;> with_reducible rfl)
    refine Walks.take (i := 1) (v := ?va1) rfl (by kernel_rfl) (by kernel_rfl) (fun _ _ _ h => h) _ _ _ _ (by kernel_rfl) (by kernel_rfl) (Or.inl ⟨by rfl, ?hya1⟩) hH ?resta1
    case hya1 => (intro w' hSw; (try dsimp only at hSw); go_simp <;> with_reducible rfl)
    refine Walks.take (i := 2) (v := ?va2) rfl (by kernel_rfl) (by kernel_rfl) (fun _ _ _ h => h) _ _ _ _ (by kernel_rfl) (by kernel_rfl) (Or.inl ⟨by rfl, ?hya2⟩) hH ?resta2
    case hya2 => (intro w' hSw; (try dsimp only at hSw); go_simp <;> with_reducible rfl)
    refine Walks.take (i := 3) (v := ?va3) rfl (by kernel_rfl) (by kernel_rfl) (fun _ _ _ h => h) _ _ _ _ (by kernel_rfl) (by kernel_rfl) (Or.inl ⟨by rfl, ?hya3⟩) hH ?resta3
    case hya3 => (intro w' hSw; (try dsimp only at hSw); go_simp <;> with_reducible rfl)
    refine Walks.take (i := 4) (v := ?va4) rfl (by kernel_rfl) (by kernel_rfl) (fun _ _ _ h => h) _ _ _ _ (by kernel_rfl) (by kernel_rfl) (Or.inl ⟨by rfl, ?hya4⟩) hH ?resta4
    case hya4 => (intro w' hSw; (try dsimp only at hSw); go_simp <;> with_reducible rfl)
    refine Walks.take (i := 5) (v := ?va5) rfl (by kernel_rfl) (by kernel_rfl) (fun _ _ _ h => h) _ _ _ _ (by kernel_rfl) (by kernel_rfl) (Or.inl ⟨by rfl, ?hya5⟩) hH ?resta5
    case hya5 => (intro w' hSw; (try dsimp only at hSw); go_simp <;> with_reducible rfl)
    refine Walks.take (i := 6) (v := ?va6) rfl (by kernel_rfl) (by kernel_rfl) (fun _ _ _ h => h) _ _ _ _ (by kernel_rfl) (by kernel_rfl) (Or.inl ⟨by rfl, ?hya6⟩) hH ?resta6
    case hya6 => (intro w' hSw; (try dsimp only at hSw); go_simp <;> with_reducible rfl)
    refine Walks.take (i := 7) (v := ?va7) rfl (by kernel_rfl) (by kernel_rfl) (fun _ _ _ h => h) _ _ _ _ (by kernel_rfl) (by kernel_rfl) (Or.inl ⟨by rfl, ?hya7⟩) hH ?resta7
    case hya7 => (intro w' hSw; (try dsimp only at hSw); go_simp <;> with_reducible rfl)
    refine Walks.one (i := 8) (o := _) (by kernel_rfl) rfl (fun K hK => ?_)
    go_simp
    refine hK.out _ _ (fun _ => SU) (fun _ => ?_)
    clear hK K
    refine Walks.one (i := 9) (o := _) (by kernel_rfl) rfl (fun K hK => ?_)
    go_simp
    refine hK.out _ _ (fun _ => SU) (fun _ => ?_)
    clear hK K
    refine Walks.take (i := 10) (v := ?vb10) rfl (by kernel_rfl) (by kernel_rfl) (fun _ _ _ h => h) _ _ _ _ (by kernel_rfl) (by kernel_rfl) (Or.inl ⟨by rfl, ?hyb10⟩) SU ?restb10
    case hyb10 => (intro w' hSw; (try dsimp only at hSw); go_simp <;> with_reducible rfl)
    refine Walks.one (i := 11) (o := _) (by kernel_rfl) rfl (fun K hK => ?_)
    go_simp
    refine hK.out _ _ (fun h => absurd h (by decide)) (fun _ => ?_)
    refine Walks.done (by kernel_rfl) ?_ _
    clear hK K
    go_wp2
    go_ret
    rw [HR.out]
    exact ⟨rfl, FStepS.start h HB7.out (HX7.out.later (Below.refl _ _).drew).step⟩
set_option maxRecDepth 100000 in
set_option maxHeartbeats 2000000 in
theorem moveS5 (lo : Nat) (W : World) (p bb gb goff gc : Nat) (ts : List LNode) (xs : List Value) (ev fv uv : Value) (s : PP) (m2 m3 : Int) (n : Nat) (h : FlowS lo W p bb (.slice (some ⟨gb, goff, none⟩) ts.length gc) xs ev fv uv s) (hz : DIn dNode lo W (some ⟨gb, goff, none⟩) ts) (hG : GoodE (ts.map valNode)) (_hI : InvS (ts.map valNode) s) (hB : BndP ts.length n s) (_hn : n ≤ 1000) :
    Calls Tryz.prog 65 #[.pointer (some ⟨p, 0, none⟩), .agg #[.int .i64 5, .int .i64 m2, .int .i64 m3]] W fun e W' => e = .returned (.int .i64 (drainR s).1) ∧ FStepS lo p (.slice (some ⟨gb, goff, none⟩) ts.length gc) (FO p bb xs ev fv uv) W W' (drainR s).2 := by
  have hb0 := below1 W (.cells #[.int .i64 5, .int .i64 m2, .int .i64 m3] 74)
  have hlo : lo ≤ W.heap.size := h.lo_le
  have F0 := h.later hb0
  have hp := h.box.size
  have hbb := h.hnd.size
  have hN := hB.len
  have hmany : s.bx.length ≤ 10 := by have := hG.edg.many; rw [List.length_map] at this; omega
  have h1 := hB.tot
  have h2 := hB.em
  have h3 := hB.fu
  have h4 := hB.it1
  have h5 := hB.ti0
  have h6 := hB.ti1
  obtain ⟨V, hV⟩ : ∃ V, V = W.alloc (.cells #[.int .i64 5, .int .i64 m2, .int .i64 m3] 74) := ⟨_, rfl⟩
  rw [← hV] at hb0 F0
  have HF0 := hid F0
  have HB0 := hid hb0
  have HV := hid hV
  have M0 := Bx.new (w := W) [.int .i64 5, .int .i64 m2, .int .i64 m3] 74 rfl
  rw [← hV] at M0
  have HM0 := hid M0
  have b0 := M0.c 0 rfl
  have b1 := M0.c 1 rfl
  have b2 := M0.c 2 rfl
  have hz0 := hz.below dNode_ok (hb0.mono hlo)
  have HNN := hid hN
  clear hV hb0 M0 F0 hN
  have c3 := h.box.c 3 rfl
  have f3 := h.box.f 3 rfl
  cases hc : s.cl
  · have HR : Hid (drainR s = (0, { s with cl := true })) := by rw [Hid, drainR, hc]; rfl
    rw [hc] at c3
    go_enter Tryz.func65, Tryz.ntmps65
    go_wp2
    go_ret
    rw [HR.out]
    exact ⟨rfl, ((h.putCl true).later (below1 _ _)).step⟩
  · have HR : Hid (drainR s = (3, s)) := by rw [Hid, drainR, hc]; rfl
    rw [hc] at c3
    go_enter Tryz.func65, Tryz.ntmps65
    go_wp2
    go_ret
    rw [HR.out]
    exact ⟨rfl, FStepS.same h (below1 _ _)⟩
set_option maxRecDepth 100000 in
set_option maxHeartbeats 2000000 in
theorem moveS6 (lo : Nat) (W : World) (p bb gb goff gc : Nat) (ts : List LNode) (xs : List Value) (ev fv uv : Value) (s : PP) (m2 m3 : Int) (n : Nat) (h : FlowS lo W p bb (.slice (some ⟨gb, goff, none⟩) ts.length gc) xs ev fv uv s) (hz : DIn dNode lo W (some ⟨gb, goff, none⟩) ts) (hG : GoodE (ts.map valNode)) (_hI : InvS (ts.map valNode) s) (hB : BndP ts.length n s) (hn : n ≤ 1000) :
    Calls Tryz.prog 65 #[.pointer (some ⟨p, 0, none⟩), .agg #[.int .i64 6, .int .i64 m2, .int .i64 m3]] W fun e W' => e = .returned (.int .i64 (abortR s).1) ∧ FStepS lo p (.slice (some ⟨gb, goff, none⟩) ts.length gc) (FO p bb xs ev fv uv) W W' (abortR s).2 := by
  have hb0 := below1 W (.cells #[.int .i64 6, .int .i64 m2, .int .i64 m3] 74)
  have hlo : lo ≤ W.heap.size := h.lo_le
  have F0 := h.later hb0
  have hp := h.box.size
  have hbb := h.hnd.size
  have hN := hB.len
  have hmany : s.bx.length ≤ 10 := by have := hG.edg.many; rw [List.length_map] at this; omega
  have h1 := hB.tot
  have h2 := hB.em
  have h3 := hB.fu
  have h4 := hB.it1
  have h5 := hB.ti0
  have h6 := hB.ti1
  obtain ⟨V, hV⟩ : ∃ V, V = W.alloc (.cells #[.int .i64 6, .int .i64 m2, .int .i64 m3] 74) := ⟨_, rfl⟩
  rw [← hV] at hb0 F0
  have HF0 := hid F0
  have HB0 := hid hb0
  have HV := hid hV
  have M0 := Bx.new (w := W) [.int .i64 6, .int .i64 m2, .int .i64 m3] 74 rfl
  rw [← hV] at M0
  have HM0 := hid M0
  have b0 := M0.c 0 rfl
  have b1 := M0.c 1 rfl
  have b2 := M0.c 2 rfl
  have hz0 := hz.below dNode_ok (hb0.mono hlo)
  have HNN := hid hN
  clear hV hb0 M0 F0 hN
  have c3 := h.box.c 3 rfl
  have HA := hid (abortS_any lo V p bb _ xs ev fv uv s HF0.out hmany (by omega))
  cases hc : s.cl
  · have HR : Hid (abortR s = (0, abortP s)) := by rw [Hid, abortR, if_neg (by simp [hc])]
    rw [hc] at c3
    go_enter Tryz.func65, Tryz.ntmps65
    go_wp2_with fail
    rw [← HV.out]
    refine HA.out.mono ?_
    rintro e w2 ⟨⟨v2, rfl⟩, hs⟩
    have HS := hid (FStepS.start h HB0.out hs)
    clear hs
    go_wp2
    go_ret
    rw [HR.out]
    exact ⟨rfl, HS.out⟩
  · rw [hc] at c3
    have HL := hid (liveM_any lo V p bb _ xs ev fv uv s HF0.out hmany (by omega))
    by_cases h00 : totT s.bx = 0
    · have HR : Hid (abortR s = (3, s)) := by rw [Hid, abortR, if_pos ⟨hc, h00⟩]
      rw [h00] at HL
      clear h00
      go_enter Tryz.func65, Tryz.ntmps65
      go_wp2_with fail
      rw [← HV.out]
      refine HL.out.mono ?_
      rintro e w2 ⟨rfl, hb2⟩
      have HB2 := hid (HB0.out.trans (hb2.mono HB0.out.size))
      clear hb2
      go_wp2
      go_ret
      rw [HR.out]
      exact ⟨rfl, FStepS.same h HB2.out⟩
    · have HR : Hid (abortR s = (0, abortP s)) := by rw [Hid, abortR, if_neg (fun hh => h00 hh.2)]
      have hne : ((totT s.bx : Int) == 0) = false := by simpa using h00
      go_enter Tryz.func65, Tryz.ntmps65
      go_wp2_with fail
      rw [← HV.out]
      refine HL.out.mono ?_
      rintro e w2 ⟨rfl, hb2⟩
      have HB2 := hid (HB0.out.trans (hb2.mono HB0.out.size))
      have HA2 := hid (abortS_any lo w2 p bb _ xs ev fv uv s (h.later HB2.out) hmany (by omega))
      clear hb2
      go_wp2_with fail
      refine HA2.out.mono ?_
      rintro e w3 ⟨⟨v3, rfl⟩, hs⟩
      have HS := hid (FStepS.start h HB2.out hs)
      clear hs
      go_wp2
      go_ret
      rw [HR.out]
      exact ⟨rfl, HS.out⟩
set_option maxHeartbeats 1000000 in
theorem moveS0 (m1 m2 m3 : Int) (k1 : m1 ≠ 1) (k2 : m1 ≠ 2) (k3 : m1 ≠ 3) (k4 : m1 ≠ 4) (k5 : m1 ≠ 5) (k6 : m1 ≠ 6) (W : World) (p : Nat) :
    Calls Tryz.prog 65 #[.pointer (some ⟨p, 0, none⟩), .agg #[.int .i64 m1, .int .i64 m2, .int .i64 m3]] W fun e w' => e = .returned (.int .i64 1) ∧ Below W.heap.size W w' := by
  have j1 : (m1 == 1) = false := by simpa using k1
  have j2 : (m1 == 2) = false := by simpa using k2
  have j3 : (m1 == 3) = false := by simpa using k3
  have j4 : (m1 == 4) = false := by simpa using k4
  have j5 : (m1 == 5) = false := by simpa using k5
  have j6 : (m1 == 6) = false := by simpa using k6
  clear k1 k2 k3 k4 k5 k6
  have hb0 := below1 W (.cells #[.int .i64 m1, .int .i64 m2, .int .i64 m3] 74)
  have M0 := Bx.new (w := W) [.int .i64 m1, .int .i64 m2, .int .i64 m3] 74 rfl
  have b0 := M0.c 0 rfl
  go_enter Tryz.func65, Tryz.ntmps65
  go_wp2
  go_ret
  exact ⟨rfl, hb0⟩
theorem moveS_any (lo : Nat) (W : World) (p bb gb goff gc : Nat) (ts : List LNode) (xs : List Value) (ev fv uv : Value) (s : PP) (m1 m2 m3 : Int) (n : Nat) (h : FlowS lo W p bb (.slice (some ⟨gb, goff, none⟩) ts.length gc) xs ev fv uv s) (hz : DIn dNode lo W (some ⟨gb, goff, none⟩) ts) (hG : GoodE (ts.map valNode)) (hI : InvS (ts.map valNode) s) (hB : BndP ts.length n s) (hn : n ≤ 1000) (hm : m1 ≤ 9223372036854775807) :
    Calls Tryz.prog 65 #[.pointer (some ⟨p, 0, none⟩), .agg #[.int .i64 m1, .int .i64 m2, .int .i64 m3]] W fun e W' => e = .returned (.int .i64 (doR (ts.map valNode) (srcP (ts.map valNode) ts.length) s m1 m2 m3).1) ∧ FStepS lo p (.slice (some ⟨gb, goff, none⟩) ts.length gc) (FO p bb xs ev fv uv) W W' (doR (ts.map valNode) (srcP (ts.map valNode) ts.length) s m1 m2 m3).2 := by
  by_cases k1 : m1 = 1
  · subst k1
    rw [show doR (ts.map valNode) (srcP (ts.map valNode) ts.length) s 1 m2 m3 = offerR (ts.map valNode) (srcP (ts.map valNode) ts.length) s m2 m3 from by simp [doR]]
    exact moveS1 lo W p bb gb goff gc ts xs ev fv uv s m2 m3 n h hz hG hI hB hn
  by_cases k2 : m1 = 2
  · subst k2
    rw [show doR (ts.map valNode) (srcP (ts.map valNode) ts.length) s 2 m2 m3 = stepR (ts.map valNode) s m2 from by simp [doR]]
    exact moveS2 lo W p bb gb goff gc ts xs ev fv uv s m2 m3 n h hz hG hI hB hn
  by_cases k3 : m1 = 3
  · subst k3
    rw [show doR (ts.map valNode) (srcP (ts.map valNode) ts.length) s 3 m2 m3 = faultR s m2 from by simp [doR]]
    exact moveS3 lo W p bb gb goff gc ts xs ev fv uv s m2 m3 n h hz hG hI hB hn
  by_cases k4 : m1 = 4
  · subst k4
    rw [show doR (ts.map valNode) (srcP (ts.map valNode) ts.length) s 4 m2 m3 = tickR s m3 from by simp [doR]]
    exact moveS4 lo W p bb gb goff gc ts xs ev fv uv s m2 m3 n h hz hG hI hB hn
  by_cases k5 : m1 = 5
  · subst k5
    rw [show doR (ts.map valNode) (srcP (ts.map valNode) ts.length) s 5 m2 m3 = drainR s from by simp [doR]]
    exact moveS5 lo W p bb gb goff gc ts xs ev fv uv s m2 m3 n h hz hG hI hB hn
  by_cases k6 : m1 = 6
  · subst k6
    rw [show doR (ts.map valNode) (srcP (ts.map valNode) ts.length) s 6 m2 m3 = abortR s from by simp [doR]]
    exact moveS6 lo W p bb gb goff gc ts xs ev fv uv s m2 m3 n h hz hG hI hB hn
  have hR : doR (ts.map valNode) (srcP (ts.map valNode) ts.length) s m1 m2 m3 = (1, s) := by simp [doR, k1, k2, k3, k4, k5, k6]
  rw [hR]
  exact (moveS0 m1 m2 m3 k1 k2 k3 k4 k5 k6 W p).mono fun e w' hh => ⟨hh.1, FStepS.same h hh.2⟩
end
section
open Go.RowKit

theorem flowS_new {lo n bb : Nat} {W : World} {xs : List Value} {gv : Value} (hh : HandsT bb W xs (List.replicate n [])) (hx : ∀ j, j < n → ∀ b, (el xs j).ownBlock ≠ some b) (hlo : lo ≤ bb) (T : TypeId) :
    FlowS lo (W.alloc (.cells #[gv, .int .i64 0, .int .i64 0, .bool false, .slice (some ⟨bb, 0, none⟩) n n, .slice none 0 0, .slice none 0 0, .slice none 0 0] T)) W.heap.size bb gv xs (.slice none 0 0) (.slice none 0 0) (.slice none 0 0) (pp0 n) := by
  have hs := hh.size
  refine ⟨?_, hh.later (below1 _ _), Kind.Own.nil _ _ _, Kind.Own.nil _ _ _, Kind.Own.nil _ _ _, by omega, hlo, by omega, fun j hj => hx j (by simpa [pp0] using hj) _, by simp [Value.ownBlock], by simp [Value.ownBlock], by simp [Value.ownBlock]⟩
  have := Bx.new (w := W) [gv, .int .i64 0, .int .i64 0, .bool false, .slice (some ⟨bb, 0, none⟩) n n, .slice none 0 0, .slice none 0 0, .slice none 0 0] T rfl
  simpa [pp0] using this

set_option maxHeartbeats 4000000 in
theorem l12Good_is (ao : Option Addr) (cap : Nat) (ts : List LNode) (w : World) (hC : Roomy ts cap) (hz : DIn dNode w.heap.size w ao ts) :
    Calls Tryz.prog 64 #[.slice ao ts.length cap] w fun e w' => e = .returned (.bool (pipeB (ts.map valNode))) ∧ Below w.heap.size w w' := by
  have hcon := specCheck_is ao cap ts w hC hz
  have HZ := hid hz
  clear hz hC
  by_cases h0 : codeG (ts.map valNode) = 0
  · obtain ⟨hm, hbk, hor⟩ := codeG_zero h0
    have HED := hid (edges_of (by omega) (hbk 4 (by omega)))
    have HOR := hid hor
    have HPB : Hid (pipeB (ts.map valNode) = decide (widP (ts.map valNode) ≤ 400)) := by rw [Hid, pipeB, decide_eq_true h0, Bool.true_and]
    rw [h0] at hcon
    have HWI : Hid (∀ W', Below w.heap.size w W' → Calls Tryz.prog 89 #[.slice ao ts.length cap] W' fun e w' => e = .returned (.int .i64 (widP (ts.map valNode))) ∧ Below W'.heap.size W' w') := fun W' hW => l11Widest_is ao cap ts W' HED.out HOR.out (HZ.out.later dNode_ok hW)
    clear h0 hm hbk hor
    generalize widP (ts.map valNode) = wd at HPB HWI
    go_enter Tryz.func64, Tryz.ntmps64
    go_wp2_with fail
    refine hcon.mono ?_
    rintro e w1 ⟨rfl, hb1⟩
    have HB1 := hid hb1
    clear hb1 hcon
    go_wp2_with fail
    refine (HWI.out w1 HB1.out).mono ?_
    rintro e w2 ⟨rfl, hb2⟩
    have HB2 := hid (HB1.out.trans (hb2.mono HB1.out.size))
    clear hb2
    go_wp2
    go_ret
    rw [HPB.out]
    exact ⟨rfl, HB2.out⟩
  · have HPB : Hid (pipeB (ts.map valNode) = false) := by rw [Hid, pipeB, decide_eq_false h0]; rfl
    have hne : (((codeG (ts.map valNode) : Nat) : Int) == 0) = false := by simpa using h0
    clear h0
    go_enter Tryz.func64, Tryz.ntmps64
    go_wp2_with fail
    refine hcon.mono ?_
    generalize codeG (ts.map valNode) = cg at hne ⊢
    rintro e w1 ⟨rfl, hb1⟩
    have hB1 : Below w.heap.size w w1 := hb1
    clear hb1
    go_wp2
    go_ret
    rw [HPB.out]
    exact ⟨rfl, hB1⟩
/-- A pipe of the specification that was played on, and the codes. -/
def AnsPlS (ao : Option Addr) (cap : Nat) (ts : List LNode) (ms : List (Int × Int × Int)) (w : World) (e : Ending) (w' : World) : Prop :=
  (if pipeB (ts.map valNode) = true ∧ ms.length ≤ 300 then ∃ lo p bb xs ev fv uv v, e = .returned (.tuple #[.pointer (some ⟨p, 0, none⟩), v, .bool true]) ∧ w.heap.size ≤ lo ∧
      FlowS lo w' p bb (.slice ao ts.length cap) xs ev fv uv (playP (ts.map valNode) (srcP (ts.map valNode) ts.length) ms (pp0 ts.length)).2 ∧ kI.Own lo w' v (playP (ts.map valNode) (srcP (ts.map valNode) ts.length) ms (pp0 ts.length)).1 ∧ ∀ b, v.ownBlock = some b → ¬ FO p bb xs ev fv uv b
   else ∃ q, e = .returned (.tuple #[.pointer (some ⟨q, 0, none⟩), .slice none 0 0, .bool false])) ∧ Below w.heap.size w w'
set_option maxRecDepth 10000 in
set_option maxHeartbeats 8000000 in
theorem l12Play_any (ao : Option Addr) (cap : Nat) (ts : List LNode) (mo : Option Addr) (mc : Nat) (ms : List (Int × Int × Int)) (w : World) (hC : Roomy ts cap) (hz : DIn dNode w.heap.size w ao ts) (hM : kMv.In w.heap.size w mo ms) (h64 : ∀ k, k < ms.length → (el ms k).1 ≤ 9223372036854775807) :
    Calls Tryz.prog 37 #[.slice ao ts.length cap, .slice mo ms.length mc] w (AnsPlS ao cap ts ms w) := by
  have HF := hid (l12Good_is ao cap ts w hC hz)
  have HZ := hid hz
  have HM := hid hM
  have H64 := hid h64
  clear hC hM h64
  by_cases hok : pipeB (ts.map valNode) = true
  · rw [hok] at HF
    by_cases hl : ms.length ≤ 300
    · have hd : decide ((300 : Int) < (ms.length : Int)) = false := by simp; omega
      have h0 : codeG (ts.map valNode) = 0 := by simp [pipeB] at hok; exact hok.1
      have HGE := hid (goodE_of h0)
      obtain ⟨hm, hbk, hor⟩ := codeG_zero h0
      have h1 : 0 < ts.length := by rw [val_len] at hm; omega
      have h10 : ts.length ≤ 10 := by rw [val_len] at hm; omega
      obtain ⟨gb, goff, rfl, hgb, _⟩ := hNode_at hz.1 h1
      obtain ⟨i0, hi, hz0, hz1, hz2⟩ := info_parts Tryz.infoTok
      clear hz h0 hm hbk hor
      go_enter Tryz.func37, Tryz.ntmps37
      go_wp2_with fail
      refine HF.out.mono ?_
      rintro e w1 ⟨rfl, hb1⟩
      have HB1 := hid hb1
      clear hb1 HF
      go_wp2_with (at_make; refine wpList_make_full _ rfl _ _ 26 rfl w1.heap.size 102 i0 (.slice none 0 0) 1 Tryz.underlying26 hi hz0 hz1 .i64 .i64 _ _ ts.length rfl rfl rfl rfl (by rw [hz2]; omega) (by unfold maxLen; omega) (Nat.le_refl _) ?_; intro wA hown hgrow; have HBA := hid ((Below.refl w1.heap.size w1).grown hgrow (Nat.le_refl _) (fun k e => by cases e)); obtain ⟨xsA, hhA, hxA⟩ := hands_madeT hown; have HA := hid hhA; have HX := hid hxA; clear hown hgrow hhA hxA)
      have HN0 := hid (flowS_new (gv := .slice (some ⟨gb, goff, none⟩) ts.length cap) HA.out HX.out (Nat.le_refl w1.heap.size) 68)
      have HBT := hid (fun o => HBA.out.trans ((below1 wA o).mono HBA.out.size))
      obtain ⟨SRC, hSRC⟩ : ∃ q, q = srcP (ts.map valNode) ts.length := ⟨_, rfl⟩
      have HSR := hid hSRC
      obtain ⟨lo, hlo⟩ : ∃ lo, lo = w1.heap.size := ⟨_, rfl⟩
      obtain ⟨p, hp⟩ : ∃ p, p = wA.heap.size := ⟨_, rfl⟩
      have hlo1 : w.heap.size ≤ lo := by rw [hlo]; exact HB1.out.size
      rw [← hlo] at HN0 HBT ⊢
      rw [← hp] at HN0 ⊢
      clear hSRC hlo hp
      go_loopw [8, 30] (fun u i wr => ∃ (m : Nat) (v : Value), v = u ∧ i = .int .i64 (m : Int) ∧ m ≤ ms.length ∧ ∃ bb xs ev fv uv, Hid (FlowS lo wr p bb (.slice (some ⟨gb, goff, none⟩) ts.length cap) xs ev fv uv (playP (ts.map valNode) SRC (ms.take m) (pp0 ts.length)).2) ∧ Hid (kI.Own lo wr v (playP (ts.map valNode) SRC (ms.take m) (pp0 ts.length)).1) ∧ Hid (∀ b, v.ownBlock = some b → ¬ FO p bb xs ev fv uv b) ∧ Hid (Below lo w1 wr)) (fun _ i _ => ms.length - (intOf i).toNat)
      case atStart => exact ⟨0, _, rfl, rfl, Nat.zero_le _, _, _, _, _, _, HN0, Kind.Own.nil _ _ _, (fun b hb => by simp [Value.ownBlock] at hb), HBT.out _⟩
      case round =>
        obtain ⟨m, v, rfl, rfl, hm, bb, xs, ev, fv, uv, hF, hO, hA, hB⟩ := hrel
        by_cases hlt : m < ms.length
        · obtain ⟨b, off, rfl, hb, hc⟩ := kMv_at HM.out hlt
          obtain ⟨d0, d1, d2⟩ := hc m hlt
          have HW := hid (HB1.out.trans (hB.out.mono hlo1))
          have e0 := (HW.out.cell (p := ⟨b, off + m * 3, none⟩) hb).trans d0
          have e1 := (HW.out.cell (p := ⟨b, off + m * 3 + 1, none⟩) hb).trans d1
          have e2 := (HW.out.cell (p := ⟨b, off + m * 3 + 2, none⟩) hb).trans d2
          have h6 := H64.out m hlt
          have HT := hid (take_succ_el hlt)
          have HBN := hid (playP_bnd SRC HGE.out.edg ms (by rw [val_len]; exact pp0_bnd ts.length) m hm)
          have HIV := hid (playP_inv SRC HGE.out ms (s := pp0 ts.length) (by have q := pp0_inv HGE.out; rw [val_len] at q; exact q) (by rw [val_len]; exact pp0_bnd ts.length) m hm)
          clear d0 d1 d2 hc
          go_wp2_with fail
          have hb6 := below1 wr (.cells #[.int .i64 (el ms m).1, .int .i64 (el ms m).2.1, .int .i64 (el ms m).2.2] 74)
          have hlr : lo ≤ wr.heap.size := hF.out.lo_le
          have HBV := hid (HW.out.trans (hb6.mono HW.out.size))
          have HBN2 := HBN.out
          rw [val_len] at HBN2
          have hmv := moveS_any lo _ p bb gb goff cap ts xs ev fv uv _ (el ms m).1 (el ms m).2.1 (el ms m).2.2 m (hF.out.later hb6) ((HZ.out.below dNode_ok HBV.out).up dNode_ok hlo1) HGE.out HIV.out HBN2 (by omega) h6
          rw [← HSR.out] at hmv
          refine hmv.mono ?_
          rintro e w4 ⟨rfl, hs4⟩
          obtain ⟨bb4, xs4, ev4, fv4, uv4, F4, O4, A4, B4⟩ := hs4.codes (hO.out.below hb6) hA.out
          obtain ⟨cd, hcd⟩ : ∃ cd, cd = (doR (ts.map valNode) SRC (playP (ts.map valNode) SRC (ms.take m) (pp0 ts.length)).2 (el ms m).1 (el ms m).2.1 (el ms m).2.2).1 := ⟨_, rfl⟩
          have hps := playP_snoc (ts.map valNode) SRC (ms.take m) (el ms m) (pp0 ts.length)
          rw [← hcd] at hps
          have hol := playP_len (ts.map valNode) SRC ms (pp0 ts.length) m hm
          rw [← hcd]
          obtain ⟨X, hX⟩ : ∃ X, X = w4.alloc (.cells #[.int .i64 cd] 3) := ⟨_, rfl⟩
          have hbX : Below w4.heap.size w4 X := by rw [hX]; exact below1 _ _
          have hNX : kI.In X.heap.size X (some ⟨w4.heap.size, 0, none⟩) [cd] := by
            have hx : Bx X w4.heap.size [.int .i64 cd] := by rw [hX]; exact Bx.new (w := w4) [.int .i64 cd] 3 rfl
            exact ints_mk hx.size fun j hj => by obtain rfl : j = 0 := by simp at hj; omega
                                                 exact hx.c 0 rfl
          have HX := hid hX
          have HFX := hid (F4.later hbX)
          have HOX := hid (O4.below hbX)
          have HN := hid hNX
          have HAX := hid A4
          have HBB : Hid (Below lo w1 X) := hB.out.trans (((hb6.mono hlr).trans B4).trans (hbX.mono F4.lo_le))
          have hlX : lo ≤ X.heap.size := HFX.out.lo_le
          have HPS := hid hps
          clear hX hbX hNX F4 O4 A4 B4 hcd hps HBN2 hb6 HBV e0 e1 e2 hF hO hA hmv
          go_wp2_with (at_builtin; rw [← HX.out]; refine Kind.appN kI_ok X rfl (.tmp 34) (.tmp 38) rfl lo v (playP (ts.map valNode) SRC (ms.take m) (pp0 ts.length)).1 rfl HOX.out hlX (some ⟨w4.heap.size, 0, none⟩) [cd] 1 1 rfl rfl (by simp) _ HN.out (by simp; omega) ?_; intro v' w5 hO5 hB5 hG5 hw5; have HC5 := hid (HFX.out.code HAX.out hG5 hw5); have HO5 := hid hO5; have HB5 := hid (HBB.out.trans hB5); clear hO5 hB5 hG5 hw5)
          go_roundw
          case rel => exact ⟨m + 1, v', rfl, by go_num, by omega, bb4, xs4, ev4, fv4, uv4, by rw [HT.out, HPS.out]; exact HC5.out.1, by rw [HT.out, HPS.out]; exact HO5, HC5.out.2, HB5⟩
          case measure => simp [intOf]; omega
        · obtain rfl : m = ms.length := by omega
          rw [List.take_length] at hF hO
          go_wp2
          refine bodyPost_ret (v := .tuple #[.pointer (some ⟨p, 0, none⟩), v, .bool true]) (by simp [results, Tryz.results37, go_sem]) rfl ?_
          refine ⟨?_, HB1.out.trans (hB.out.mono hlo1)⟩
          rw [if_pos ⟨hok, hl⟩, ← HSR.out]
          exact ⟨lo, p, bb, xs, ev, fv, uv, v, rfl, hlo1, hF.out, hO.out, hA.out⟩
    · have hd : decide ((300 : Int) < (ms.length : Int)) = true := by simp; omega
      go_enter Tryz.func37, Tryz.ntmps37
      go_wp2_with fail
      refine HF.out.mono ?_
      rintro e w1 ⟨rfl, hb1⟩
      go_wp2
      refine bodyPost_ret (v := .tuple #[.pointer (some ⟨w1.heap.size, 0, none⟩), .slice none 0 0, .bool false]) (by simp [results, Tryz.results37, go_sem]) rfl ?_
      exact ⟨by rw [if_neg (fun h => hl h.2)]; exact ⟨_, rfl⟩, hb1.trans ((below1 w1 _).mono hb1.size)⟩
  · obtain hok2 : pipeB (ts.map valNode) = false := by simpa using hok
    rw [hok2] at HF
    go_enter Tryz.func37, Tryz.ntmps37
    go_wp2_with fail
    refine HF.out.mono ?_
    rintro e w1 ⟨rfl, hb1⟩
    go_wp2
    refine bodyPost_ret (v := .tuple #[.pointer (some ⟨w1.heap.size, 0, none⟩), .slice none 0 0, .bool false]) (by simp [results, Tryz.results37, go_sem]) rfl ?_
    exact ⟨by rw [if_neg (fun h => hok h.1)]; exact ⟨_, rfl⟩, hb1.trans ((below1 w1 _).mono hb1.size)⟩
end
section
open Go.RowKit

theorem Tryz.info74 : (Tryz.prog.info? 74).map (fun i => (i.zero, i.size, i.bytes)) = some (some (.agg #[.int .i64 0, .int .i64 0, .int .i64 0]), 3, 24) := by kernel_rfl
theorem kMv_ok : kMv.Ok := kind_ok (K := kMv) Tryz.underlying36 Tryz.info74 rfl (by decide) (by decide)
theorem kMv_one {n : Nat} {W : World} {p : Nat} {t : Int × Int × Int} (hp : p < n) (h0 : W.cell? ⟨p, 0, none⟩ = some (.int .i64 t.1)) (h1 : W.cell? ⟨p, 1, none⟩ = some (.int .i64 t.2.1)) (h2 : W.cell? ⟨p, 2, none⟩ = some (.int .i64 t.2.2)) : kMv.In n W (some ⟨p, 0, none⟩) [t] := by
  refine Kind.In.mk1 hp fun i hi => ?_
  rw [Nat.zero_add]
  have hi' : i < 3 := hi
  rcases (show i = 0 ∨ i = 1 ∨ i = 2 from by omega) with rfl | rfl | rfl
  · exact h0
  · exact h1
  · exact h2
set_option maxHeartbeats 400000 in
theorem szMoveS_any (a : Option Addr) (len cap : Nat) (L : Int) (w : World) (h0 : 0 ≤ L) (h1 : L ≤ 1048576) (hl : len ≤ 9223372036854775807) :
    Calls Tryz.prog 9 #[.slice a len cap, .int .i64 L] w fun e w' => (∃ r : Int, e = .returned (.int .i64 r) ∧ r ≤ 1048576 ∧ ((r < 0) ∨ (r = L - len ∧ 0 ≤ r))) ∧ w' = w := by
  go_enter Tryz.func9, Tryz.ntmps9
  go_wp2
  all_goals go_ret
  · exact ⟨⟨_, rfl, by omega, by omega⟩, rfl⟩
  · exact ⟨⟨_, rfl, by omega, by omega⟩, rfl⟩
set_option maxHeartbeats 400000 in
theorem toMove_any (x1 : Int) (x2 : Int) (x3 : Int) (w : World) :
    Calls Tryz.prog 39 #[.agg #[.int .i64 x1, .int .i64 x2, .int .i64 x3]] w fun e w' => e = .returned (.agg #[.int .i64 x1, .int .i64 x2, .int .i64 x3]) ∧ Below w.heap.size w w' := by
  go_enter Tryz.func39, Tryz.ntmps39
  go_wp2
  exact bodyPost_ret (v := .agg #[.int .i64 x1, .int .i64 x2, .int .i64 x3]) (by simp [results, Tryz.results39, go_sem]) rfl ⟨rfl, below3 _ _ _ _⟩
set_option maxHeartbeats 2000000 in
theorem toMoveS_any (ao : Option Addr) (cap : Nat) (ts : List (Int × Int × Int)) (w : World) (hl : ts.length ≤ 1048576) (hz : kMv.In w.heap.size w ao ts) :
    Calls Tryz.prog 12 #[.slice ao ts.length cap] w fun e w' => e = .returned (.slice (some ⟨w.heap.size, 0, none⟩) ts.length ts.length) ∧ kMv.Fresh w.heap.size w'.heap.size w' (some ⟨w.heap.size, 0, none⟩) ts.length ts ∧ Below w.heap.size w w' := by
  obtain ⟨i0, hi, hz0, hz1, hz2⟩ := info_parts Tryz.info74
  go_enter Tryz.func12, Tryz.ntmps12
  go_wp2_with (at_make; refine wpList_make_full _ rfl _ _ 36 rfl w.heap.size 74 i0 (.agg #[.int .i64 0, .int .i64 0, .int .i64 0]) 3 Tryz.underlying36 hi hz0 hz1 .i64 .i64 _ _ ts.length rfl rfl rfl rfl (by rw [hz2]; omega) (by unfold maxLen; omega) (Nat.le_refl _) ?_; intro w1 hown hgrow)
  have hB1 : Below w.heap.size w w1 := (Below.refl _ _).grown hgrow (Nat.le_refl _) (fun k e => by cases e)
  have HO := show Hid _ from hown
  clear hown hgrow
  go_loopw [4] (fun i wr => ∃ (k : Nat) (xs : List Value), k ≤ ts.length ∧ i = .int .i64 k ∧ Hid (wr.ownsRow w.heap.size 74 3 (.slice (some ⟨w.heap.size, 0, none⟩) ts.length ts.length) ts.length xs ∧ ∀ j, j < k → xs[j * 3]? = some (.int .i64 (el ts j).1) ∧ xs[j * 3 + 1]? = some (.int .i64 (el ts j).2.1) ∧ xs[j * 3 + 2]? = some (.int .i64 (el ts j).2.2)) ∧ Below w.heap.size w wr) (fun i _ => ts.length - (intOf i).toNat)
  case atStart => exact ⟨0, _, Nat.zero_le _, rfl, ⟨HO.out, fun j hj => by omega⟩, hB1⟩
  case round =>
    obtain ⟨k, xs, hk, rfl, ho, hnx⟩ := hrel
    by_cases hlt : k < ts.length
    · obtain ⟨b, off, rfl, hb, hc⟩ := kMv_at hz hlt
      have d1 := (hnx.cell (p := ⟨b, off + k * 3, none⟩) hb).trans (hc k hlt).1
      have d2 := (hnx.cell (p := ⟨b, off + k * 3 + 1, none⟩) hb).trans (hc k hlt).2.1
      have d3 := (hnx.cell (p := ⟨b, off + k * 3 + 2, none⟩) hb).trans (hc k hlt).2.2
      clear hc hz
      obtain ⟨⟨x1, x2, x3⟩, ex⟩ : ∃ v, v = el ts k := ⟨_, rfl⟩
      rw [← ex] at d1 d2 d3
      have HX : Hid (el ts k = (x1, x2, x3)) := ex.symm
      clear ex
      dsimp only at d1 d2 d3
      go_wp2_with fail
      refine (toMove_any x1 x2 x3 _).mono ?_
      rintro e w2 ⟨rfl, hb2⟩
      have hxl : k * 3 + 2 < xs.length := by rw [ho.out.1.1]; omega
      have ho2 := ownsRow_below ho.out.1 hb2
      have hnb : Below w.heap.size w w2 := hnx.trans (hb2.mono hnx.size)
      have HO2 : Hid (w2.ownsRow w.heap.size 74 3 (.slice (some ⟨w.heap.size, 0, none⟩) ts.length ts.length) ts.length xs) := ho2
      have hst1 : w2.cell? ⟨w.heap.size, k * 3, none⟩ = some xs[k * 3] := (ho2.cellAt (k * 3) (by omega)).trans (by simp)
      have hfr1 : w2.frozen? ⟨w.heap.size, k * 3, none⟩ = false := ho2.frozenAt (k * 3)
      have hst2 : w2.cell? ⟨w.heap.size, k * 3 + 1, none⟩ = some xs[k * 3 + 1] := (ho2.cellAt (k * 3 + 1) (by omega)).trans (by simp)
      have hfr2 : w2.frozen? ⟨w.heap.size, k * 3 + 1, none⟩ = false := ho2.frozenAt (k * 3 + 1)
      have hst3 : w2.cell? ⟨w.heap.size, k * 3 + 2, none⟩ = some xs[k * 3 + 2] := (ho2.cellAt (k * 3 + 2) (by omega)).trans (by simp)
      have hfr3 : w2.frozen? ⟨w.heap.size, k * 3 + 2, none⟩ = false := ho2.frozenAt (k * 3 + 2)
      clear ho2
      go_wp2
      go_roundw
      case rel => exact ⟨k + 1, (((xs.set (k * 3) (.int .i64 x1)).set (k * 3 + 1) (.int .i64 x2)).set (k * 3 + 2) (.int .i64 x3)), by omega, by go_num, ⟨(((World.ownsRow.stored HO2.out (k * 3) _).1.stored (k * 3 + 1) _).1.stored (k * 3 + 2) _).1, fun j hj => by
          rcases Nat.lt_succ_iff_lt_or_eq.1 hj with h | rfl
          · refine ⟨?_, ?_, ?_⟩
            · rw [set_far (by omega), set_far (by omega), set_far (by omega)]; exact (ho.out.2 j h).1
            · rw [set_far (by omega), set_far (by omega), set_far (by omega)]; exact (ho.out.2 j h).2.1
            · rw [set_far (by omega), set_far (by omega), set_far (by omega)]; exact (ho.out.2 j h).2.2
          · refine ⟨?_, ?_, ?_⟩
            · rw [set_far (by omega), set_far (by omega), set_at (by first | omega | (simp only [List.length_set]; omega))]; rw [HX.out]
            · rw [set_far (by omega), set_at (by first | omega | (simp only [List.length_set]; omega))]; rw [HX.out]
            · rw [set_at (by first | omega | (simp only [List.length_set]; omega))]; rw [HX.out]⟩, (((hnb.setCell (p := ⟨w.heap.size, k * 3, none⟩) (Nat.le_refl _) _).setCell (p := ⟨w.heap.size, k * 3 + 1, none⟩) (Nat.le_refl _) _).setCell (p := ⟨w.heap.size, k * 3 + 2, none⟩) (Nat.le_refl _) _)⟩
      case measure => simp [intOf]; omega
    · obtain rfl : k = ts.length := by omega
      have hxs : xs = kMv.flat ts := by
        refine kMv.flat_of xs ts ho.out.1.1 fun j hj i hi => ?_
        have hi' : i < 3 := hi
        rcases (show i = 0 ∨ i = 1 ∨ i = 2 from by omega) with rfl | rfl | rfl
        · exact (ho.out.2 j hj).1
        · exact (ho.out.2 j hj).2.1
        · exact (ho.out.2 j hj).2.2
      subst hxs
      go_wp2
      go_ret
      exact ⟨rfl, .inr ⟨w.heap.size, rfl, (owns_lt ho.out.1).2, ho.out.1⟩, hnx⟩
set_option maxHeartbeats 1000000 in
theorem eqMove_same (x1 : Int) (x2 : Int) (x3 : Int) (w : World) :
    Calls Tryz.prog 45 #[.agg #[.int .i64 x1, .int .i64 x2, .int .i64 x3], .agg #[.int .i64 x1, .int .i64 x2, .int .i64 x3]] w fun e w' => e = .returned (.bool true) ∧ Below w.heap.size w w' := by
  have h1 : (x1 != x1) = false := by simp
  have h2 : (x2 != x2) = false := by simp
  have h3 : (x3 != x3) = false := by simp
  go_enter Tryz.func45, Tryz.ntmps45
  go_wp2
  go_ret
  exact ⟨rfl, below2 _ _ _⟩
set_option maxHeartbeats 1000000 in
theorem eqMoveS_same (ao bo : Option Addr) (cap cap' : Nat) (ts : List (Int × Int × Int)) (w : World) (hl : ts.length ≤ 1048576) (hz : kMv.In w.heap.size w ao ts) (hz' : kMv.In w.heap.size w bo ts) :
    Calls Tryz.prog 17 #[.slice ao ts.length cap, .slice bo ts.length cap'] w fun e w' => e = .returned (.bool true) ∧ Below w.heap.size w w' := by
  have hne : ((ts.length : Int) != (ts.length : Int)) = false := by simp
  go_enter Tryz.func17, Tryz.ntmps17
  go_wp2
  go_loopw [5] (fun i wr => ∃ k : Nat, k ≤ ts.length ∧ i = .int .i64 k ∧ Below w.heap.size w wr) (fun i _ => ts.length - (intOf i).toNat)
  case atStart => exact ⟨0, Nat.zero_le _, rfl, Below.refl _ _⟩
  case round =>
    obtain ⟨k, hk, rfl, hnx⟩ := hrel
    by_cases hlt : k < ts.length
    · obtain ⟨b, off, rfl, hb, hc⟩ := kMv_at hz hlt
      obtain ⟨b', off', rfl, hb', hc'⟩ := kMv_at hz' hlt
      have hck1 := (hnx.cell (p := ⟨b, off + k * 3, none⟩) hb).trans (hc k hlt).1
      have hck1' := (hnx.cell (p := ⟨b', off' + k * 3, none⟩) hb').trans (hc' k hlt).1
      have hck2 := (hnx.cell (p := ⟨b, off + k * 3 + 1, none⟩) hb).trans (hc k hlt).2.1
      have hck2' := (hnx.cell (p := ⟨b', off' + k * 3 + 1, none⟩) hb').trans (hc' k hlt).2.1
      have hck3 := (hnx.cell (p := ⟨b, off + k * 3 + 2, none⟩) hb).trans (hc k hlt).2.2
      have hck3' := (hnx.cell (p := ⟨b', off' + k * 3 + 2, none⟩) hb').trans (hc' k hlt).2.2
      clear hc hz hc' hz'
      obtain ⟨⟨x1, x2, x3⟩, ex⟩ : ∃ v, v = el ts k := ⟨_, rfl⟩
      rw [← ex] at hck1 hck1' hck2 hck2' hck3 hck3'
      clear ex
      dsimp only at hck1 hck1' hck2 hck2' hck3 hck3'
      go_wp2
      go_region_with (go_at_call 45; refine (eqMove_same x1 x2 x3 _).mono ?_; rintro e w1 ⟨rfl, hb1⟩)
      all_goals go_wp2
      all_goals
        have hb2 : Below wr.drew.heap.size wr.drew w1 := by assumption
        have hnb : Below w.heap.size w w1 := hnx.drew.trans (hb2.mono hnx.size)
        go_roundw
        case rel => exact ⟨k + 1, by omega, by go_num, hnb⟩
        case measure => simp [intOf]; omega
    · obtain rfl : k = ts.length := by omega
      go_wp2
      go_ret
      exact ⟨rfl, hnx⟩
end
section
open Go.RowKit

theorem len_val {ts us : List LNode} (hv : us.map valNode = ts.map valNode) : us.length = ts.length := by have := congrArg List.length hv; simpa using this
/-- Graphs that were copied have room for what they hold. -/
theorem roomy_of {lo hi : Nat} {W : World} {o : Option Addr} {c : Nat} {us ts : List LNode} (hD : DFr dNode lo hi W o c us) (hv : us.map valNode = ts.map valNode) (hl : ts.length ≤ 1048576) (ht : totNode ts ≤ 1048576) (hc : ts.length ≤ c) : Roomy us c := by
  have hlen := len_val hv
  refine ⟨by omega, fun a ha => ?_, fun a ha => ?_, by omega⟩
  · obtain ⟨j, hj, rfl⟩ := mem_el ha
    have h : kI.Fresh lo hi W _ _ _ := hD.2.1 j hj
    exact h.cap
  · obtain ⟨j, hj, rfl⟩ := mem_el ha
    have h1 := totNode_el (ts := ts) (k := j) (by omega)
    have h2 : valNode (el us j) = valNode (el ts j) := by rw [← el_val hj, hv, el_val (by omega)]
    have e1 : (el us j).1 = (el ts j).1 := congrArg (fun p : PNode => p.1) h2
    have e2 : (el us j).2.2.2.2.2.2.2 = (el ts j).2.2.2.2.2.2.2 := congrArg (fun p : PNode => p.2.2.2.2.2) h2
    unfold sizeNode at h1
    rw [e1, e2]
    omega
theorem fits_of {ts : List LNode} (ht : totNode ts ≤ 1048576) : ∀ a ∈ ts, (a.2.2.2.2.2).2.2.length ≤ 1048576 := fun a ha => by
  obtain ⟨j, hj, rfl⟩ := mem_el ha
  have h1 := totNode_el hj
  unfold sizeNode at h1
  omega
theorem toNodeS_ts (ao : Option Addr) (cap : Nat) (ts : List LNode) (w : World) (hl : ts.length ≤ 1048576) (ht : totNode ts ≤ 1048576) (hz : DIn dNode w.heap.size w ao ts) :
    Calls Tryz.prog 11 #[.slice ao ts.length cap] w fun e w' => ∃ g us, e = .returned (.slice (some ⟨g, 0, none⟩) ts.length ts.length) ∧ us.length = ts.length ∧ us.map valNode = ts.map valNode ∧ DFr dNode w.heap.size w'.heap.size w' (some ⟨g, 0, none⟩) ts.length us ∧ Roomy us ts.length ∧ Below w.heap.size w w' := by
  refine (toNodeS_any ao cap ts w hl (fits_of ht) hz).mono ?_
  rintro e w' ⟨rfl, ⟨us, hv, hD⟩, hb⟩
  exact ⟨_, us, rfl, len_val hv, hv, hD, roomy_of hD hv hl ht (Nat.le_refl _), hb⟩
theorem eqNodeS_ts (g g2 : Nat) (us us2 ts : List LNode) (w : World) (hl : ts.length ≤ 1048576) (hv : us.map valNode = ts.map valNode) (hv2 : us2.map valNode = ts.map valNode) (hC : Roomy us ts.length) (hz : DIn dNode w.heap.size w (some ⟨g, 0, none⟩) us) (hz2 : DIn dNode w.heap.size w (some ⟨g2, 0, none⟩) us2) :
    Calls Tryz.prog 16 #[.slice (some ⟨g, 0, none⟩) ts.length ts.length, .slice (some ⟨g2, 0, none⟩) ts.length ts.length] w fun e w' => e = .returned (.bool true) ∧ Below w.heap.size w w' := by
  have h := eqNodeS_same (some ⟨g, 0, none⟩) (some ⟨g2, 0, none⟩) ts.length ts.length us us2 w (by rw [len_val hv]; exact hl) (fun a ha => (hC.fit a ha).2) (hv.trans hv2.symm) hz hz2
  rw [len_val hv, len_val hv2] at h; exact h
end
section
open Go.ChangeShapes Go.WideShapes Go.ChangeAt Go.RowKit Go.Joins Go.Deep

theorem Tryz.own : ownKnob Tryz.prog.godebug = none := by kernel_rfl
theorem Tryz.laidOut : laidOutB Tryz.prog = true := by kernel_rfl
theorem Tryz.cells3 : Tryz.prog.cellsOf 3 = 1 := by kernel_rfl
end
section
open Go.ChangeShapes Go.WideShapes Go.ChangeAt Go.RowKit Go.Joins Go.Deep

theorem addr_none {W : World} {b off : Nat} {spot : Option _} {v : Value} (h : W.cell? ((⟨b, off, spot⟩ : Addr).add 0) = some v) : spot = none := by
  simpa [Addr.add] using World.cell?_spot h
theorem add_none (b off i : Nat) : (⟨b, off, none⟩ : Addr).add i = ⟨b, off + i, none⟩ := by
  by_cases h : i = 0 <;> simp [Addr.add, h]
theorem read_kI {H : Type} {enc : TypeId × Value → H} {W : World} {spare : Nat → Bool} {held : Bool} {fuel : Nat} {c : Value} {x : DataW H × List MemPlace}
    (h : DataW.trod enc Tryz.prog W 0 spare held fuel 29 [c] = some x) : ∃ ao cap zs, c = .slice ao (zs : List Int).length cap ∧ zs.length ≤ 9223372036854775807 ∧ kI.In W.heap.size W ao zs := by
  rcases open_slice1 Tryz.underlying29 Tryz.cells3 h with ⟨hcs, _⟩ | ⟨a, len, cap, m, n, V, D, Pl, hcs, hb, hl, hm, hmm, hx, hel⟩
  · simp at hcs; subst hcs; exact ⟨none, 0, [], rfl, by simp, .inl rfl⟩
  · simp at hcs; subst hcs
    have hlm : len ≤ m := by rw [hmm]; split <;> omega
    refine ⟨some a, cap, (List.range len).map (fun i => intOf (V i)), by simp, by simp; unfold maxLen at hm; omega, ?_⟩
    by_cases h0 : len = 0
    · subst h0; exact .inl (by simp)
    · obtain ⟨b, off, spot⟩ := a
      have hs : spot = none := addr_none (hel 0 (by omega)).1
      subst hs
      refine ints_mk ?_ fun j hj => ?_
      · have := World.block_lt_of_cell? _ _ (hel 0 (by omega)).1
        simpa [Addr.add] using this
      · simp at hj
        obtain ⟨h1, h2⟩ := hel j (by omega)
        obtain ⟨z, e, _, _⟩ := DataW.trod_int Tryz.underlying3 h2
        simp at e
        rw [e, add_none] at h1
        simpa [hj, e, intOf, el] using h1
set_option maxRecDepth 100000 in
theorem read_kI0 {H : Type} {enc : TypeId × Value → H} {W : World} {spare : Nat → Bool} {held : Bool} {rr : Reach} {b0 : Nat} {v : Value} {d : DataW H} {p : List MemPlace}
    (hv : Value.okWide Tryz.prog W rr b0 29 v) (h : DataW.Trod enc Tryz.prog W 0 spare held 29 v d p) :
    ∃ (ao : Option Addr) (cap : Nat) (zs : List Int), v = .slice ao zs.length cap ∧ zs.length ≤ 9223372036854775807 ∧ kI.In W.heap.size W ao zs := by
  obtain ⟨fuel, hf⟩ := h
  have hc : v.cells.toList = [v] := by
    obtain ⟨x, y, z, rfl⟩ : ∃ x y z, v = .slice x y z := okWide_slice Tryz.underlying29 hv
    rfl
  rw [hc] at hf
  exact read_kI hf
end
section
open Go.ChangeShapes Go.WideShapes Go.ChangeAt Go.RowKit Go.Joins Go.Deep

theorem Tryz.cells63 : Tryz.prog.cellsOf 63 = 6 := by kernel_rfl
theorem Tryz.cells61 : Tryz.prog.cellsOf 61 = 3 := by kernel_rfl
theorem Tryz.cells9 : Tryz.prog.cellsOf 9 = 1 := by kernel_rfl
theorem Tryz.cells29 : Tryz.prog.cellsOf 29 = 1 := by kernel_rfl
set_option maxRecDepth 100000 in
set_option maxHeartbeats 1000000 in
theorem read_kN {H : Type} {enc : TypeId × Value → H} {W : World} {spare : Nat → Bool} {held : Bool} {fuel : Nat} {c : Value} {x : DataW H × List MemPlace}
    (h : DataW.trod enc Tryz.prog W 0 spare held fuel 22 [c] = some x) : ∃ ao cap ts, c = .slice ao (ts : List LNode).length cap ∧ ts.length ≤ 9223372036854775807 ∧ (∀ a ∈ ts, a.1.size ≤ 9223372036854775807 ∧ (a.2.2.2.2.2).2.2.length ≤ 9223372036854775807) ∧ DIn dNode W.heap.size W ao ts := by
  rcases open_slice Tryz.underlying22 h with ⟨hcs, _⟩ | ⟨a, len, cap, m, n, D, Pl, hcs, hb, hl, hm, hmm, hx0, hx⟩
  · simp at hcs; subst hcs; exact ⟨none, 0, [], rfl, by simp, by simp, DIn.nil _ _ _⟩
  · simp at hcs; subst hcs
    have hlm : len ≤ m := by rw [hmm]; split <;> omega
    have each : ∀ i, i < m → ∃ q : LNode, (W.cell? (a.add (i * 6)) = some (.string q.1) ∧ W.cell? (a.add (i * 6 + 1)) = some (.int .i64 q.2.1) ∧ W.cell? (a.add (i * 6 + 2)) = some (.int .i64 q.2.2.1) ∧ W.cell? (a.add (i * 6 + 3)) = some (.int .i64 q.2.2.2.1) ∧ W.cell? (a.add (i * 6 + 4)) = some (.int .i64 q.2.2.2.2.1) ∧ W.cell? (a.add (i * 6 + 5)) = some (.slice q.2.2.2.2.2.1 q.2.2.2.2.2.2.2.length q.2.2.2.2.2.2.1)) ∧ (q.1.size ≤ 9223372036854775807 ∧ (q.2.2.2.2.2).2.2.length ≤ 9223372036854775807) ∧ InNode W.heap.size W q.2.2.2.2.2.1 q.2.2.2.2.2.2.2 := by
      intro i hi
      obtain ⟨cs', h1, h2⟩ := hx i hi
      rw [Tryz.cells63] at h1
      obtain ⟨_, hlen, hcell⟩ := World.cells?_some h1
      obtain ⟨xs, k, hk, hxy, _, hxl, hf⟩ := DataW.trod_struct Tryz.underlying63 h2
      match xs, hxl, cs', hlen with
      | [y0, y1, y2, y3], _, [v0, v1, v2, v3, v4, v5], _ =>
        have g0 := hf 0 _ rfl
        have g1 := hf 1 _ rfl
        have g2 := hf 2 _ rfl
        have g3 := hf 3 _ rfl
        simp [Tryz.cells3, Tryz.cells9, Tryz.cells29, Tryz.cells61] at g0 g1 g2 g3
        have e0 := hcell 0 (by omega)
        have e1 := hcell 1 (by omega)
        have e2 := hcell 2 (by omega)
        have e3 := hcell 3 (by omega)
        have e4 := hcell 4 (by omega)
        have e5 := hcell 5 (by omega)
        rw [add_add] at e0 e1 e2 e3 e4 e5
        obtain ⟨s0, p0, _, hs0⟩ := DataW.trod_string Tryz.underlying9 g0
        obtain ⟨ys, k2, _, _, _, hyl, hf2⟩ := DataW.trod_struct Tryz.underlying61 g1
        match ys, hyl with
        | [w0, w1, w2], _ =>
          have q0 := hf2 0 _ rfl
          have q1 := hf2 1 _ rfl
          have q2 := hf2 2 _ rfl
          simp [Tryz.cells3] at q0 q1 q2
          obtain ⟨z0, r0, _, _⟩ := DataW.trod_int Tryz.underlying3 q0
          obtain ⟨z1, r1, _, _⟩ := DataW.trod_int Tryz.underlying3 q1
          obtain ⟨z2, r2, _, _⟩ := DataW.trod_int Tryz.underlying3 q2
          obtain ⟨z3, r3, _, _⟩ := DataW.trod_int Tryz.underlying3 g2
          obtain ⟨fo, fc, f, p6, hlf, hF⟩ := read_kI g3
          simp at p0 r0 r1 r2 r3
          subst p0 r0 r1 r2 r3 p6
          exact ⟨(s0, z0, z1, z2, z3, (fo, fc, f)), ⟨by simpa using e0, by simpa using e1, by simpa using e2, by simpa using e3, by simpa using e4, by simpa using e5⟩, ⟨by unfold maxLen at hs0; omega, hlf⟩, hF⟩
    obtain ⟨q, hq⟩ := choose_lt each
    have hat : ∀ j, j < len → el ((List.range len).map q) j = q j := fun j hj => by simp [el, hj]
    refine ⟨some a, cap, (List.range len).map q, by simp, by simp; unfold maxLen at hm; omega, ?_, ?_, ?_⟩
    · intro l hl'
      obtain ⟨i, hi, rfl⟩ := List.mem_map.1 hl'
      exact (hq i (by have := List.mem_range.1 hi; omega)).2.1
    · by_cases h0 : len = 0
      · subst h0; exact .inl (by simp)
      · obtain ⟨b, off, spot⟩ := a
        have hs : spot = none := addr_none (by simpa using (hq 0 (by omega)).1.1)
        subst hs
        refine .inr ⟨b, off, rfl, ?_, fun j hj i hi => ?_⟩
        · have := World.block_lt_of_cell? _ _ (hq 0 (by omega)).1.1
          simpa [Addr.add] using this
        simp only [List.length_map, List.length_range] at hj
        rw [hat j hj]
        obtain ⟨h0, h1, h2, h3, h4, h5⟩ := (hq j (by omega)).1
        rw [add_none] at h0 h1 h2 h3 h4 h5
        have hi' : i < 6 := hi
        rcases (show i = 0 ∨ i = 1 ∨ i = 2 ∨ i = 3 ∨ i = 4 ∨ i = 5 from by omega) with rfl | rfl | rfl | rfl | rfl | rfl
        · have e : (⟨b, off + j * hNode.sz + 0, none⟩ : Addr) = ⟨b, off + (j * 6), none⟩ := by show (⟨b, off + j * 6 + 0, none⟩ : Addr) = _; simp <;> omega
          show W.cell? ⟨b, off + j * hNode.sz + 0, none⟩ = _
          rw [e]; exact h0
        · have e : (⟨b, off + j * hNode.sz + 1, none⟩ : Addr) = ⟨b, off + (j * 6 + 1), none⟩ := by show (⟨b, off + j * 6 + 1, none⟩ : Addr) = _; simp <;> omega
          show W.cell? ⟨b, off + j * hNode.sz + 1, none⟩ = _
          rw [e]; exact h1
        · have e : (⟨b, off + j * hNode.sz + 2, none⟩ : Addr) = ⟨b, off + (j * 6 + 2), none⟩ := by show (⟨b, off + j * 6 + 2, none⟩ : Addr) = _; simp <;> omega
          show W.cell? ⟨b, off + j * hNode.sz + 2, none⟩ = _
          rw [e]; exact h2
        · have e : (⟨b, off + j * hNode.sz + 3, none⟩ : Addr) = ⟨b, off + (j * 6 + 3), none⟩ := by show (⟨b, off + j * 6 + 3, none⟩ : Addr) = _; simp <;> omega
          show W.cell? ⟨b, off + j * hNode.sz + 3, none⟩ = _
          rw [e]; exact h3
        · have e : (⟨b, off + j * hNode.sz + 4, none⟩ : Addr) = ⟨b, off + (j * 6 + 4), none⟩ := by show (⟨b, off + j * 6 + 4, none⟩ : Addr) = _; simp <;> omega
          show W.cell? ⟨b, off + j * hNode.sz + 4, none⟩ = _
          rw [e]; exact h4
        · have e : (⟨b, off + j * hNode.sz + 5, none⟩ : Addr) = ⟨b, off + (j * 6 + 5), none⟩ := by show (⟨b, off + j * 6 + 5, none⟩ : Addr) = _; simp <;> omega
          show W.cell? ⟨b, off + j * hNode.sz + 5, none⟩ = _
          rw [e]; exact h5
    · intro j hj
      simp only [List.length_map, List.length_range] at hj
      rw [hat j hj]
      exact (hq j (by omega)).2.2
set_option maxRecDepth 100000 in
theorem read_kN0 {H : Type} {enc : TypeId × Value → H} {W : World} {spare : Nat → Bool} {held : Bool} {rr : Reach} {b0 : Nat} {v : Value} {d : DataW H} {p : List MemPlace}
    (hv : Value.okWide Tryz.prog W rr b0 22 v) (h : DataW.Trod enc Tryz.prog W 0 spare held 22 v d p) :
    ∃ (ao : Option Addr) (cap : Nat) (ts : List LNode), v = .slice ao ts.length cap ∧ ts.length ≤ 9223372036854775807 ∧ (∀ a ∈ ts, a.1.size ≤ 9223372036854775807 ∧ (a.2.2.2.2.2).2.2.length ≤ 9223372036854775807) ∧ DIn dNode W.heap.size W ao ts := by
  obtain ⟨fuel, hf⟩ := h
  have hc : v.cells.toList = [v] := by
    obtain ⟨x, y, z, rfl⟩ : ∃ x y z, v = .slice x y z := okWide_slice Tryz.underlying22 hv
    rfl
  rw [hc] at hf
  exact read_kN hf
end
section
open Go.ChangeShapes Go.WideShapes Go.ChangeAt Go.RowKit Go.Joins Go.Deep

theorem Tryz.cells76 : Tryz.prog.cellsOf 76 = 3 := by kernel_rfl
set_option maxRecDepth 100000 in
theorem read_kMv {H : Type} {enc : TypeId × Value → H} {W : World} {spare : Nat → Bool} {held : Bool} {fuel : Nat} {c : Value} {x : DataW H × List MemPlace}
    (h : DataW.trod enc Tryz.prog W 0 spare held fuel 23 [c] = some x) : ∃ ao cap ts, c = .slice ao (ts : List (Int × Int × Int)).length cap ∧ ts.length ≤ 9223372036854775807 ∧ (∀ k, k < ts.length → (el ts k).1 ≤ 9223372036854775807) ∧ kMv.In W.heap.size W ao ts := by
  rcases open_slice Tryz.underlying23 h with ⟨hcs, _⟩ | ⟨a, len, cap, m, n, D, Pl, hcs, hb, hl, hm, hmm, hx0, hx⟩
  · simp at hcs; subst hcs; exact ⟨none, 0, [], rfl, by simp, (fun k hk => absurd hk (Nat.not_lt_zero _)), .inl rfl⟩
  · simp at hcs; subst hcs
    have hlm : len ≤ m := by rw [hmm]; split <;> omega
    have each : ∀ i, i < m → ∃ q : Int × Int × Int, W.cell? (a.add (i * 3)) = some (.int .i64 q.1) ∧ W.cell? (a.add (i * 3 + 1)) = some (.int .i64 q.2.1) ∧ W.cell? (a.add (i * 3 + 2)) = some (.int .i64 q.2.2) ∧ q.1 ≤ 9223372036854775807 := by
      intro i hi
      obtain ⟨cs', h1, h2⟩ := hx i hi
      rw [Tryz.cells76] at h1
      obtain ⟨_, hlen, hcell⟩ := World.cells?_some h1
      obtain ⟨xs, k, hk, hxy, _, hxl, hf⟩ := DataW.trod_struct Tryz.underlying76 h2
      match xs, hxl, cs', hlen with
      | [y0, y1, y2], _, [v0, v1, v2], _ =>
        have g0 := hf 0 _ rfl
        have g1 := hf 1 _ rfl
        have g2 := hf 2 _ rfl
        simp [Tryz.cells3] at g0 g1 g2
        have e0 := hcell 0 (by omega)
        have e1 := hcell 1 (by omega)
        have e2 := hcell 2 (by omega)
        rw [add_add] at e0 e1 e2
        obtain ⟨z0, p0, _, wz0⟩ := DataW.trod_int Tryz.underlying3 g0
        obtain ⟨z1, p1, _, _⟩ := DataW.trod_int Tryz.underlying3 g1
        obtain ⟨z2, p2, _, _⟩ := DataW.trod_int Tryz.underlying3 g2
        simp at p0 p1 p2
        subst p0 p1 p2
        exact ⟨(z0, z1, z2), by simpa using e0, by simpa using e1, by simpa using e2, (bounds_i64 wz0).2⟩
    obtain ⟨q, hq⟩ := choose_lt each
    have hat : ∀ j, j < len → el ((List.range len).map q) j = q j := fun j hj => by simp [el, hj]
    refine ⟨some a, cap, (List.range len).map q, by simp, by simp; unfold maxLen at hm; omega, (fun j hj => by simp at hj; rw [hat j hj]; exact (hq j (by omega)).2.2.2), ?_⟩
    by_cases h0 : len = 0
    · subst h0; exact .inl (by simp)
    · obtain ⟨b, off, spot⟩ := a
      have hs : spot = none := addr_none (by simpa using (hq 0 (by omega)).1)
      subst hs
      refine .inr ⟨b, off, rfl, ?_, fun j hj i hi => ?_⟩
      · have := World.block_lt_of_cell? _ _ (hq 0 (by omega)).1
        simpa [Addr.add] using this
      · simp at hj
        rw [hat j hj]
        obtain ⟨h0, h1, h2, _⟩ := hq j (by omega)
        rw [add_none] at h0 h1 h2
        have hi' : i < 3 := hi
        rcases (show i = 0 ∨ i = 1 ∨ i = 2 from by omega) with rfl | rfl | rfl
        · have e : (⟨b, off + j * kMv.sz + 0, none⟩ : Addr) = ⟨b, off + (j * 3), none⟩ := by show (⟨b, off + j * 3 + 0, none⟩ : Addr) = _; simp <;> omega
          rw [e]; exact h0
        · have e : (⟨b, off + j * kMv.sz + 1, none⟩ : Addr) = ⟨b, off + (j * 3 + 1), none⟩ := by show (⟨b, off + j * 3 + 1, none⟩ : Addr) = _; simp <;> omega
          rw [e]; exact h1
        · have e : (⟨b, off + j * kMv.sz + 2, none⟩ : Addr) = ⟨b, off + (j * 3 + 2), none⟩ := by show (⟨b, off + j * 3 + 2, none⟩ : Addr) = _; simp <;> omega
          rw [e]; exact h2
set_option maxRecDepth 100000 in
theorem read_kMv0 {H : Type} {enc : TypeId × Value → H} {W : World} {spare : Nat → Bool} {held : Bool} {rr : Reach} {b0 : Nat} {v : Value} {d : DataW H} {p : List MemPlace}
    (hv : Value.okWide Tryz.prog W rr b0 23 v) (h : DataW.Trod enc Tryz.prog W 0 spare held 23 v d p) :
    ∃ (ao : Option Addr) (cap : Nat) (ts : List (Int × Int × Int)), v = .slice ao ts.length cap ∧ ts.length ≤ 9223372036854775807 ∧ (∀ k, k < ts.length → (el ts k).1 ≤ 9223372036854775807) ∧ kMv.In W.heap.size W ao ts := by
  obtain ⟨fuel, hf⟩ := h
  have hc : v.cells.toList = [v] := by
    obtain ⟨x, y, z, rfl⟩ : ∃ x y z, v = .slice x y z := okWide_slice Tryz.underlying23 hv
    rfl
  rw [hc] at hf
  exact read_kMv hf
end
end Go.Proofs.YtoeonbdoopboiaaGreatDoor
