
/- ReceiveFrom: the program. No conditions but those written. -/
import Derived.Test.YtdfmmidokfcjfaaOQb
namespace Go.Proofs.Ytdfmmidokfcjfaa.Old
open Go.RowKit

theorem rcB_is (t1 t2 tv : Int) : rcB (t1, t2, tv) = (wtB (t1, t2, tv) && decide (tv = 0)) := rfl
theorem recvI_buf (kap : Int) (cl : Bool) (b : List Int) (s r : List T3) (t : T3) (h : ¬ b.length = 0) : recvI kap cl b s r t = (kap, cl, (recvI kap cl b s r t).2.2.1, (recvI kap cl b s r t).2.2.2.1, r, (recvI kap cl b s r t).2.2.2.2.2.1, 0) := by
  unfold recvI
  rw [if_pos h]
  split <;> rfl

set_option maxRecDepth 10000 in
set_option maxHeartbeats 16000000 in
theorem implRecv_any (kap : Int) (cl : Bool) (bo : Option Addr) (bc : Nat) (b : List Int) (so : Option Addr) (sc : Nat) (s : List T3) (ro : Option Addr) (rc : Nat) (r : List T3) (t1 t2 tv : Int) (w : World) (hl : b.length ≤ 1048576) (hls : s.length ≤ 1048576) (hlr : r.length ≤ 1048576) (hz : ChanIn w.heap.size w bo b so s ro r) :
    Calls Try.prog 7 #[.agg #[.int .i64 kap, .bool cl, .slice bo b.length bc, .slice so s.length sc, .slice ro r.length rc], .agg #[.int .i64 t1, .int .i64 t2, .int .i64 tv]] w fun e w' => AnsT w (recvR kap cl b s r (t1, t2, tv)) e w' := by
  generalize hR : recvR kap cl b s r (t1, t2, tv) = R
  have HR : Hid (recvR kap cl b s r (t1, t2, tv) = R) := hR
  clear hR
  obtain ⟨W2, hW2⟩ : ∃ W2, W2 = ((w.alloc (.cells #[.int .i64 kap, .bool cl, .slice bo b.length bc, .slice so s.length sc, .slice ro r.length rc] 26)).alloc (.cells #[.int .i64 t1, .int .i64 t2, .int .i64 tv] 28)).alloc (.cells #[.int .i64 0, .bool false, .slice none 0 0, .slice none 0 0, .slice none 0 0] 26) := ⟨_, rfl⟩
  have hB2 : Below w.heap.size w W2 := by rw [hW2]; exact below3 _ _ _ _
  have A2 : BoxF5 W2 w.heap.size (.int .i64 kap) (.bool cl) (.slice bo b.length bc) (.slice so s.length sc) (.slice ro r.length rc) := by rw [hW2]; exact (BoxF5.new w _ _ _ _ _ _).later (below2 _ _ _)
  have R2 : BoxF5 W2 (w.heap.size + 1 + 1) (.int .i64 0) (.bool false) (.slice none 0 0) (.slice none 0 0) (.slice none 0 0) := by
    have h := BoxF5.new ((w.alloc (.cells #[.int .i64 kap, .bool cl, .slice bo b.length bc, .slice so s.length sc, .slice ro r.length rc] 26)).alloc (.cells #[.int .i64 t1, .int .i64 t2, .int .i64 tv] 28)) (.int .i64 0) (.bool false) (.slice none 0 0) (.slice none 0 0) (.slice none 0 0) 26
    rw [hW2]; simpa using h
  have T2 : Box3 W2 (w.heap.size + 1) (.int .i64 t1) (.int .i64 t2) (.int .i64 tv) := by
    have h := (Box3.new (w.alloc (.cells #[.int .i64 kap, .bool cl, .slice bo b.length bc, .slice so s.length sc, .slice ro r.length rc] 26)) (.int .i64 t1) (.int .i64 t2) (.int .i64 tv) 28).later (below1 _ (.cells #[.int .i64 0, .bool false, .slice none 0 0, .slice none 0 0, .slice none 0 0] 26))
    rw [hW2]; simpa using h
  have HW : Hid (W2 = ((w.alloc (.cells #[.int .i64 kap, .bool cl, .slice bo b.length bc, .slice so s.length sc, .slice ro r.length rc] 26)).alloc (.cells #[.int .i64 t1, .int .i64 t2, .int .i64 tv] 28)).alloc (.cells #[.int .i64 0, .bool false, .slice none 0 0, .slice none 0 0, .slice none 0 0] 26)) := hW2
  have HS : Hid (W2.heap.size = w.heap.size + 1 + 1 + 1) := by rw [hW2]; simp [Hid]
  clear hW2
  obtain ⟨⟨_, a0, a1, a2, a3, a4⟩, af0, af1, af2, af3, af4⟩ := id A2
  cases hg : goodC kap cl b s r
  · have HR2 : Hid (R = (0, false, [], [], [], [], 2)) := by rw [Hid, ← HR.out]; exact recvR_bad (by rw [hg]; rfl)
    have HG : Hid (goodC kap cl b s r = false) := hg
    clear hg HR
    go_enter Try.func7, Try.ntmps7
    go_wp2_with fail
    rw [← HW.out]
    refine (implGood_is kap cl bo bc b so sc s ro rc r W2 false (by omega) (by omega) (by omega) (hz.2.1.later hB2) (hz.2.2.later hB2) HG.out).mono ?_
    rintro e w3 ⟨rfl, hb3⟩
    have hB3 := hB2.trans (hb3.mono hB2.size)
    obtain ⟨⟨_, r0, r1, r2, r3, r4⟩, rf0, rf1, rf2, rf3, rf4⟩ := id (R2.later hb3)
    clear hb3 A2 R2 T2 a0 a1 a2 a3 a4 af0 af1 af2 af3 af4 HW
    go_wp2
    refine bodyPost_ret (v := .tuple #[.agg #[.int .i64 0, .bool false, .slice none 0 0, .slice none 0 0, .slice none 0 0], .slice none 0 0, .int .i64 2]) (by simp [results, Try.results7, go_sem, r0, r1, r2, r3, r4]) rfl ?_
    rw [HR2.out]
    exact ansT_q (b := []) (s := []) (r := []) (k := []) hB3 (by omega) (freshCh_nil _ _ _) (freshK_nil _ _ _) _ _ _ _ _
  have HG : Hid (goodC kap cl b s r = true) := hg
  clear hg
  cases ht : rcB (t1, t2, tv)
  · have HR2 : Hid (R = (0, false, [], [], [], [], 2)) := by rw [Hid, ← HR.out]; exact recvR_bad (by rw [HG.out, ← rcB_is, ht]; rfl)
    have HT : Hid (rcB (t1, t2, tv) = false) := ht
    clear ht HR
    go_enter Try.func7, Try.ntmps7
    go_wp2_with fail
    rw [← HW.out]
    refine (implGood_is kap cl bo bc b so sc s ro rc r W2 true (by omega) (by omega) (by omega) (hz.2.1.later hB2) (hz.2.2.later hB2) HG.out).mono ?_
    rintro e w3 ⟨rfl, hb3⟩
    have hB3 := hB2.trans (hb3.mono hB2.size)
    have R3 := R2.later hb3
    have T3x := T2.later hb3
    obtain ⟨_, t0, t1', t2'⟩ := id T3x
    clear hb3 A2 R2 T2 a0 a1 a2 a3 a4 af0 af1 af2 af3 af4 HW
    go_wp2_with fail
    refine (goodReceiver_is t1 t2 tv _ false HT.out).mono ?_
    rintro e w4 ⟨rfl, hb4⟩
    have hB4 := hB3.trans (hb4.mono hB3.size)
    obtain ⟨⟨_, r0, r1, r2, r3, r4⟩, rf0, rf1, rf2, rf3, rf4⟩ := id (R3.later hb4)
    clear hb4 R3 t0 t1' t2'
    go_wp2
    refine bodyPost_ret (v := .tuple #[.agg #[.int .i64 0, .bool false, .slice none 0 0, .slice none 0 0, .slice none 0 0], .slice none 0 0, .int .i64 2]) (by simp [results, Try.results7, go_sem, r0, r1, r2, r3, r4]) rfl ?_
    rw [HR2.out]
    exact ansT_q (b := []) (s := []) (r := []) (k := []) hB4 (by omega) (freshCh_nil _ _ _) (freshK_nil _ _ _) _ _ _ _ _
  have HT : Hid (rcB (t1, t2, tv) = true) := ht
  obtain ⟨hk0, hk10, hbk, hs40, hr40⟩ := goodC_len HG.out
  have HRG : Hid ((goodC kap cl b s r && (wtB (t1, t2, tv) && decide (tv = 0))) = true) := by rw [Hid, HG.out, ← rcB_is, ht]; rfl
  clear ht
  go_enter Try.func7, Try.ntmps7
  go_wp2_with fail
  rw [← HW.out]
  refine (implGood_is kap cl bo bc b so sc s ro rc r W2 true (by omega) (by omega) (by omega) (hz.2.1.later hB2) (hz.2.2.later hB2) HG.out).mono ?_
  rintro e w3 ⟨rfl, hb3⟩
  have hB3 := hB2.trans (hb3.mono hB2.size)
  have A3 := A2.later hb3
  have R3 := R2.later hb3
  have T3x := T2.later hb3
  have HQ3 : Hid (w.heap.size + 1 + 1 + 1 ≤ w3.heap.size) := by have := hb3.size; rw [HS.out] at this; exact this
  obtain ⟨_, t0, t1', t2'⟩ := id T3x
  clear hb3 A2 R2 T2 a0 a1 a2 a3 a4 af0 af1 af2 af3 af4 HW HS
  go_wp2_with fail
  refine (goodReceiver_is t1 t2 tv _ true HT.out).mono ?_
  rintro e w4 ⟨rfl, hb4⟩
  have hB4 := hB3.trans (hb4.mono hB3.size)
  have A4 := A3.later hb4
  have R4 := R3.later hb4
  have T4 := T3x.later hb4
  have HQ4 : Hid (w.heap.size + 1 + 1 + 1 ≤ w4.heap.size) := Nat.le_trans HQ3.out hb4.size
  clear hb4 A3 R3 T3x t0 t1' t2' HQ3
  obtain ⟨⟨_, a0, a1, a2, a3, a4⟩, af0, af1, af2, af3, af4⟩ := id A4
  go_wp2_with fail
  refine (copyChan_any kap cl bo bc b so sc s ro rc r w4 hl hls hlr (hz.later hB4)).mono ?_
  rintro e w5 ⟨⟨bo5, bc5, so5, sc5, ro5, rc5, rfl, hF5⟩, hb5⟩
  have hB5 := hB4.trans (hb5.mono hB4.size)
  have A5 := A4.later hb5
  have R5 := R4.later hb5
  have T5 := T4.later hb5
  have HQ5 : Hid (w.heap.size + 1 + 1 + 1 ≤ w5.heap.size) := Nat.le_trans HQ4.out hb5.size
  have F5 : Hid (FreshCh w4.heap.size w5.heap.size w5 bo5 bc5 b so5 sc5 s ro5 rc5 r) := hF5
  clear hb5 hF5 A4 R4 T4 a0 a1 a2 a3 a4 af0 af1 af2 af3 af4
  obtain ⟨W6, hW6⟩ : ∃ W6, W6 = w5.alloc (.cells #[.int .i64 kap, .bool cl, .slice bo5 b.length bc5, .slice so5 s.length sc5, .slice ro5 r.length rc5] 26) := ⟨_, rfl⟩
  have hb6 : Below w5.heap.size w5 W6 := by rw [hW6]; exact below1 _ _
  have hB6 := hB5.trans (hb6.mono hB5.size)
  have A6 := A5.later hb6
  have R6 := R5.later hb6
  have T6 := T5.later hb6
  have X6 : BoxF5 W6 w5.heap.size (.int .i64 kap) (.bool cl) (.slice bo5 b.length bc5) (.slice so5 s.length sc5) (.slice ro5 r.length rc5) := by rw [hW6]; exact BoxF5.new _ _ _ _ _ _ _
  have F6 : Hid (FreshCh w4.heap.size w5.heap.size W6 bo5 bc5 b so5 sc5 s ro5 rc5 r) := F5.out.later hb6
  have HS6 : Hid (W6.heap.size = w5.heap.size + 1) := by rw [hW6]; simp [Hid]
  have HW6 : Hid (W6 = w5.alloc (.cells #[.int .i64 kap, .bool cl, .slice bo5 b.length bc5, .slice so5 s.length sc5, .slice ro5 r.length rc5] 26)) := hW6
  have hnr : w5.heap.size ≠ w.heap.size + 1 + 1 := by have := R5.1.1; omega
  have hnt : w5.heap.size ≠ w.heap.size + 1 := by have := T5.1; omega
  clear hW6 hb6
  obtain ⟨⟨_, a0, a1, a2, a3, a4⟩, af0, af1, af2, af3, af4⟩ := id A5
  obtain ⟨_, t0, t1', t2'⟩ := id T5
  by_cases hb : b.length = 0
  rotate_left
  · -- out of the buffer
    have pb : decide ((0 : Int) < (b.length : Int)) = true := by simp; omega
    have hb0 : 0 < b.length := by omega
    have hb10 : b.length ≤ 10 := by omega
    obtain ⟨Rb, hRb⟩ : ∃ Rb, Rb = (recvI kap cl b s r (t1, t2, tv)).2.2.1 := ⟨_, rfl⟩
    obtain ⟨Rs, hRs⟩ : ∃ Rs, Rs = (recvI kap cl b s r (t1, t2, tv)).2.2.2.1 := ⟨_, rfl⟩
    obtain ⟨Rk, hRk⟩ : ∃ Rk, Rk = (recvI kap cl b s r (t1, t2, tv)).2.2.2.2.2.1 := ⟨_, rfl⟩
    have HR2 : Hid (R = (kap, cl, Rb, Rs, r, Rk, 0)) := by rw [Hid, ← HR.out, recvR_good HRG.out, hRb, hRs, hRk]; exact recvI_buf kap cl b s r _ hb
    have HE : Hid (Rb = (recvI kap cl b s r (t1, t2, tv)).2.2.1 ∧ Rs = (recvI kap cl b s r (t1, t2, tv)).2.2.2.1 ∧ Rk = (recvI kap cl b s r (t1, t2, tv)).2.2.2.2.2.1) := ⟨hRb, hRs, hRk⟩
    clear hRb hRs hRk HR hb
    go_wp2_with fail
    rw [← HW6.out]
    refine (recvBuffer_any kap cl bo bc b so sc s ro rc r t1 t2 tv W6 hl hls hlr (hz.later hB6) hb0 hb10).mono ?_
    rintro e w7 ⟨⟨bo7, bc7, so7, sc7, ro7, rc7, ko7, kc7, rfl, hF7, hK7⟩, hb7⟩
    rw [← HE.out.1, ← HE.out.2.1] at hF7
    rw [← HE.out.2.2] at hK7
    rw [← HE.out.1, ← HE.out.2.1, ← HE.out.2.2]
    have hB7 := hB6.trans (hb7.mono hB6.size)
    have R7 := R6.later hb7
    have X7 := X6.later hb7
    have F7 : Hid (FreshCh W6.heap.size w7.heap.size w7 bo7 bc7 Rb so7 sc7 Rs ro7 rc7 r ∧ FreshK W6.heap.size w7.heap.size w7 ko7 kc7 Rk) := ⟨hF7, hK7⟩
    have n7 : Hid (W6.heap.size ≤ w7.heap.size) := hb7.size
    clear hb7 hF7 hK7 A5 A6 R5 R6 T5 T6 X6 F5 F6 a0 a1 a2 a3 a4 af0 af1 af2 af3 af4 t0 t1' t2' HW6
    obtain ⟨V, hV⟩ : ∃ V, V = (((((w7.setCell ⟨w5.heap.size, 0, none⟩ (.int .i64 kap)).setCell ⟨w5.heap.size, 1, none⟩ (.bool cl)).setCell ⟨w5.heap.size, 2, none⟩ (.slice bo7 Rb.length bc7)).setCell ⟨w5.heap.size, 3, none⟩ (.slice so7 Rs.length sc7)).setCell ⟨w5.heap.size, 4, none⟩ (.slice ro7 r.length rc7)) := ⟨_, rfl⟩
    have X8 : BoxF5 V w5.heap.size (.int .i64 kap) (.bool cl) (.slice bo7 Rb.length bc7) (.slice so7 Rs.length sc7) (.slice ro7 r.length rc7) := by rw [hV]; exact X7.setsF (.int .i64 kap) (.bool cl) (.slice bo7 Rb.length bc7) (.slice so7 Rs.length sc7) (.slice ro7 r.length rc7)
    have R8 : BoxF5 V (w.heap.size + 1 + 1) (.int .i64 0) (.bool false) (.slice none 0 0) (.slice none 0 0) (.slice none 0 0) := by rw [hV]; exact (((((R7.other _ (by simpa using hnr) _).other _ (by simpa using hnr) _).other _ (by simpa using hnr) _).other _ (by simpa using hnr) _).other _ (by simpa using hnr) _)
    have q4 := HQ4.out
    have q5 := HQ5.out
    have q6 := HS6.out
    have F8 : Hid (FreshCh (w.heap.size + 1 + 1 + 1) V.heap.size V bo7 bc7 Rb so7 sc7 Rs ro7 rc7 r ∧ FreshK (w.heap.size + 1 + 1 + 1) V.heap.size V ko7 kc7 Rk) := by
      have hs : V.heap.size = w7.heap.size := by rw [hV]; exact sets5_size w7 w5.heap.size (.int .i64 kap) (.bool cl) (.slice bo7 Rb.length bc7) (.slice so7 Rs.length sc7) (.slice ro7 r.length rc7)
      rw [hs, hV]
      exact ⟨(F7.out.1.sets (.inl (by omega)) (.int .i64 kap) (.bool cl) (.slice bo7 Rb.length bc7) (.slice so7 Rs.length sc7) (.slice ro7 r.length rc7)).wide (by omega) (Nat.le_refl _), (F7.out.2.sets (.inl (by omega)) (.int .i64 kap) (.bool cl) (.slice bo7 Rb.length bc7) (.slice so7 Rs.length sc7) (.slice ro7 r.length rc7)).wide (by omega) (Nat.le_refl _)⟩
    have hB8 : Hid (Below w.heap.size w V) := by rw [Hid, hV]; exact Below.sets hB7 (by omega) (.int .i64 kap) (.bool cl) (.slice bo7 Rb.length bc7) (.slice so7 Rs.length sc7) (.slice ro7 r.length rc7)
    have HV : Hid (V = (((((w7.setCell ⟨w5.heap.size, 0, none⟩ (.int .i64 kap)).setCell ⟨w5.heap.size, 1, none⟩ (.bool cl)).setCell ⟨w5.heap.size, 2, none⟩ (.slice bo7 Rb.length bc7)).setCell ⟨w5.heap.size, 3, none⟩ (.slice so7 Rs.length sc7)).setCell ⟨w5.heap.size, 4, none⟩ (.slice ro7 r.length rc7))) := hV
    clear q4 q5 q6
    obtain ⟨⟨_, x0, x1, x2, x3, x4⟩, xf0, xf1, xf2, xf3, xf4⟩ := id X7
    obtain ⟨⟨_, r0, r1, r2, r3, r4⟩, rf0, rf1, rf2, rf3, rf4⟩ := id R7
    have y0 : (((((w7.setCell ⟨w5.heap.size, 0, none⟩ (.int .i64 kap)).setCell ⟨w5.heap.size, 1, none⟩ (.bool cl)).setCell ⟨w5.heap.size, 2, none⟩ (.slice bo7 Rb.length bc7)).setCell ⟨w5.heap.size, 3, none⟩ (.slice so7 Rs.length sc7)).setCell ⟨w5.heap.size, 4, none⟩ (.slice ro7 r.length rc7)).cell? ⟨w5.heap.size, 0, none⟩ = some (.int .i64 kap) := by rw [← hV]; exact X8.1.2.1
    have y1 : (((((w7.setCell ⟨w5.heap.size, 0, none⟩ (.int .i64 kap)).setCell ⟨w5.heap.size, 1, none⟩ (.bool cl)).setCell ⟨w5.heap.size, 2, none⟩ (.slice bo7 Rb.length bc7)).setCell ⟨w5.heap.size, 3, none⟩ (.slice so7 Rs.length sc7)).setCell ⟨w5.heap.size, 4, none⟩ (.slice ro7 r.length rc7)).cell? ⟨w5.heap.size, 1, none⟩ = some (.bool cl) := by rw [← hV]; exact X8.1.2.2.1
    have y2 : (((((w7.setCell ⟨w5.heap.size, 0, none⟩ (.int .i64 kap)).setCell ⟨w5.heap.size, 1, none⟩ (.bool cl)).setCell ⟨w5.heap.size, 2, none⟩ (.slice bo7 Rb.length bc7)).setCell ⟨w5.heap.size, 3, none⟩ (.slice so7 Rs.length sc7)).setCell ⟨w5.heap.size, 4, none⟩ (.slice ro7 r.length rc7)).cell? ⟨w5.heap.size, 2, none⟩ = some (.slice bo7 Rb.length bc7) := by rw [← hV]; exact X8.1.2.2.2.1
    have y3 : (((((w7.setCell ⟨w5.heap.size, 0, none⟩ (.int .i64 kap)).setCell ⟨w5.heap.size, 1, none⟩ (.bool cl)).setCell ⟨w5.heap.size, 2, none⟩ (.slice bo7 Rb.length bc7)).setCell ⟨w5.heap.size, 3, none⟩ (.slice so7 Rs.length sc7)).setCell ⟨w5.heap.size, 4, none⟩ (.slice ro7 r.length rc7)).cell? ⟨w5.heap.size, 3, none⟩ = some (.slice so7 Rs.length sc7) := by rw [← hV]; exact X8.1.2.2.2.2.1
    have y4 : (((((w7.setCell ⟨w5.heap.size, 0, none⟩ (.int .i64 kap)).setCell ⟨w5.heap.size, 1, none⟩ (.bool cl)).setCell ⟨w5.heap.size, 2, none⟩ (.slice bo7 Rb.length bc7)).setCell ⟨w5.heap.size, 3, none⟩ (.slice so7 Rs.length sc7)).setCell ⟨w5.heap.size, 4, none⟩ (.slice ro7 r.length rc7)).cell? ⟨w5.heap.size, 4, none⟩ = some (.slice ro7 r.length rc7) := by rw [← hV]; exact X8.1.2.2.2.2.2
    have z0 : (((((w7.setCell ⟨w5.heap.size, 0, none⟩ (.int .i64 kap)).setCell ⟨w5.heap.size, 1, none⟩ (.bool cl)).setCell ⟨w5.heap.size, 2, none⟩ (.slice bo7 Rb.length bc7)).setCell ⟨w5.heap.size, 3, none⟩ (.slice so7 Rs.length sc7)).setCell ⟨w5.heap.size, 4, none⟩ (.slice ro7 r.length rc7)).cell? ⟨w.heap.size + 1 + 1, 0, none⟩ = some (.int .i64 0) := by rw [← hV]; exact R8.1.2.1
    have z1 : (((((w7.setCell ⟨w5.heap.size, 0, none⟩ (.int .i64 kap)).setCell ⟨w5.heap.size, 1, none⟩ (.bool cl)).setCell ⟨w5.heap.size, 2, none⟩ (.slice bo7 Rb.length bc7)).setCell ⟨w5.heap.size, 3, none⟩ (.slice so7 Rs.length sc7)).setCell ⟨w5.heap.size, 4, none⟩ (.slice ro7 r.length rc7)).cell? ⟨w.heap.size + 1 + 1, 1, none⟩ = some (.bool false) := by rw [← hV]; exact R8.1.2.2.1
    have z2 : (((((w7.setCell ⟨w5.heap.size, 0, none⟩ (.int .i64 kap)).setCell ⟨w5.heap.size, 1, none⟩ (.bool cl)).setCell ⟨w5.heap.size, 2, none⟩ (.slice bo7 Rb.length bc7)).setCell ⟨w5.heap.size, 3, none⟩ (.slice so7 Rs.length sc7)).setCell ⟨w5.heap.size, 4, none⟩ (.slice ro7 r.length rc7)).cell? ⟨w.heap.size + 1 + 1, 2, none⟩ = some (.slice none 0 0) := by rw [← hV]; exact R8.1.2.2.2.1
    have z3 : (((((w7.setCell ⟨w5.heap.size, 0, none⟩ (.int .i64 kap)).setCell ⟨w5.heap.size, 1, none⟩ (.bool cl)).setCell ⟨w5.heap.size, 2, none⟩ (.slice bo7 Rb.length bc7)).setCell ⟨w5.heap.size, 3, none⟩ (.slice so7 Rs.length sc7)).setCell ⟨w5.heap.size, 4, none⟩ (.slice ro7 r.length rc7)).cell? ⟨w.heap.size + 1 + 1, 3, none⟩ = some (.slice none 0 0) := by rw [← hV]; exact R8.1.2.2.2.2.1
    have z4 : (((((w7.setCell ⟨w5.heap.size, 0, none⟩ (.int .i64 kap)).setCell ⟨w5.heap.size, 1, none⟩ (.bool cl)).setCell ⟨w5.heap.size, 2, none⟩ (.slice bo7 Rb.length bc7)).setCell ⟨w5.heap.size, 3, none⟩ (.slice so7 Rs.length sc7)).setCell ⟨w5.heap.size, 4, none⟩ (.slice ro7 r.length rc7)).cell? ⟨w.heap.size + 1 + 1, 4, none⟩ = some (.slice none 0 0) := by rw [← hV]; exact R8.1.2.2.2.2.2
    have zf0 : (((((w7.setCell ⟨w5.heap.size, 0, none⟩ (.int .i64 kap)).setCell ⟨w5.heap.size, 1, none⟩ (.bool cl)).setCell ⟨w5.heap.size, 2, none⟩ (.slice bo7 Rb.length bc7)).setCell ⟨w5.heap.size, 3, none⟩ (.slice so7 Rs.length sc7)).setCell ⟨w5.heap.size, 4, none⟩ (.slice ro7 r.length rc7)).frozen? ⟨w.heap.size + 1 + 1, 0, none⟩ = false := by rw [← hV]; exact R8.2.1
    have zf1 : (((((w7.setCell ⟨w5.heap.size, 0, none⟩ (.int .i64 kap)).setCell ⟨w5.heap.size, 1, none⟩ (.bool cl)).setCell ⟨w5.heap.size, 2, none⟩ (.slice bo7 Rb.length bc7)).setCell ⟨w5.heap.size, 3, none⟩ (.slice so7 Rs.length sc7)).setCell ⟨w5.heap.size, 4, none⟩ (.slice ro7 r.length rc7)).frozen? ⟨w.heap.size + 1 + 1, 1, none⟩ = false := by rw [← hV]; exact R8.2.2.1
    have zf2 : (((((w7.setCell ⟨w5.heap.size, 0, none⟩ (.int .i64 kap)).setCell ⟨w5.heap.size, 1, none⟩ (.bool cl)).setCell ⟨w5.heap.size, 2, none⟩ (.slice bo7 Rb.length bc7)).setCell ⟨w5.heap.size, 3, none⟩ (.slice so7 Rs.length sc7)).setCell ⟨w5.heap.size, 4, none⟩ (.slice ro7 r.length rc7)).frozen? ⟨w.heap.size + 1 + 1, 2, none⟩ = false := by rw [← hV]; exact R8.2.2.2.1
    have zf3 : (((((w7.setCell ⟨w5.heap.size, 0, none⟩ (.int .i64 kap)).setCell ⟨w5.heap.size, 1, none⟩ (.bool cl)).setCell ⟨w5.heap.size, 2, none⟩ (.slice bo7 Rb.length bc7)).setCell ⟨w5.heap.size, 3, none⟩ (.slice so7 Rs.length sc7)).setCell ⟨w5.heap.size, 4, none⟩ (.slice ro7 r.length rc7)).frozen? ⟨w.heap.size + 1 + 1, 3, none⟩ = false := by rw [← hV]; exact R8.2.2.2.2.1
    have zf4 : (((((w7.setCell ⟨w5.heap.size, 0, none⟩ (.int .i64 kap)).setCell ⟨w5.heap.size, 1, none⟩ (.bool cl)).setCell ⟨w5.heap.size, 2, none⟩ (.slice bo7 Rb.length bc7)).setCell ⟨w5.heap.size, 3, none⟩ (.slice so7 Rs.length sc7)).setCell ⟨w5.heap.size, 4, none⟩ (.slice ro7 r.length rc7)).frozen? ⟨w.heap.size + 1 + 1, 4, none⟩ = false := by rw [← hV]; exact R8.2.2.2.2.2
    clear hV
    go_wp2
    rw [← HV.out]
    clear r0 r1 r2 r3 r4 rf0 rf1 rf2 rf3 rf4 y0 y1 y2 y3 y4 z0 z1 z2 z3 z4 zf0 zf1 zf2 zf3 zf4
    obtain ⟨⟨_, r0, r1, r2, r3, r4⟩, rf0, rf1, rf2, rf3, rf4⟩ := id R8
    refine bodyPost_ret (v := .tuple #[.agg #[.int .i64 kap, .bool cl, .slice bo7 Rb.length bc7, .slice so7 Rs.length sc7, .slice ro7 r.length rc7], .slice ko7 Rk.length kc7, .int .i64 0]) (by simp [results, Try.results7, go_sem, r0, r1, r2, r3, r4]) rfl ?_
    rw [HR2.out]
    exact ansT_q hB8.out (by omega) F8.out.1 F8.out.2 _ _ _ _ _
  obtain ⟨pb, pb', pb''⟩ := len0 hb
  by_cases hs : s.length = 0
  rotate_left
  · -- off a sender
    have ps : decide ((0 : Int) < (s.length : Int)) = true := by simp; omega
    have HS0 : Hid (0 < s.length) := by show 0 < s.length; omega
    obtain ⟨Rb, hRb⟩ : ∃ Rb, Rb = b := ⟨_, rfl⟩
    obtain ⟨Rs, hRs⟩ : ∃ Rs, Rs = s.drop 1 := ⟨_, rfl⟩
    obtain ⟨Rk, hRk⟩ : ∃ Rk, Rk = [(t1, t2, (t3 s 0).2.2, true), ((t3 s 0).1, (t3 s 0).2.1, 0, true)] := ⟨_, rfl⟩
    have HR2 : Hid (R = (kap, cl, Rb, Rs, r, Rk, 0)) := by rw [Hid, ← HR.out, recvR_good HRG.out, recvI, if_neg (by omega), if_pos hs, hRb, hRs, hRk]
    have HE : Hid (Rb = b ∧ Rs = s.drop 1 ∧ Rk = [(t1, t2, (t3 s 0).2.2, true), ((t3 s 0).1, (t3 s 0).2.1, 0, true)]) := ⟨hRb, hRs, hRk⟩
    clear hRb hRs hRk HR hb hs
    go_wp2_with fail
    rw [← HW6.out]
    refine (recvSender_any kap cl bo bc b so sc s ro rc r t1 t2 tv W6 hl hls hlr (hz.later hB6) HS0.out).mono ?_
    rintro e w7 ⟨⟨bo7, bc7, so7, sc7, ro7, rc7, ko7, kc7, rfl, hF7, hK7⟩, hb7⟩
    rw [← HE.out.2.1] at hF7
    rw [← HE.out.2.2] at hK7
    rw [← HE.out.2.1, ← HE.out.2.2]
    have hB7 := hB6.trans (hb7.mono hB6.size)
    have R7 := R6.later hb7
    have X7 := X6.later hb7
    have eb := HE.out.1
    rw [← eb] at hF7 ⊢
    clear eb
    have F7 : Hid (FreshCh W6.heap.size w7.heap.size w7 bo7 bc7 Rb so7 sc7 Rs ro7 rc7 r ∧ FreshK W6.heap.size w7.heap.size w7 ko7 kc7 Rk) := ⟨hF7, hK7⟩
    have n7 : Hid (W6.heap.size ≤ w7.heap.size) := hb7.size
    clear hb7 hF7 hK7 A5 A6 R5 R6 T5 T6 X6 F5 F6 a0 a1 a2 a3 a4 af0 af1 af2 af3 af4 t0 t1' t2' HW6
    obtain ⟨V, hV⟩ : ∃ V, V = (((((w7.setCell ⟨w5.heap.size, 0, none⟩ (.int .i64 kap)).setCell ⟨w5.heap.size, 1, none⟩ (.bool cl)).setCell ⟨w5.heap.size, 2, none⟩ (.slice bo7 Rb.length bc7)).setCell ⟨w5.heap.size, 3, none⟩ (.slice so7 Rs.length sc7)).setCell ⟨w5.heap.size, 4, none⟩ (.slice ro7 r.length rc7)) := ⟨_, rfl⟩
    have X8 : BoxF5 V w5.heap.size (.int .i64 kap) (.bool cl) (.slice bo7 Rb.length bc7) (.slice so7 Rs.length sc7) (.slice ro7 r.length rc7) := by rw [hV]; exact X7.setsF (.int .i64 kap) (.bool cl) (.slice bo7 Rb.length bc7) (.slice so7 Rs.length sc7) (.slice ro7 r.length rc7)
    have R8 : BoxF5 V (w.heap.size + 1 + 1) (.int .i64 0) (.bool false) (.slice none 0 0) (.slice none 0 0) (.slice none 0 0) := by rw [hV]; exact (((((R7.other _ (by simpa using hnr) _).other _ (by simpa using hnr) _).other _ (by simpa using hnr) _).other _ (by simpa using hnr) _).other _ (by simpa using hnr) _)
    have q4 := HQ4.out
    have q5 := HQ5.out
    have q6 := HS6.out
    have F8 : Hid (FreshCh (w.heap.size + 1 + 1 + 1) V.heap.size V bo7 bc7 Rb so7 sc7 Rs ro7 rc7 r ∧ FreshK (w.heap.size + 1 + 1 + 1) V.heap.size V ko7 kc7 Rk) := by
      have hs : V.heap.size = w7.heap.size := by rw [hV]; exact sets5_size w7 w5.heap.size (.int .i64 kap) (.bool cl) (.slice bo7 Rb.length bc7) (.slice so7 Rs.length sc7) (.slice ro7 r.length rc7)
      rw [hs, hV]
      exact ⟨(F7.out.1.sets (.inl (by omega)) (.int .i64 kap) (.bool cl) (.slice bo7 Rb.length bc7) (.slice so7 Rs.length sc7) (.slice ro7 r.length rc7)).wide (by omega) (Nat.le_refl _), (F7.out.2.sets (.inl (by omega)) (.int .i64 kap) (.bool cl) (.slice bo7 Rb.length bc7) (.slice so7 Rs.length sc7) (.slice ro7 r.length rc7)).wide (by omega) (Nat.le_refl _)⟩
    have hB8 : Hid (Below w.heap.size w V) := by rw [Hid, hV]; exact Below.sets hB7 (by omega) (.int .i64 kap) (.bool cl) (.slice bo7 Rb.length bc7) (.slice so7 Rs.length sc7) (.slice ro7 r.length rc7)
    have HV : Hid (V = (((((w7.setCell ⟨w5.heap.size, 0, none⟩ (.int .i64 kap)).setCell ⟨w5.heap.size, 1, none⟩ (.bool cl)).setCell ⟨w5.heap.size, 2, none⟩ (.slice bo7 Rb.length bc7)).setCell ⟨w5.heap.size, 3, none⟩ (.slice so7 Rs.length sc7)).setCell ⟨w5.heap.size, 4, none⟩ (.slice ro7 r.length rc7))) := hV
    clear q4 q5 q6
    obtain ⟨⟨_, x0, x1, x2, x3, x4⟩, xf0, xf1, xf2, xf3, xf4⟩ := id X7
    obtain ⟨⟨_, r0, r1, r2, r3, r4⟩, rf0, rf1, rf2, rf3, rf4⟩ := id R7
    have y0 : (((((w7.setCell ⟨w5.heap.size, 0, none⟩ (.int .i64 kap)).setCell ⟨w5.heap.size, 1, none⟩ (.bool cl)).setCell ⟨w5.heap.size, 2, none⟩ (.slice bo7 Rb.length bc7)).setCell ⟨w5.heap.size, 3, none⟩ (.slice so7 Rs.length sc7)).setCell ⟨w5.heap.size, 4, none⟩ (.slice ro7 r.length rc7)).cell? ⟨w5.heap.size, 0, none⟩ = some (.int .i64 kap) := by rw [← hV]; exact X8.1.2.1
    have y1 : (((((w7.setCell ⟨w5.heap.size, 0, none⟩ (.int .i64 kap)).setCell ⟨w5.heap.size, 1, none⟩ (.bool cl)).setCell ⟨w5.heap.size, 2, none⟩ (.slice bo7 Rb.length bc7)).setCell ⟨w5.heap.size, 3, none⟩ (.slice so7 Rs.length sc7)).setCell ⟨w5.heap.size, 4, none⟩ (.slice ro7 r.length rc7)).cell? ⟨w5.heap.size, 1, none⟩ = some (.bool cl) := by rw [← hV]; exact X8.1.2.2.1
    have y2 : (((((w7.setCell ⟨w5.heap.size, 0, none⟩ (.int .i64 kap)).setCell ⟨w5.heap.size, 1, none⟩ (.bool cl)).setCell ⟨w5.heap.size, 2, none⟩ (.slice bo7 Rb.length bc7)).setCell ⟨w5.heap.size, 3, none⟩ (.slice so7 Rs.length sc7)).setCell ⟨w5.heap.size, 4, none⟩ (.slice ro7 r.length rc7)).cell? ⟨w5.heap.size, 2, none⟩ = some (.slice bo7 Rb.length bc7) := by rw [← hV]; exact X8.1.2.2.2.1
    have y3 : (((((w7.setCell ⟨w5.heap.size, 0, none⟩ (.int .i64 kap)).setCell ⟨w5.heap.size, 1, none⟩ (.bool cl)).setCell ⟨w5.heap.size, 2, none⟩ (.slice bo7 Rb.length bc7)).setCell ⟨w5.heap.size, 3, none⟩ (.slice so7 Rs.length sc7)).setCell ⟨w5.heap.size, 4, none⟩ (.slice ro7 r.length rc7)).cell? ⟨w5.heap.size, 3, none⟩ = some (.slice so7 Rs.length sc7) := by rw [← hV]; exact X8.1.2.2.2.2.1
    have y4 : (((((w7.setCell ⟨w5.heap.size, 0, none⟩ (.int .i64 kap)).setCell ⟨w5.heap.size, 1, none⟩ (.bool cl)).setCell ⟨w5.heap.size, 2, none⟩ (.slice bo7 Rb.length bc7)).setCell ⟨w5.heap.size, 3, none⟩ (.slice so7 Rs.length sc7)).setCell ⟨w5.heap.size, 4, none⟩ (.slice ro7 r.length rc7)).cell? ⟨w5.heap.size, 4, none⟩ = some (.slice ro7 r.length rc7) := by rw [← hV]; exact X8.1.2.2.2.2.2
    have z0 : (((((w7.setCell ⟨w5.heap.size, 0, none⟩ (.int .i64 kap)).setCell ⟨w5.heap.size, 1, none⟩ (.bool cl)).setCell ⟨w5.heap.size, 2, none⟩ (.slice bo7 Rb.length bc7)).setCell ⟨w5.heap.size, 3, none⟩ (.slice so7 Rs.length sc7)).setCell ⟨w5.heap.size, 4, none⟩ (.slice ro7 r.length rc7)).cell? ⟨w.heap.size + 1 + 1, 0, none⟩ = some (.int .i64 0) := by rw [← hV]; exact R8.1.2.1
    have z1 : (((((w7.setCell ⟨w5.heap.size, 0, none⟩ (.int .i64 kap)).setCell ⟨w5.heap.size, 1, none⟩ (.bool cl)).setCell ⟨w5.heap.size, 2, none⟩ (.slice bo7 Rb.length bc7)).setCell ⟨w5.heap.size, 3, none⟩ (.slice so7 Rs.length sc7)).setCell ⟨w5.heap.size, 4, none⟩ (.slice ro7 r.length rc7)).cell? ⟨w.heap.size + 1 + 1, 1, none⟩ = some (.bool false) := by rw [← hV]; exact R8.1.2.2.1
    have z2 : (((((w7.setCell ⟨w5.heap.size, 0, none⟩ (.int .i64 kap)).setCell ⟨w5.heap.size, 1, none⟩ (.bool cl)).setCell ⟨w5.heap.size, 2, none⟩ (.slice bo7 Rb.length bc7)).setCell ⟨w5.heap.size, 3, none⟩ (.slice so7 Rs.length sc7)).setCell ⟨w5.heap.size, 4, none⟩ (.slice ro7 r.length rc7)).cell? ⟨w.heap.size + 1 + 1, 2, none⟩ = some (.slice none 0 0) := by rw [← hV]; exact R8.1.2.2.2.1
    have z3 : (((((w7.setCell ⟨w5.heap.size, 0, none⟩ (.int .i64 kap)).setCell ⟨w5.heap.size, 1, none⟩ (.bool cl)).setCell ⟨w5.heap.size, 2, none⟩ (.slice bo7 Rb.length bc7)).setCell ⟨w5.heap.size, 3, none⟩ (.slice so7 Rs.length sc7)).setCell ⟨w5.heap.size, 4, none⟩ (.slice ro7 r.length rc7)).cell? ⟨w.heap.size + 1 + 1, 3, none⟩ = some (.slice none 0 0) := by rw [← hV]; exact R8.1.2.2.2.2.1
    have z4 : (((((w7.setCell ⟨w5.heap.size, 0, none⟩ (.int .i64 kap)).setCell ⟨w5.heap.size, 1, none⟩ (.bool cl)).setCell ⟨w5.heap.size, 2, none⟩ (.slice bo7 Rb.length bc7)).setCell ⟨w5.heap.size, 3, none⟩ (.slice so7 Rs.length sc7)).setCell ⟨w5.heap.size, 4, none⟩ (.slice ro7 r.length rc7)).cell? ⟨w.heap.size + 1 + 1, 4, none⟩ = some (.slice none 0 0) := by rw [← hV]; exact R8.1.2.2.2.2.2
    have zf0 : (((((w7.setCell ⟨w5.heap.size, 0, none⟩ (.int .i64 kap)).setCell ⟨w5.heap.size, 1, none⟩ (.bool cl)).setCell ⟨w5.heap.size, 2, none⟩ (.slice bo7 Rb.length bc7)).setCell ⟨w5.heap.size, 3, none⟩ (.slice so7 Rs.length sc7)).setCell ⟨w5.heap.size, 4, none⟩ (.slice ro7 r.length rc7)).frozen? ⟨w.heap.size + 1 + 1, 0, none⟩ = false := by rw [← hV]; exact R8.2.1
    have zf1 : (((((w7.setCell ⟨w5.heap.size, 0, none⟩ (.int .i64 kap)).setCell ⟨w5.heap.size, 1, none⟩ (.bool cl)).setCell ⟨w5.heap.size, 2, none⟩ (.slice bo7 Rb.length bc7)).setCell ⟨w5.heap.size, 3, none⟩ (.slice so7 Rs.length sc7)).setCell ⟨w5.heap.size, 4, none⟩ (.slice ro7 r.length rc7)).frozen? ⟨w.heap.size + 1 + 1, 1, none⟩ = false := by rw [← hV]; exact R8.2.2.1
    have zf2 : (((((w7.setCell ⟨w5.heap.size, 0, none⟩ (.int .i64 kap)).setCell ⟨w5.heap.size, 1, none⟩ (.bool cl)).setCell ⟨w5.heap.size, 2, none⟩ (.slice bo7 Rb.length bc7)).setCell ⟨w5.heap.size, 3, none⟩ (.slice so7 Rs.length sc7)).setCell ⟨w5.heap.size, 4, none⟩ (.slice ro7 r.length rc7)).frozen? ⟨w.heap.size + 1 + 1, 2, none⟩ = false := by rw [← hV]; exact R8.2.2.2.1
    have zf3 : (((((w7.setCell ⟨w5.heap.size, 0, none⟩ (.int .i64 kap)).setCell ⟨w5.heap.size, 1, none⟩ (.bool cl)).setCell ⟨w5.heap.size, 2, none⟩ (.slice bo7 Rb.length bc7)).setCell ⟨w5.heap.size, 3, none⟩ (.slice so7 Rs.length sc7)).setCell ⟨w5.heap.size, 4, none⟩ (.slice ro7 r.length rc7)).frozen? ⟨w.heap.size + 1 + 1, 3, none⟩ = false := by rw [← hV]; exact R8.2.2.2.2.1
    have zf4 : (((((w7.setCell ⟨w5.heap.size, 0, none⟩ (.int .i64 kap)).setCell ⟨w5.heap.size, 1, none⟩ (.bool cl)).setCell ⟨w5.heap.size, 2, none⟩ (.slice bo7 Rb.length bc7)).setCell ⟨w5.heap.size, 3, none⟩ (.slice so7 Rs.length sc7)).setCell ⟨w5.heap.size, 4, none⟩ (.slice ro7 r.length rc7)).frozen? ⟨w.heap.size + 1 + 1, 4, none⟩ = false := by rw [← hV]; exact R8.2.2.2.2.2
    clear hV
    go_wp2
    rw [← HV.out]
    clear r0 r1 r2 r3 r4 rf0 rf1 rf2 rf3 rf4 y0 y1 y2 y3 y4 z0 z1 z2 z3 z4 zf0 zf1 zf2 zf3 zf4
    obtain ⟨⟨_, r0, r1, r2, r3, r4⟩, rf0, rf1, rf2, rf3, rf4⟩ := id R8
    refine bodyPost_ret (v := .tuple #[.agg #[.int .i64 kap, .bool cl, .slice bo7 Rb.length bc7, .slice so7 Rs.length sc7, .slice ro7 r.length rc7], .slice ko7 Rk.length kc7, .int .i64 0]) (by simp [results, Try.results7, go_sem, r0, r1, r2, r3, r4]) rfl ?_
    rw [HR2.out]
    exact ansT_q hB8.out (by omega) F8.out.1 F8.out.2 _ _ _ _ _
  obtain ⟨ps, ps', ps''⟩ := len0 hs
  cases cl
  rotate_left
  · -- closed
    have HR2 : Hid (R = (kap, true, b, s, r, [(t1, t2, 0, false)], 0)) := by rw [Hid, ← HR.out, recvR_good HRG.out, recvI, if_neg (by omega), if_neg (by omega), if_pos rfl]
    clear HR hb hs
    obtain ⟨⟨_, r0, r1, r2, r3, r4⟩, rf0, rf1, rf2, rf3, rf4⟩ := id R5
    go_wp2_with fail
    rw [← HW6.out]
    refine (wake_any t1 t2 tv 0 false W6).mono ?_
    rintro e w7 ⟨rfl, hb7⟩
    have hB7 : Hid (Below w.heap.size w w7) := hB6.trans (hb7.mono hB6.size)
    have R7 := R6.later hb7
    have X7 := X6.later hb7
    have F7 : Hid (FreshCh (w.heap.size + 1 + 1 + 1) w7.heap.size w7 bo5 bc5 b so5 sc5 s ro5 rc5 r) := (F6.out.later hb7).wide HQ4.out (by have := hb7.size; have := HS6.out; omega)
    clear hb7 r0 r1 r2 r3 r4 rf0 rf1 rf2 rf3 rf4 A5 A6 R5 R6 T5 T6 X6 F5 F6 a0 a1 a2 a3 a4 af0 af1 af2 af3 af4 t0 t1' t2' HW6
    obtain ⟨⟨_, x0, x1, x2, x3, x4⟩, xf0, xf1, xf2, xf3, xf4⟩ := id X7
    obtain ⟨⟨_, r0, r1, r2, r3, r4⟩, rf0, rf1, rf2, rf3, rf4⟩ := id R7
    have hlt7 := R7.1.1
    clear X7 R7
    go_wp2
    refine bodyPost_ret (v := .tuple #[.agg #[.int .i64 kap, .bool true, .slice bo5 b.length bc5, .slice so5 s.length sc5, .slice ro5 r.length rc5], .slice (some ⟨w7.heap.size, 0, none⟩) 1 1, .int .i64 0]) (by simp [results, Try.results7, go_sem, r0, r1, r2, r3, r4, hlt7]) rfl ?_
    rw [HR2.out]
    exact ansT_woke hB7.out (by omega) F7.out t1 t2 0 false _ _ _ _ _
  obtain ⟨M, hM⟩ : ∃ M, moreW r (t1, t2, tv) = M := ⟨_, rfl⟩
  have HR2 : Hid (R = (kap, false, b, s, M.1, [], M.2)) := by rw [Hid, ← HR.out, recvR_good HRG.out, recvI, if_neg (by omega), if_neg (by omega), if_neg (by simp), hM]
  have HM : Hid (moreW r (t1, t2, tv) = M) := hM
  clear hM HR hb hs
  go_wp2_with fail
  rw [← HW6.out]
  refine (waitBehind_any ro rc r t1 t2 tv W6 (by omega) (hz.2.2.later hB6) M HM.out).mono ?_
  rintro e w7 ⟨⟨go7, qc7, rfl, hF7⟩, hb7⟩
  have hB7 := hB6.trans (hb7.mono hB6.size)
  have R7 := R6.later hb7
  have X7 := X6.later hb7
  have q7 := hb7.size
  rw [HS6.out] at q7
  have F7 : Hid (FreshCh w4.heap.size w5.heap.size w7 bo5 bc5 b so5 sc5 s ro5 rc5 r ∧ FreshC W6.heap.size w7.heap.size w7 go7 qc7 M.1) := ⟨F6.out.later hb7, hF7⟩
  clear hb7 hF7 A5 A6 R5 R6 T5 T6 X6 F5 F6 a0 a1 a2 a3 a4 af0 af1 af2 af3 af4 t0 t1' t2' HW6
  obtain ⟨⟨_, r0, r1, r2, r3, r4⟩, rf0, rf1, rf2, rf3, rf4⟩ := id R7
  obtain ⟨⟨_, x0, x1, x2, x3, x4⟩, xf0, xf1, xf2, xf3, xf4⟩ := id X7
  have HF8 : Hid (FreshCh (w.heap.size + 1 + 1 + 1) w7.heap.size (w7.setCell ⟨w5.heap.size, 4, none⟩ (.slice go7 M.1.length qc7)) bo5 bc5 b so5 sc5 s go7 qc7 M.1) := by
    have q4 := HQ4.out
    have q5 := HQ5.out
    have q6 := HS6.out
    have hap : Apart so5 _ s go7 _ M.1 := apart_of F7.out.1.2.1 F7.out.2 (by omega)
    exact ⟨FreshI.wide (lo := w4.heap.size) (hi := w5.heap.size) (F7.out.1.1.keep fun k _ h2 _ => Below.heap_setCell _ _ _ k (by simp; omega)) q4 (by omega), FreshC.wide (lo := w4.heap.size) (hi := w5.heap.size) (F7.out.1.2.1.keep fun k _ h2 _ => Below.heap_setCell _ _ _ k (by simp; omega)) q4 (by omega), FreshC.wide (F7.out.2.setBelow (by simp; omega) _) (by omega) (Nat.le_refl _), hap⟩
  have HB8 : Hid (Below w.heap.size w (w7.setCell ⟨w5.heap.size, 4, none⟩ (.slice go7 M.1.length qc7))) := hB7.setCell (p := ⟨w5.heap.size, 4, none⟩) (by have := HQ5.out; simp; omega) _
  clear R7 X7 F7
  go_wp2
  refine bodyPost_ret (v := .tuple #[.agg #[.int .i64 kap, .bool false, .slice bo5 b.length bc5, .slice so5 s.length sc5, .slice go7 M.1.length qc7], .slice none 0 0, .int .i64 M.2]) (by simp [results, Try.results7, go_sem, r0, r1, r2, r3, r4]) rfl ?_
  rw [HR2.out]
  exact ansT_q (k := []) HB8.out (by omega) (by simpa using HF8.out) (freshK_nil _ _ _) _ _ _ _ _
end Go.Proofs.Ytdfmmidokfcjfaa.Old
