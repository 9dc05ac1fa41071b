
/- SendOn: the specification's. No conditions but those written. -/
import Derived.Test.YtdfmmidokfcjfaaOJc
namespace Go.Proofs.Ytdfmmidokfcjfaa.Old
open Go.RowKit

theorem l3Send_any (kap : Int) (cl : Bool) (gb bc : Nat) (b : List Int) (gs sc : Nat) (s : List T3) (gr rc : Nat) (r : List T3) (t1 t2 tv : Int) (lo : Nat) (w : World) (hlo : lo ≤ w.heap.size) (hl : b.length ≤ 1048576) (hls : s.length ≤ 1048576) (hlr : r.length ≤ 1048576) (hb : SI lo w.heap.size w gb bc b) (hs : SC lo w.heap.size w gs sc s) (hr : SC lo w.heap.size w gr rc r) (hgg : gs ≠ gr) (_hs40 : s.length ≤ 40) (R : Int × Bool × List Int × List T3 × List T3 × List T4 × Int) (hR : sendI kap cl b s r (t1, t2, tv) = R) :
    Calls Try.prog 22 #[.agg #[.int .i64 kap, .bool cl, .slice (some ⟨gb, 0, none⟩) b.length bc, .slice (some ⟨gs, 0, none⟩) s.length sc, .slice (some ⟨gr, 0, none⟩) r.length rc], .agg #[.int .i64 t1, .int .i64 t2, .int .i64 tv]] w fun e w' => AnsV lo w R e w' := by
  subst hR
  cases cl
  rotate_left
  · exact l3Send_closed kap gb bc b gs sc s gr rc r t1 t2 tv lo w hlo hb hs hr hgg
  by_cases h0 : r.length = 0
  · by_cases hk : (b.length : Int) < kap
    · rw [sendI, if_neg (by simp), if_neg (by simp [h0]), if_pos hk]
      exact l3Send_buffer kap gb bc b gs sc s gr rc r t1 t2 tv lo w hlo hl hb hs hr hgg h0 hk
    · rw [sendI, if_neg (by simp), if_neg (by simp [h0]), if_neg hk]
      by_cases h40 : s.length = 40
      · rw [moreW, if_pos h40]
        exact l3Send_full kap gb bc b gs sc s gr rc r t1 t2 tv lo w hlo hb hs hr hgg h0 hk h40
      · rw [moreW, if_neg h40]
        exact l3Send_wait kap gb bc b gs sc s gr rc r t1 t2 tv lo w hlo hls hb hs hr hgg h0 hk h40
  · rw [sendI, if_neg (by simp), if_pos h0]
    exact l3Send_recv kap gb bc b gs sc s gr rc r t1 t2 tv lo w hlo hl hls hlr hb hs hr h0

set_option maxRecDepth 10000 in
set_option maxHeartbeats 16000000 in
theorem specSend_any (kap : Int) (cl : Bool) (bo : Option Addr) (bc : Nat) (b : List Int) (so : Option Addr) (sc : Nat) (s : List T3) (ro : Option Addr) (rc : Nat) (r : List T3) (t1 t2 tv : Int) (w : World) (hl : b.length ≤ 1048576) (hls : s.length ≤ 1048576) (hlr : r.length ≤ 1048576) (hz : ChanIn w.heap.size w bo b so s ro r) (hwf : Wf3 bo bc so sc ro rc) :
    Calls Try.prog 6 #[.agg #[.int .i64 kap, .bool cl, .slice bo b.length bc, .slice so s.length sc, .slice ro r.length rc], .agg #[.int .i64 t1, .int .i64 t2, .int .i64 tv]] w fun e w' => AnsU w (sendR kap cl b s r (t1, t2, tv)) e w' := by
  generalize hR : sendR kap cl b s r (t1, t2, tv) = R
  have HR : Hid (sendR kap cl b s r (t1, t2, tv) = R) := hR
  clear hR
  obtain ⟨W2, hW2⟩ : ∃ W2, W2 = ((w.alloc (.cells #[.int .i64 kap, .bool cl, .slice bo b.length bc, .slice so s.length sc, .slice ro r.length rc] 26)).alloc (.cells #[.int .i64 t1, .int .i64 t2, .int .i64 tv] 28)).alloc (.cells #[.int .i64 0, .bool false, .slice none 0 0, .slice none 0 0, .slice none 0 0] 26) := ⟨_, rfl⟩
  have hB2 : Below w.heap.size w W2 := by rw [hW2]; exact below3 _ _ _ _
  have A2 : BoxF5 W2 w.heap.size (.int .i64 kap) (.bool cl) (.slice bo b.length bc) (.slice so s.length sc) (.slice ro r.length rc) := by rw [hW2]; exact (BoxF5.new w _ _ _ _ _ _).later (below2 _ _ _)
  have R2 : BoxF5 W2 (w.heap.size + 1 + 1) (.int .i64 0) (.bool false) (.slice none 0 0) (.slice none 0 0) (.slice none 0 0) := by
    have h := BoxF5.new ((w.alloc (.cells #[.int .i64 kap, .bool cl, .slice bo b.length bc, .slice so s.length sc, .slice ro r.length rc] 26)).alloc (.cells #[.int .i64 t1, .int .i64 t2, .int .i64 tv] 28)) (.int .i64 0) (.bool false) (.slice none 0 0) (.slice none 0 0) (.slice none 0 0) 26
    rw [hW2]; simpa using h
  have T2 : Box3 W2 (w.heap.size + 1) (.int .i64 t1) (.int .i64 t2) (.int .i64 tv) := by
    have h := (Box3.new (w.alloc (.cells #[.int .i64 kap, .bool cl, .slice bo b.length bc, .slice so s.length sc, .slice ro r.length rc] 26)) (.int .i64 t1) (.int .i64 t2) (.int .i64 tv) 28).later (below1 _ (.cells #[.int .i64 0, .bool false, .slice none 0 0, .slice none 0 0, .slice none 0 0] 26))
    rw [hW2]; simpa using h
  have HW : Hid (W2 = ((w.alloc (.cells #[.int .i64 kap, .bool cl, .slice bo b.length bc, .slice so s.length sc, .slice ro r.length rc] 26)).alloc (.cells #[.int .i64 t1, .int .i64 t2, .int .i64 tv] 28)).alloc (.cells #[.int .i64 0, .bool false, .slice none 0 0, .slice none 0 0, .slice none 0 0] 26)) := hW2
  have HS : Hid (W2.heap.size = w.heap.size + 1 + 1 + 1) := by rw [hW2]; simp [Hid]
  clear hW2
  obtain ⟨⟨_, a0, a1, a2, a3, a4⟩, af0, af1, af2, af3, af4⟩ := id A2
  cases hg : goodC kap cl b s r
  · have HR2 : Hid (R = (0, false, [], [], [], [], 2)) := by rw [Hid, ← HR.out]; exact sendR_bad (by rw [hg]; rfl)
    have HG : Hid (goodC kap cl b s r = false) := hg
    clear hg HR
    go_enter Try.func6, Try.ntmps6
    go_wp2_with fail
    rw [← HW.out]
    refine (specGood_is kap cl bo bc b so sc s ro rc r W2 false (by omega) (by omega) (by omega) (hz.2.1.later hB2) (hz.2.2.later hB2) HG.out).mono ?_
    rintro e w3 ⟨rfl, hb3⟩
    have hB4 := hB2.trans (hb3.mono hB2.size)
    obtain ⟨⟨_, r0, r1, r2, r3, r4⟩, rf0, rf1, rf2, rf3, rf4⟩ := id (R2.later hb3)
    clear hb3 A2 R2 T2 a0 a1 a2 a3 a4 af0 af1 af2 af3 af4 HW
    go_wp2
    refine bodyPost_ret (v := .tuple #[.agg #[.int .i64 0, .bool false, .slice none 0 0, .slice none 0 0, .slice none 0 0], .slice none 0 0, .int .i64 2]) (by simp [results, Try.results6, go_sem, r0, r1, r2, r3, r4]) rfl ?_
    rw [HR2.out]
    exact AnsV.ansU (W := w) (ansV_q (q := w.heap.size + 1 + 1) (b := []) (s := []) (r := []) (k := []) hB4 (by omega) (freshCh_nil _ _ _) (freshK_nil _ _ _) ⟨fun _ => rfl, fun _ => rfl, fun _ => rfl⟩ _ _ _ _ _) (Below.refl _ _)
  have HG : Hid (goodC kap cl b s r = true) := hg
  clear hg
  cases ht : wtB (t1, t2, tv)
  · have HR2 : Hid (R = (0, false, [], [], [], [], 2)) := by rw [Hid, ← HR.out]; exact sendR_bad (by rw [ht, Bool.and_false])
    have HT : Hid (wtB (t1, t2, tv) = false) := ht
    clear ht HR
    go_enter Try.func6, Try.ntmps6
    go_wp2_with fail
    rw [← HW.out]
    refine (specGood_is kap cl bo bc b so sc s ro rc r W2 true (by omega) (by omega) (by omega) (hz.2.1.later hB2) (hz.2.2.later hB2) HG.out).mono ?_
    rintro e w3 ⟨rfl, hb3⟩
    have hB3 := hB2.trans (hb3.mono hB2.size)
    have A3 := A2.later hb3
    have R3 := R2.later hb3
    have T3x := T2.later hb3
    have HQ3 : Hid (w.heap.size + 1 + 1 + 1 ≤ w3.heap.size) := by have := hb3.size; rw [HS.out] at this; exact this
    obtain ⟨_, t0, t1', t2'⟩ := id T3x
    clear hb3 A2 R2 T2 a0 a1 a2 a3 a4 af0 af1 af2 af3 af4 HW HS
    go_wp2_with fail
    refine (l3Waiter_is t1 t2 tv _ false HT.out).mono ?_
    rintro e w4 ⟨rfl, hb4⟩
    have hB4 := hB3.trans (hb4.mono hB3.size)
    obtain ⟨⟨_, r0, r1, r2, r3, r4⟩, rf0, rf1, rf2, rf3, rf4⟩ := id (R3.later hb4)
    clear hb4 R3 t0 t1' t2'
    go_wp2
    refine bodyPost_ret (v := .tuple #[.agg #[.int .i64 0, .bool false, .slice none 0 0, .slice none 0 0, .slice none 0 0], .slice none 0 0, .int .i64 2]) (by simp [results, Try.results6, go_sem, r0, r1, r2, r3, r4]) rfl ?_
    rw [HR2.out]
    exact AnsV.ansU (W := w) (ansV_q (q := w.heap.size + 1 + 1) (b := []) (s := []) (r := []) (k := []) hB4 (by omega) (freshCh_nil _ _ _) (freshK_nil _ _ _) ⟨fun _ => rfl, fun _ => rfl, fun _ => rfl⟩ _ _ _ _ _) (Below.refl _ _)
  have HT : Hid (wtB (t1, t2, tv) = true) := ht
  clear ht
  have HRG : Hid ((goodC kap cl b s r && wtB (t1, t2, tv)) = true) := by rw [Hid, HG.out, HT.out]; rfl
  obtain ⟨hk0, hk10, hbk, hs40, hr40⟩ := goodC_len HG.out
  go_enter Try.func6, Try.ntmps6
  go_wp2_with fail
  rw [← HW.out]
  refine (specGood_is kap cl bo bc b so sc s ro rc r W2 true (by omega) (by omega) (by omega) (hz.2.1.later hB2) (hz.2.2.later hB2) HG.out).mono ?_
  rintro e w3 ⟨rfl, hb3⟩
  have hB3 := hB2.trans (hb3.mono hB2.size)
  have A3 := A2.later hb3
  have R3 := R2.later hb3
  have T3x := T2.later hb3
  have HQ3 : Hid (w.heap.size + 1 + 1 + 1 ≤ w3.heap.size) := by have := hb3.size; rw [HS.out] at this; exact this
  obtain ⟨_, t0, t1', t2'⟩ := id T3x
  clear hb3 A2 R2 T2 a0 a1 a2 a3 a4 af0 af1 af2 af3 af4 HW HS
  go_wp2_with fail
  refine (l3Waiter_is t1 t2 tv _ true HT.out).mono ?_
  rintro e w4 ⟨rfl, hb4⟩
  have hB4 := hB3.trans (hb4.mono hB3.size)
  have A4 := A3.later hb4
  have R4 := R3.later hb4
  have T4 := T3x.later hb4
  have HQ4 : Hid (w.heap.size + 1 + 1 + 1 ≤ w4.heap.size) := Nat.le_trans HQ3.out hb4.size
  clear hb4 A3 R3 T3x t0 t1' t2'
  obtain ⟨Rk, Rcl, Rb, Rs, Rr, Rw, Rc⟩ := R
  have HI : Hid (sendI kap cl b s r (t1, t2, tv) = (Rk, Rcl, Rb, Rs, Rr, Rw, Rc)) := by rw [Hid, ← HR.out]; exact (sendR_good HRG.out).symm
  clear HR
  obtain ⟨⟨_, a0, a1, a2, a3, a4⟩, af0, af1, af2, af3, af4⟩ := id A4
  obtain ⟨_, t0, t1', t2'⟩ := id T4
  go_wp2
  go_region_held3 (fun Y => Y.cell? ⟨w.heap.size, 0, none⟩ = some (.int .i64 kap) ∧ Y.cell? ⟨w.heap.size, 1, none⟩ = some (.bool cl) ∧ Y.cell? ⟨w.heap.size, 2, none⟩ = some (.slice bo b.length bc) ∧ Y.cell? ⟨w.heap.size, 3, none⟩ = some (.slice so s.length sc) ∧ Y.cell? ⟨w.heap.size, 4, none⟩ = some (.slice ro r.length rc) ∧ Y.cell? ⟨w.heap.size + 1, 0, none⟩ = some (.int .i64 t1) ∧ Y.cell? ⟨w.heap.size + 1, 1, none⟩ = some (.int .i64 t2) ∧ Y.cell? ⟨w.heap.size + 1, 2, none⟩ = some (.int .i64 tv))
    (first | (with_reducible exact P1) | (with_reducible exact P2) | ((refine ⟨?_, ?_, ?_, ?_, ?_, ?_, ?_, ?_⟩ <;> (rw [World.cell?_setCell_other _ _ _ _ (by simp), World.cell?_setCell_other _ _ _ _ (by simp), World.cell?_setCell_other _ _ _ _ (by simp), World.cell?_setCell_other _ _ _ _ (by simp), World.cell?_setCell_other _ _ _ _ (by simp)])); (with_reducible exact P2.1); (with_reducible exact P2.2.1); (with_reducible exact P2.2.2.1); (with_reducible exact P2.2.2.2.1); (with_reducible exact P2.2.2.2.2.1); (with_reducible exact P2.2.2.2.2.2.1); (with_reducible exact P2.2.2.2.2.2.2.1); (with_reducible exact P2.2.2.2.2.2.2.2)) | exact ⟨a0, a1, a2, a3, a4, t0, t1', t2'⟩)
    (first
      | (go_at_call 23; refine (l3OwnS_any kap cl bo bc b so sc s ro rc r w4.drew hl hls hlr (by exact hz.later hB4.drew) hwf).mono ?_; rintro e w5 ⟨⟨gb5, bc5, gs5, sc5, gr5, rc5, rfl, F1, F2, F3, hne⟩, hb5⟩; have hb45 : Below w4.heap.size w4 w5 := (Below.refl w4.heap.size w4).drew.trans hb5; have A5 := A4.later hb45; have T5 := T4.later hb45; have P1 := (⟨A5.1.2.1, A5.1.2.2.1, A5.1.2.2.2.1, A5.1.2.2.2.2.1, A5.1.2.2.2.2.2, T5.2.1, T5.2.2.1, T5.2.2.2⟩ : w5.cell? ⟨w.heap.size, 0, none⟩ = some (.int .i64 kap) ∧ w5.cell? ⟨w.heap.size, 1, none⟩ = some (.bool cl) ∧ w5.cell? ⟨w.heap.size, 2, none⟩ = some (.slice bo b.length bc) ∧ w5.cell? ⟨w.heap.size, 3, none⟩ = some (.slice so s.length sc) ∧ w5.cell? ⟨w.heap.size, 4, none⟩ = some (.slice ro r.length rc) ∧ w5.cell? ⟨w.heap.size + 1, 0, none⟩ = some (.int .i64 t1) ∧ w5.cell? ⟨w.heap.size + 1, 1, none⟩ = some (.int .i64 t2) ∧ w5.cell? ⟨w.heap.size + 1, 2, none⟩ = some (.int .i64 tv)); have F5 : Hid (SI w4.heap.size w5.heap.size w5 gb5 bc5 b ∧ SC w4.heap.size w5.heap.size w5 gs5 sc5 s ∧ SC w4.heap.size w5.heap.size w5 gr5 rc5 r ∧ gs5 ≠ gr5) := ⟨F1, F2, F3, hne⟩; clear F1 F2 F3 hne hb5)
      | (go_at_call 22; refine ((l3Send_any kap cl gb5 bc5 b gs5 sc5 s gr5 rc5 r t1 t2 tv w4.heap.size w5 hb45.size hl hls hlr F5.out.1 F5.out.2.1 F5.out.2.2.1 F5.out.2.2.2 (by omega) _ HI.out).mono fun _ _ h => h.ansW).mono ?_; rintro e w6 ⟨⟨bo6, bc6, so6, sc6, ro6, rc6, ko6, kc6, rfl, hF6, hK6, hW6⟩, hb6⟩; have hb46 : Below w4.heap.size w4 w6 := hb45.trans hb6; have A6 := A4.later hb46; have T6 := T4.later hb46; have R6 := R4.later hb46; have P2 := (⟨A6.1.2.1, A6.1.2.2.1, A6.1.2.2.2.1, A6.1.2.2.2.2.1, A6.1.2.2.2.2.2, T6.2.1, T6.2.2.1, T6.2.2.2⟩ : w6.cell? ⟨w.heap.size, 0, none⟩ = some (.int .i64 kap) ∧ w6.cell? ⟨w.heap.size, 1, none⟩ = some (.bool cl) ∧ w6.cell? ⟨w.heap.size, 2, none⟩ = some (.slice bo b.length bc) ∧ w6.cell? ⟨w.heap.size, 3, none⟩ = some (.slice so s.length sc) ∧ w6.cell? ⟨w.heap.size, 4, none⟩ = some (.slice ro r.length rc) ∧ w6.cell? ⟨w.heap.size + 1, 0, none⟩ = some (.int .i64 t1) ∧ w6.cell? ⟨w.heap.size + 1, 1, none⟩ = some (.int .i64 t2) ∧ w6.cell? ⟨w.heap.size + 1, 2, none⟩ = some (.int .i64 tv)); have F6 : Hid (FreshCh (w.heap.size + 1 + 1 + 1) w6.heap.size w6 bo6 bc6 Rb so6 sc6 Rs ro6 rc6 Rr ∧ FreshK (w.heap.size + 1 + 1 + 1) w6.heap.size w6 ko6 kc6 Rw ∧ Wf3 bo6 bc6 so6 sc6 ro6 rc6) := ⟨hF6.wide HQ4.out (Nat.le_refl _), hK6.wide HQ4.out (Nat.le_refl _), hW6⟩; have B6 : Hid (Below w.heap.size w w6) := hB4.trans (hb46.mono hB4.size); clear hF6 hK6 hW6 hb6; obtain ⟨⟨_, r0, r1, r2, r3, r4⟩, rf0, rf1, rf2, rf3, rf4⟩ := id R6))
  all_goals
    go_wp2
    refine bodyPost_ret (v := .tuple #[.agg #[.int .i64 Rk, .bool Rcl, .slice bo6 Rb.length bc6, .slice so6 Rs.length sc6, .slice ro6 Rr.length rc6], .slice ko6 Rw.length kc6, .int .i64 Rc]) (by simp [results, Try.results6, go_sem, r0, r1, r2, r3, r4]) rfl ?_
    exact AnsV.ansU (W := w) (ansV_q (q := w.heap.size + 1 + 1) B6.out (by omega) F6.out.1 F6.out.2.1 F6.out.2.2 _ _ _ _ _) (Below.refl _ _)
end Go.Proofs.Ytdfmmidokfcjfaa.Old
