
/- Whether keepers are good: the specification. No conditions but those written. -/
import Derived.Test.YthhamfgclhiagaaKs
namespace Go.Proofs.Ythhamfgclhiagaa
open Go.RowKit

theorem upP_def (kd mr wi up ch : Int) (r : List Bool) (f : List Int) (ov : Bool) : upP (kd, mr, wi, up, ch, r, f, ov) = up := rfl
/-- Among those ahead none stands for the child, the first of all aside, which stands for none. -/
theorem place_tail {ps : List PKeeper} {u c : Int} {k : Nat} (hk : k ≤ ps.length) (hu : upP (el ps 0) = -1) (h0 : 0 ≤ u) (hno : ∀ j, j + 1 < k → hitP u c (el ps (j + 1)) = false) : placeP (ps.take k) u c = none := by
  refine placeP_no fun j hj => ?_
  have hj' : j < k := by simp at hj; omega
  rw [el_take hj']
  cases j with
  | zero => simp only [hitP, hu]; have : ((-1 : Int) == u) = false := by simp; omega
            rw [this]; rfl
  | succ j => exact hno j hj'
theorem place_some {ps : List PKeeper} {u c : Int} {k j : Nat} (hk : k ≤ ps.length) (hj : j < k) (h : hitP u c (el ps j) = true) : (placeP (ps.take k) u c).isNone = false := by
  cases hp : placeP (ps.take k) u c with
  | some _ => rfl
  | none =>
    rw [placeP, List.findIdx?_eq_none_iff] at hp
    have hjl : j < (ps.take k).length := by simp; omega
    have := hp _ (el_mem hjl)
    rw [el_take hj, h] at this
    cases this
set_option maxRecDepth 10000 in
set_option maxHeartbeats 16000000 in
theorem specGoodL_is (ao : Option Addr) (cap : Nat) (ts : List LKeeper) (w : World) (x : Bool) (hl : ts.length ≤ 1048576) (hcap : ts.length ≤ cap) (hle : ∀ a ∈ ts, (a.2.2.2.2.2.1).2.2.length ≤ 1048576 ∧ (a.2.2.2.2.2.2.1).2.2.length ≤ 1048576) (hz : DIn dKeeper w.heap.size w ao ts) (hx : goodL (ts.map valKeeper) = x) :
    Calls Try.prog 14 #[.slice ao ts.length cap] w fun e w' => e = .returned (.bool x) ∧ Below w.heap.size w w' := by
  have HX := hid hx
  have HZ := hid hz
  have HF := hid hle
  have HLM : Hid ((ts.map valKeeper).length = ts.length) := by simp [Hid]
  clear hx hz hle
  cases hn : (decide (1 ≤ (ts.length : Int)) && decide ((ts.length : Int) ≤ 8))
  · have HN := hid hn
    have HV : Hid (x = false) := by
      rw [Hid, ← HX.out, goodL, HLM.out]
      by_cases h1 : 1 ≤ ts.length
      · rw [decide_eq_false (show ¬ ts.length ≤ 8 by simp at hn; omega)]; simp
      · rw [decide_eq_false h1]; rfl
    clear hn
    go_enter Try.func14, Try.ntmps14
    go_wp2_with fail
    refine (l1In_is (ts.length : Int) 1 8 _ false HN.out).mono ?_
    rintro e w1 ⟨rfl, hw1⟩
    subst hw1
    go_wp2
    go_ret
    exact ⟨ret_bool HV.out.symm, Below.refl _ _⟩
  have HN := hid hn
  have h18 : 1 ≤ ts.length ∧ ts.length ≤ 8 := by simp at hn; omega
  clear hn
  obtain ⟨h1, h8⟩ := h18
  have hp0 : 0 < ts.length := by omega
  obtain ⟨b0, off, rfl, hb, hc⟩ := hKeeper_at HZ.out.1 hp0
  have HC := hid hc
  clear hc
  go_enter Try.func14, Try.ntmps14
  go_wp2_with fail
  refine (l1In_is (ts.length : Int) 1 8 _ true HN.out).mono ?_
  rintro e w1 ⟨rfl, hw1⟩
  subst hw1
  go_wp2
  go_loopw [13] (fun i wr => ∃ k : Nat, k ≤ ts.length ∧ i = .int .i64 k ∧ Below w1.heap.size w1 wr ∧ Hid (∀ j, j < k → okAt (ts.map valKeeper) j = true)) (fun i _ => ts.length - (intOf i).toNat)
  case atStart => exact ⟨0, Nat.zero_le _, rfl, Below.refl _ _, fun j hj => by omega⟩
  case round =>
    obtain ⟨k, hk, rfl, hB, hno⟩ := hrel
    by_cases hlt : k < ts.length
    · have hc := HC.out
      have d1 := (hB.cell (p := ⟨b0, off + k * 8, none⟩) hb).trans (hc k hlt).1
      have d2 := (hB.cell (p := ⟨b0, off + k * 8 + 1, none⟩) hb).trans (hc k hlt).2.1
      have d3 := (hB.cell (p := ⟨b0, off + k * 8 + 2, none⟩) hb).trans (hc k hlt).2.2.1
      have d4 := (hB.cell (p := ⟨b0, off + k * 8 + 3, none⟩) hb).trans (hc k hlt).2.2.2.1
      have d5 := (hB.cell (p := ⟨b0, off + k * 8 + 4, none⟩) hb).trans (hc k hlt).2.2.2.2.1
      have d6 := (hB.cell (p := ⟨b0, off + k * 8 + 5, none⟩) hb).trans (hc k hlt).2.2.2.2.2.1
      have d7 := (hB.cell (p := ⟨b0, off + k * 8 + 6, none⟩) hb).trans (hc k hlt).2.2.2.2.2.2.1
      have d8 := (hB.cell (p := ⟨b0, off + k * 8 + 7, none⟩) hb).trans (hc k hlt).2.2.2.2.2.2.2
      have hfk := HF.out _ (el_mem hlt)
      have hIk := HZ.out.2 k hlt
      have hev := el_map valKeeper hlt
      obtain ⟨⟨kd, mr, wi, up, ch, ⟨ro, rc, r⟩, ⟨fo, fc, f⟩, ov⟩, ey⟩ : ∃ v, v = el ts k := ⟨_, rfl⟩
      rw [← ey] at d1 d2 d3 d4 d5 d6 d7 d8 hev hfk hIk
      have HE : Hid (el (ts.map valKeeper) k = (kd, mr, wi, up, ch, r, f, ov)) := hev
      clear ey hev hc
      dsimp only at d1 d2 d3 d4 d5 d6 d7 d8 hfk
      obtain ⟨hlr, hlf⟩ := hfk
      obtain ⟨VW, hVW⟩ : ∃ VW, VW = wr.alloc (.cells #[.int .i64 kd, .int .i64 mr, .int .i64 wi, .int .i64 up, .int .i64 ch, .slice ro r.length rc, .slice fo f.length fc, .bool ov] 28) := ⟨_, rfl⟩
      obtain ⟨p, hp⟩ : ∃ p, p = wr.heap.size := ⟨_, rfl⟩
      have hbW : Below wr.heap.size wr VW := by rw [hVW]; exact below1 _ _
      have XW : Hid (Bx VW p [.int .i64 kd, .int .i64 mr, .int .i64 wi, .int .i64 up, .int .i64 ch, .slice ro r.length rc, .slice fo f.length fc, .bool ov]) := by rw [hVW, hp]; exact Bx.new [.int .i64 kd, .int .i64 mr, .int .i64 wi, .int .i64 up, .int .i64 ch, .slice ro r.length rc, .slice fo f.length fc, .bool ov] _ rfl
      have hBW := hB.trans (hbW.mono hB.size)
      have HI : Hid (InKeeper VW.heap.size VW ro r fo f) := InKeeper.up (InKeeper.below hIk hBW) hBW.size
      have HVW := hid hVW
      have HP := hid hp
      clear hbW hVW hIk hp
      cases hg : keeperB kd mr wi r f ov
      · have HG := hid hg
        have HV : Hid (x = false) := by rw [Hid, ← HX.out]; exact goodL_no (k := k) (by rw [HLM.out]; exact hlt) (okAt_bad (by rw [HE.out]; exact hg))
        clear hg
        go_wp2_with fail
        rw [← HVW.out, ← HP.out]
        refine (specGoodK_is kd mr wi up ch ov ro rc r fo fc f VW _ hlr hlf HI.out HG.out).mono ?_
        rintro e w2 ⟨rfl, hb2⟩
        have hB2 : Below w1.heap.size w1 w2 := hBW.trans (hb2.mono hBW.size)
        have X2 := hid (XW.out.later hb2)
        have y0 := X2.out.c 0 rfl; have y1 := X2.out.c 1 rfl; have y2 := X2.out.c 2 rfl; have y3 := X2.out.c 3 rfl; have y4 := X2.out.c 4 rfl; have y5 := X2.out.c 5 rfl; have y6 := X2.out.c 6 rfl; have y7 := X2.out.c 7 rfl
        clear hb2
        go_wp2
        go_ret
        exact ⟨ret_bool HV.out.symm, hB2⟩
      have HG := hid hg
      have HQ : Hid (goodP (el (ts.map valKeeper) k) = true) := by rw [Hid, HE.out]; exact hg
      clear hg
      go_wp2_with fail
      rw [← HVW.out, ← HP.out]
      refine (specGoodK_is kd mr wi up ch ov ro rc r fo fc f VW _ hlr hlf HI.out HG.out).mono ?_
      rintro e w2 ⟨rfl, hb2⟩
      have hB2 : Below w1.heap.size w1 w2 := hBW.trans (hb2.mono hBW.size)
      have X2 := hid (XW.out.later hb2)
      have y0 := X2.out.c 0 rfl; have y1 := X2.out.c 1 rfl; have y2 := X2.out.c 2 rfl; have y3 := X2.out.c 3 rfl; have y4 := X2.out.c 4 rfl; have y5 := X2.out.c 5 rfl; have y6 := X2.out.c 6 rfl; have y7 := X2.out.c 7 rfl
      clear d1 d2 d3 d4 d5 d6 d7 d8
      rcases Nat.eq_zero_or_pos k with hk0 | hk0
      · have hj0 : ((k : Int) == 0) = true := by simp; omega
        have HEz : Hid (upP (el (ts.map valKeeper) 0) = up) := by rw [Hid, ← hk0, HE.out]; rfl
        have HK0 := hid hk0
        clear hk0
        by_cases hu : up = -1
        · subst hu
          have HV : Hid (okAt (ts.map valKeeper) k = true) := by rw [Hid, HK0.out]; exact okAt_zero (by rw [← HK0.out]; exact HQ.out) HEz.out
          have HW : Hid ((decide (-1 ≤ (-1 : Int)) && decide ((-1 : Int) ≤ (k : Int) - 1)) = true) := by rw [Hid, HK0.out]; rfl
          clear hb2
          go_wp2_with fail
          refine (l1In_is (-1) (-1) ((k : Int) - 1) _ true HW.out).mono ?_
          rintro e w3 ⟨rfl, hw3⟩
          subst hw3
          go_wp2
          go_roundw
          case rel => exact ⟨k + 1, by omega, by go_num, hB2, fun j hj => by
            rcases Nat.lt_succ_iff_lt_or_eq.1 hj with h | rfl
            · exact hno.out j h
            · exact HV.out⟩
          case measure => simp [intOf]; omega
        · have hu1 : (up == -1) = false := by simpa using hu
          have HV : Hid (x = false) := by rw [Hid, ← HX.out]; exact goodL_no (k := k) (by rw [HLM.out]; exact hlt) (by rw [HK0.out]; exact okAt_up (by rw [HEz.out]; exact hu))
          clear hu
          clear hb2
          go_wp2
          go_ret
          exact ⟨ret_bool HV.out.symm, hB2⟩
      have hj0 : ((k : Int) == 0) = false := by simp; omega
      have HU : Hid (upP (el (ts.map valKeeper) 0) = -1) := by
        have := hno.out 0 hk0
        rw [Hid]
        by_cases h : upP (el (ts.map valKeeper) 0) = -1
        · exact h
        · rw [okAt_up h] at this; cases this
      have HO : Hid (okAt (ts.map valKeeper) k = standB ((ts.map valKeeper).take k) (kd, mr, wi, up, ch, r, f, ov)) := by rw [Hid, okAt_pos hk0 HQ.out, HE.out]
      have HKM : Hid (((ts.map valKeeper).take k).length = k) := by simp [Hid]; omega
      by_cases hu0 : up = -1
      · subst hu0
        have HV : Hid (x = false) := by
          rw [Hid, ← HX.out]; refine goodL_no (k := k) (by rw [HLM.out]; exact hlt) ?_
          rw [HO.out, standB_def]; rfl
        clear hb2
        go_wp2
        go_ret
        exact ⟨ret_bool HV.out.symm, hB2⟩
      have hu : (up == -1) = false := by simpa using hu0
      clear hu0
      cases hw : (decide (-1 ≤ up) && decide (up ≤ (k : Int) - 1))
      · have HW := hid hw
        have HV : Hid (x = false) := by
          rw [Hid, ← HX.out]; refine goodL_no (k := k) (by rw [HLM.out]; exact hlt) ?_
          rw [HO.out, standB_def, HKM.out]
          by_cases h3 : 0 ≤ up
          · rw [decide_eq_false (show ¬ up < (k : Int) by simp at hw; omega)]; simp
          · rw [decide_eq_false h3]; rfl
        clear hw
        clear hb2
        go_wp2_with fail
        refine (l1In_is up (-1) ((k : Int) - 1) _ false HW.out).mono ?_
        rintro e w3 ⟨rfl, hw3⟩
        subst hw3
        go_wp2
        go_ret
        exact ⟨ret_bool HV.out.symm, hB2⟩
      have HW := hid hw
      have hu0 : 0 ≤ up ∧ up < (k : Int) := by
        have h2 : up ≠ -1 := by simpa using hu
        simp at hw; omega
      clear hw
      obtain ⟨hua, hub⟩ := hu0
      obtain ⟨n, rfl⟩ : ∃ n : Nat, up = n := ⟨up.toNat, by omega⟩
      have hn : n < ts.length := by omega
      have HS : Hid (okAt (ts.map valKeeper) k = ((decide (0 ≤ ch) && decide (ch < ((runsP (el (ts.map valKeeper) n)).length : Int))) && ((el (runsP (el (ts.map valKeeper) n)) ch.toNat || ov) && (placeP ((ts.map valKeeper).take k) n ch).isNone))) := by
        rw [Hid, HO.out, standB_def, HKM.out, decide_eq_true hua, decide_eq_true hub]
        have e : ((n : Int)).toNat = n := by omega
        rw [e, el_take (by omega)]; rfl
      have z6 := (hBW.cell (p := ⟨b0, off + n * 8 + 5, none⟩) hb).trans (HC.out n hn).2.2.2.2.2.1
      have hIn := HZ.out.2 n hn
      have hln := (HF.out _ (el_mem hn)).1
      have hevn := el_map valKeeper hn
      obtain ⟨⟨kd', mr', wi', up', ch', ⟨ro', rc', r'⟩, ⟨fo', fc', f'⟩, ov'⟩, eyn⟩ : ∃ v, v = el ts n := ⟨_, rfl⟩
      rw [← eyn] at z6 hIn hln hevn
      dsimp only at z6 hln
      have HR : Hid (runsP (el (ts.map valKeeper) n) = r') := by rw [Hid, hevn]; rfl
      rw [HR.out] at HS
      have HIn : Hid (kB.In VW.heap.size VW ro' r') := (hIn.1.below hBW).up hBW.size
      clear eyn hevn hIn HO HKM HR
      have HSZ : Hid (b0 < VW.heap.size) := by have := hBW.size; simp only [Hid]; omega
      cases hd : (decide (0 ≤ ch) && decide (ch ≤ (r'.length : Int) - 1))
      · have HD := hid hd
        have HV : Hid (x = false) := by
          rw [Hid, ← HX.out]; refine goodL_no (k := k) (by rw [HLM.out]; exact hlt) ?_
          rw [HS.out]
          by_cases h3 : 0 ≤ ch
          · rw [decide_eq_false (show ¬ ch < (r'.length : Int) by simp at hd; omega)]; simp
          · rw [decide_eq_false h3]; rfl
        clear hd
        have zz6 := (hb2.cell (p := ⟨b0, off + n * 8 + 5, none⟩) HSZ.out).trans z6
        clear hb2
        go_wp2_with fail
        refine (l1In_is n (-1) ((k : Int) - 1) _ true HW.out).mono ?_
        rintro e w3 ⟨rfl, hw3⟩
        subst hw3
        go_wp2
        go_quiet (exact Calls.quiet_of_same (l1In_is ch 0 ((r'.length : Int) - 1) _ false HD.out))
        go_wp2
        go_ret
        exact ⟨ret_bool HV.out.symm, below_draws hB2 _⟩

      have HD := hid hd
      have hc0 : 0 ≤ ch ∧ ch < (r'.length : Int) := by simp at hd; omega
      clear hd
      obtain ⟨hca, hcb⟩ := hc0
      obtain ⟨m, rfl⟩ : ∃ m : Nat, ch = m := ⟨ch.toNat, by omega⟩
      have hm : m < r'.length := by omega
      obtain ⟨b1, off1, rfl, hb1, hc1⟩ := bools_at HIn.out hm
      have e1 := hc1 m hm
      obtain ⟨y, hy⟩ : ∃ y, y = el r' m := ⟨_, rfl⟩
      rw [← hy] at e1
      have HT : Hid (okAt (ts.map valKeeper) k = ((y || ov) && (placeP ((ts.map valKeeper).take k) n m).isNone)) := by
        rw [Hid, HS.out, decide_eq_true hca, decide_eq_true hcb, hy]; rfl
      clear HS hy hc1
      have e2 := (hb2.cell (p := ⟨b1, off1 + m, none⟩) hb1).trans e1
      have zz6 := (hb2.cell (p := ⟨b0, off + n * 8 + 5, none⟩) HSZ.out).trans z6
      clear hb2 e1 z6
      cases y
      · cases ov
        · have HV : Hid (x = false) := by rw [Hid, ← HX.out]; refine goodL_no (k := k) (by rw [HLM.out]; exact hlt) ?_; rw [HT.out]; rfl
          go_wp2_with fail
          refine (l1In_is n (-1) ((k : Int) - 1) _ true HW.out).mono ?_
          rintro e w3 ⟨rfl, hw3⟩
          subst hw3
          go_wp2
          go_quiet (exact Calls.quiet_of_same (l1In_is m 0 ((r'.length : Int) - 1) _ true HD.out))
          go_wp2
          go_ret
          exact ⟨ret_bool HV.out.symm, below_draws hB2 _⟩
        · have hkc : k ≤ cap := by omega
          have hc1 : 1 ≤ k := hk0
          have hcap1 : ¬ cap = 1 := by omega
          go_wp2_with fail
          refine (l1In_is n (-1) ((k : Int) - 1) _ true HW.out).mono ?_
          rintro e w3 ⟨rfl, hw3⟩
          subst hw3
          go_wp2
          go_quiet (exact Calls.quiet_of_same (l1In_is m 0 ((r'.length : Int) - 1) _ true HD.out))
          go_wp2
          go_loopw [73] (fun i wq => ∃ i' : Nat, i' ≤ k - 1 ∧ i = .int .i64 i' ∧ Below w3.heap.size w3 wq ∧ Hid (∀ j, j < i' → hitP n m (el (ts.map valKeeper) (j + 1)) = false)) (fun i _ => k - (intOf i).toNat)
          case atStart => exact ⟨0, Nat.zero_le _, rfl, below_draws (Below.refl _ _) _, fun j hj => by omega⟩
          case round =>
            obtain ⟨i, hi, rfl, hBi, hnoi⟩ := hrel
            by_cases hlti : i < k - 1
            · have hi1 : i + 1 < ts.length := by omega
              have hcI := HC.out (i + 1) hi1
              rw [show off + (i + 1) * 8 = off + 8 + i * 8 by omega] at hcI
              have hBB := hB2.trans (hBi.mono hB2.size)
              have q1 := (hBB.cell (p := ⟨b0, off + 8 + i * 8, none⟩) hb).trans hcI.1
              have q2 := (hBB.cell (p := ⟨b0, off + 8 + i * 8 + 1, none⟩) hb).trans hcI.2.1
              have q3 := (hBB.cell (p := ⟨b0, off + 8 + i * 8 + 2, none⟩) hb).trans hcI.2.2.1
              have q4 := (hBB.cell (p := ⟨b0, off + 8 + i * 8 + 3, none⟩) hb).trans hcI.2.2.2.1
              have q5 := (hBB.cell (p := ⟨b0, off + 8 + i * 8 + 4, none⟩) hb).trans hcI.2.2.2.2.1
              have q6 := (hBB.cell (p := ⟨b0, off + 8 + i * 8 + 5, none⟩) hb).trans hcI.2.2.2.2.2.1
              have q7 := (hBB.cell (p := ⟨b0, off + 8 + i * 8 + 6, none⟩) hb).trans hcI.2.2.2.2.2.2.1
              have q8 := (hBB.cell (p := ⟨b0, off + 8 + i * 8 + 7, none⟩) hb).trans hcI.2.2.2.2.2.2.2
              clear hcI hBB
              have hevi := el_map valKeeper hi1
              obtain ⟨⟨kI0, mI0, wI0, uI0, cI0, ⟨roI, rcI, rI⟩, ⟨foI, fcI, fI⟩, oI0⟩, eyi⟩ : ∃ v, v = el ts (i + 1) := ⟨_, rfl⟩
              rw [← eyi] at q1 q2 q3 q4 q5 q6 q7 q8 hevi
              have HEI : Hid (el (ts.map valKeeper) (i + 1) = (kI0, mI0, wI0, uI0, cI0, rI, fI, oI0)) := hevi
              clear eyi hevi
              dsimp only at q1 q2 q3 q4 q5 q6 q7 q8
              have hXI := X2.out.later hBi
              have g3 := hXI.c 3 rfl
              have g4 := hXI.c 4 rfl
              have gp := hXI.size
              clear hXI
              have hBj := hBi.trans ((below1 wr (.cells #[.int .i64 kI0, .int .i64 mI0, .int .i64 wI0, .int .i64 uI0, .int .i64 cI0, .slice roI rI.length rcI, .slice foI fI.length fcI, .bool oI0] 28)).mono hBi.size)
              cases hh1 : (uI0 == (n : Int))
              · have HN : Hid (hitP n m (el (ts.map valKeeper) (i + 1)) = false) := by rw [Hid, HEI.out]; simp only [hitP, upP, hh1]; rfl
                go_wp2
                go_roundw
                case rel => exact ⟨i + 1, by omega, by go_num, hBj, fun j hj => by
                  rcases Nat.lt_succ_iff_lt_or_eq.1 hj with h | rfl
                  · exact hnoi.out j h
                  · exact HN.out⟩
                case measure => simp [intOf]; omega
              cases hh2 : (cI0 == (m : Int))
              · have HN : Hid (hitP n m (el (ts.map valKeeper) (i + 1)) = false) := by rw [Hid, HEI.out]; simp only [hitP, upP, chP, hh1, hh2]; rfl
                go_wp2
                go_roundw
                case rel => exact ⟨i + 1, by omega, by go_num, hBj, fun j hj => by
                  rcases Nat.lt_succ_iff_lt_or_eq.1 hj with h | rfl
                  · exact hnoi.out j h
                  · exact HN.out⟩
                case measure => simp [intOf]; omega
              have HV : Hid (x = false) := by
                rw [Hid, ← HX.out]; refine goodL_no (k := k) (by rw [HLM.out]; exact hlt) ?_
                rw [HT.out, place_some (j := i + 1) (by rw [HLM.out]; omega) (by omega) (by rw [HEI.out]; simp only [hitP, upP, chP, hh1, hh2]; rfl)]; simp
              go_wp2
              go_ret
              exact ⟨ret_bool HV.out.symm, hB2.trans (hBj.mono hB2.size)⟩
            · obtain rfl : i = k - 1 := by omega
              have HV : Hid (okAt (ts.map valKeeper) k = true) := by
                rw [Hid, HT.out, place_tail (by rw [HLM.out]; omega) HU.out (by omega) (fun j hj => hnoi.out j (by omega))]; rfl
              have hBj := hB2.trans (hBi.mono hB2.size)
              go_wp2
              go_roundw
              case rel => exact ⟨k + 1, by omega, by go_num, hBj, fun j hj => by
                rcases Nat.lt_succ_iff_lt_or_eq.1 hj with h | rfl
                · exact hno.out j h
                · exact HV.out⟩
              case measure => simp [intOf]; omega
      · have hkc : k ≤ cap := by omega
        have hc1 : 1 ≤ k := hk0
        have hcap1 : ¬ cap = 1 := by omega
        go_wp2_with fail
        refine (l1In_is n (-1) ((k : Int) - 1) _ true HW.out).mono ?_
        rintro e w3 ⟨rfl, hw3⟩
        subst hw3
        go_wp2
        go_quiet (exact Calls.quiet_of_same (l1In_is m 0 ((r'.length : Int) - 1) _ true HD.out))
        go_wp2
        go_loopw [73] (fun i wq => ∃ i' : Nat, i' ≤ k - 1 ∧ i = .int .i64 i' ∧ Below w3.heap.size w3 wq ∧ Hid (∀ j, j < i' → hitP n m (el (ts.map valKeeper) (j + 1)) = false)) (fun i _ => k - (intOf i).toNat)
        case atStart => exact ⟨0, Nat.zero_le _, rfl, below_draws (Below.refl _ _) _, fun j hj => by omega⟩
        case round =>
          obtain ⟨i, hi, rfl, hBi, hnoi⟩ := hrel
          by_cases hlti : i < k - 1
          · have hi1 : i + 1 < ts.length := by omega
            have hcI := HC.out (i + 1) hi1
            rw [show off + (i + 1) * 8 = off + 8 + i * 8 by omega] at hcI
            have hBB := hB2.trans (hBi.mono hB2.size)
            have q1 := (hBB.cell (p := ⟨b0, off + 8 + i * 8, none⟩) hb).trans hcI.1
            have q2 := (hBB.cell (p := ⟨b0, off + 8 + i * 8 + 1, none⟩) hb).trans hcI.2.1
            have q3 := (hBB.cell (p := ⟨b0, off + 8 + i * 8 + 2, none⟩) hb).trans hcI.2.2.1
            have q4 := (hBB.cell (p := ⟨b0, off + 8 + i * 8 + 3, none⟩) hb).trans hcI.2.2.2.1
            have q5 := (hBB.cell (p := ⟨b0, off + 8 + i * 8 + 4, none⟩) hb).trans hcI.2.2.2.2.1
            have q6 := (hBB.cell (p := ⟨b0, off + 8 + i * 8 + 5, none⟩) hb).trans hcI.2.2.2.2.2.1
            have q7 := (hBB.cell (p := ⟨b0, off + 8 + i * 8 + 6, none⟩) hb).trans hcI.2.2.2.2.2.2.1
            have q8 := (hBB.cell (p := ⟨b0, off + 8 + i * 8 + 7, none⟩) hb).trans hcI.2.2.2.2.2.2.2
            clear hcI hBB
            have hevi := el_map valKeeper hi1
            obtain ⟨⟨kI0, mI0, wI0, uI0, cI0, ⟨roI, rcI, rI⟩, ⟨foI, fcI, fI⟩, oI0⟩, eyi⟩ : ∃ v, v = el ts (i + 1) := ⟨_, rfl⟩
            rw [← eyi] at q1 q2 q3 q4 q5 q6 q7 q8 hevi
            have HEI : Hid (el (ts.map valKeeper) (i + 1) = (kI0, mI0, wI0, uI0, cI0, rI, fI, oI0)) := hevi
            clear eyi hevi
            dsimp only at q1 q2 q3 q4 q5 q6 q7 q8
            have hXI := X2.out.later hBi
            have g3 := hXI.c 3 rfl
            have g4 := hXI.c 4 rfl
            have gp := hXI.size
            clear hXI
            have hBj := hBi.trans ((below1 wr (.cells #[.int .i64 kI0, .int .i64 mI0, .int .i64 wI0, .int .i64 uI0, .int .i64 cI0, .slice roI rI.length rcI, .slice foI fI.length fcI, .bool oI0] 28)).mono hBi.size)
            cases hh1 : (uI0 == (n : Int))
            · have HN : Hid (hitP n m (el (ts.map valKeeper) (i + 1)) = false) := by rw [Hid, HEI.out]; simp only [hitP, upP, hh1]; rfl
              go_wp2
              go_roundw
              case rel => exact ⟨i + 1, by omega, by go_num, hBj, fun j hj => by
                rcases Nat.lt_succ_iff_lt_or_eq.1 hj with h | rfl
                · exact hnoi.out j h
                · exact HN.out⟩
              case measure => simp [intOf]; omega
            cases hh2 : (cI0 == (m : Int))
            · have HN : Hid (hitP n m (el (ts.map valKeeper) (i + 1)) = false) := by rw [Hid, HEI.out]; simp only [hitP, upP, chP, hh1, hh2]; rfl
              go_wp2
              go_roundw
              case rel => exact ⟨i + 1, by omega, by go_num, hBj, fun j hj => by
                rcases Nat.lt_succ_iff_lt_or_eq.1 hj with h | rfl
                · exact hnoi.out j h
                · exact HN.out⟩
              case measure => simp [intOf]; omega
            have HV : Hid (x = false) := by
              rw [Hid, ← HX.out]; refine goodL_no (k := k) (by rw [HLM.out]; exact hlt) ?_
              rw [HT.out, place_some (j := i + 1) (by rw [HLM.out]; omega) (by omega) (by rw [HEI.out]; simp only [hitP, upP, chP, hh1, hh2]; rfl)]; simp
            go_wp2
            go_ret
            exact ⟨ret_bool HV.out.symm, hB2.trans (hBj.mono hB2.size)⟩
          · obtain rfl : i = k - 1 := by omega
            have HV : Hid (okAt (ts.map valKeeper) k = true) := by
              rw [Hid, HT.out, place_tail (by rw [HLM.out]; omega) HU.out (by omega) (fun j hj => hnoi.out j (by omega))]; rfl
            have hBj := hB2.trans (hBi.mono hB2.size)
            go_wp2
            go_roundw
            case rel => exact ⟨k + 1, by omega, by go_num, hBj, fun j hj => by
              rcases Nat.lt_succ_iff_lt_or_eq.1 hj with h | rfl
              · exact hno.out j h
              · exact HV.out⟩
            case measure => simp [intOf]; omega
    · obtain rfl : k = ts.length := by omega
      have HV : Hid (x = true) := by rw [Hid, ← HX.out]; exact goodL_yes (by rw [HLM.out]; omega) (by rw [HLM.out]; omega) (by rw [HLM.out]; exact hno.out)
      go_wp2
      go_ret
      exact ⟨ret_bool HV.out.symm, hB⟩
end Go.Proofs.Ythhamfgclhiagaa
