
/- Whether keepers are good: the program. No conditions but those written. -/
import Derived.Test.YtbpacibfboldcaaDoorKr
namespace Go.Proofs.YtbpacibfboldcaaDoor
open Go.RowKit

/-- The keeper at a place is good and stands well. -/
def okAt (ps : List PKeeper) (k : Nat) : Bool := goodP (el ps k) && (if k = 0 then decide (upP (el ps 0) = -1) else standB (ps.take k) (el ps k))
/-- Keepers are good. -/
def goodL (ps : List PKeeper) : Bool := decide (1 ≤ ps.length) && (decide (ps.length ≤ 8) && (List.range ps.length).all (okAt ps))
theorem goodL_no {ps : List PKeeper} {k : Nat} (hk : k < ps.length) (h : okAt ps k = false) : goodL ps = false := by
  have : (List.range ps.length).all (okAt ps) = false := by rw [List.all_eq_false]; exact ⟨k, List.mem_range.2 hk, by simp [h]⟩
  rw [goodL, this]; simp
theorem goodL_yes {ps : List PKeeper} (h0 : 1 ≤ ps.length) (h1 : ps.length ≤ 8) (h : ∀ k, k < ps.length → okAt ps k = true) : goodL ps = true := by
  have : (List.range ps.length).all (okAt ps) = true := by rw [List.all_eq_true]; exact fun k hk => h k (List.mem_range.1 hk)
  rw [goodL, this]; simp [h0, h1]
theorem okAt_bad {ps : List PKeeper} {k : Nat} (h : goodP (el ps k) = false) : okAt ps k = false := by rw [okAt, h]; rfl
theorem okAt_zero {ps : List PKeeper} (h : goodP (el ps 0) = true) (hu : upP (el ps 0) = -1) : okAt ps 0 = true := by rw [okAt, h, if_pos rfl, hu]; rfl
theorem okAt_up {ps : List PKeeper} (hu : upP (el ps 0) ≠ -1) : okAt ps 0 = false := by rw [okAt, if_pos rfl, decide_eq_false hu]; simp
theorem okAt_pos {ps : List PKeeper} {k : Nat} (hk : 0 < k) (h : goodP (el ps k) = true) : okAt ps k = standB (ps.take k) (el ps k) := by rw [okAt, h, if_neg (by omega)]; rfl
theorem standsWell_len {ao : Option Addr} {cap n : Nat} {ts : List LKeeper} (hn : n = ts.length) (kd : Int) (mr : Int) (wi : Int) (up : Int) (ch : Int) (ov : Bool) (ro : Option Addr) (rc : Nat) (r : List (Bool)) (fo : Option Addr) (fc : Nat) (f : List (Int)) (w : World) (x : Bool) (hl : ts.length ≤ 1048576) (hle : ∀ a ∈ ts, (a.2.2.2.2.2.1).2.2.length ≤ 1048576) (hz : DIn dKeeper w.heap.size w ao ts) (hx : standB (ts.map valKeeper) (kd, mr, wi, up, ch, r, f, ov) = x) :
    Calls Tryd.prog 65 #[.slice ao n cap, .agg #[.int .i64 kd, .int .i64 mr, .int .i64 wi, .int .i64 up, .int .i64 ch, .slice ro r.length rc, .slice fo f.length fc, .bool ov]] w fun e w' => e = .returned (.bool x) ∧ Below w.heap.size w w' := by
  subst hn; exact standsWell_is ao cap ts kd mr wi up ch ov ro rc r fo fc f w x hl hle hz hx
set_option maxRecDepth 10000 in
set_option maxHeartbeats 8000000 in
theorem implGoodL_is (ao : Option Addr) (cap : Nat) (ts : List LKeeper) (w : World) (x : Bool) (hl : ts.length ≤ 1048576) (hcap : ts.length ≤ cap) (hle : ∀ a ∈ ts, (a.2.2.2.2.2.1).2.2.length ≤ 1048576 ∧ (a.2.2.2.2.2.2.1).2.2.length ≤ 1048576) (hz : DIn dKeeper w.heap.size w ao ts) (hx : goodL (ts.map valKeeper) = x) :
    Calls Tryd.prog 47 #[.slice ao ts.length cap] w fun e w' => e = .returned (.bool x) ∧ Below w.heap.size w w' := by
  have HX := hid hx
  have HZ := hid hz
  have HF := hid hle
  have HLM : Hid ((ts.map valKeeper).length = ts.length) := by simp [Hid]
  clear hx hz hle
  by_cases h0 : (ts.length : Int) < 1
  · have HV : Hid (x = false) := by rw [Hid, ← HX.out, goodL, HLM.out, decide_eq_false (show ¬ 1 ≤ ts.length by omega)]; rfl
    go_enter Tryd.func47, Tryd.ntmps47
    go_wp2
    go_ret
    exact ⟨ret_bool HV.out.symm, Below.refl _ _⟩
  by_cases h8 : (ts.length : Int) > 8
  · have HV : Hid (x = false) := by rw [Hid, ← HX.out, goodL, HLM.out, decide_eq_false (show ¬ ts.length ≤ 8 by omega)]; simp
    go_enter Tryd.func47, Tryd.ntmps47
    go_wp2
    go_ret
    exact ⟨ret_bool HV.out.symm, Below.refl _ _⟩
  have hp0 : 0 < ts.length := by omega
  obtain ⟨b0, off, rfl, hb, hc⟩ := hKeeper_at HZ.out.1 hp0
  have z4 := (hc 0 hp0).2.2.2.1
  have hev0 := el_map valKeeper hp0
  obtain ⟨⟨kd0, mr0, wi0, up0, r0⟩, ey0⟩ : ∃ v, v = el ts 0 := ⟨_, rfl⟩
  rw [← ey0] at z4 hev0
  dsimp only at z4
  have HU0 : Hid (upP (el (ts.map valKeeper) 0) = up0) := by rw [Hid, hev0]; rfl
  clear ey0 hev0
  simp only [Nat.zero_mul, Nat.add_zero] at z4
  rcases Bool.eq_false_or_eq_true (up0 != -1) with hu | hu
  · have HV : Hid (x = false) := by rw [Hid, ← HX.out]; exact goodL_no (k := 0) (by rw [HLM.out]; exact hp0) (okAt_up (by rw [HU0.out]; simpa using hu))
    clear hc
    go_enter Tryd.func47, Tryd.ntmps47
    go_wp2
    go_ret
    exact ⟨ret_bool HV.out.symm, Below.refl _ _⟩
  have HU : Hid (upP (el (ts.map valKeeper) 0) = -1) := by rw [Hid, HU0.out]; simpa using hu
  clear HU0
  go_enter Tryd.func47, Tryd.ntmps47
  go_wp2
  clear z4 hu
  go_loopw [22] (fun i wr => ∃ k : Nat, k ≤ ts.length ∧ i = .int .i64 k ∧ Below w.heap.size w wr ∧ Hid (∀ j, j < k → okAt (ts.map valKeeper) j = true)) (fun i _ => ts.length - (intOf i).toNat)
  case atStart => exact ⟨0, Nat.zero_le _, rfl, Below.refl _ _, fun j hj => by omega⟩
  case round =>
    obtain ⟨k, hk, rfl, hB, hno⟩ := hrel
    by_cases hlt : k < ts.length
    · have d1 := (hB.cell (p := ⟨b0, off + k * 8, none⟩) hb).trans (hc k hlt).1
      have d2 := (hB.cell (p := ⟨b0, off + k * 8 + 1, none⟩) hb).trans (hc k hlt).2.1
      have d3 := (hB.cell (p := ⟨b0, off + k * 8 + 2, none⟩) hb).trans (hc k hlt).2.2.1
      have d4 := (hB.cell (p := ⟨b0, off + k * 8 + 3, none⟩) hb).trans (hc k hlt).2.2.2.1
      have d5 := (hB.cell (p := ⟨b0, off + k * 8 + 4, none⟩) hb).trans (hc k hlt).2.2.2.2.1
      have d6 := (hB.cell (p := ⟨b0, off + k * 8 + 5, none⟩) hb).trans (hc k hlt).2.2.2.2.2.1
      have d7 := (hB.cell (p := ⟨b0, off + k * 8 + 6, none⟩) hb).trans (hc k hlt).2.2.2.2.2.2.1
      have d8 := (hB.cell (p := ⟨b0, off + k * 8 + 7, none⟩) hb).trans (hc k hlt).2.2.2.2.2.2.2
      have hfk := HF.out _ (el_mem hlt)
      have hIk := HZ.out.2 k hlt
      have hev := el_map valKeeper hlt
      obtain ⟨⟨kd, mr, wi, up, ch, ⟨ro, rc, r⟩, ⟨fo, fc, f⟩, ov⟩, ey⟩ : ∃ v, v = el ts k := ⟨_, rfl⟩
      rw [← ey] at d1 d2 d3 d4 d5 d6 d7 d8 hev hfk hIk
      have HE : Hid (el (ts.map valKeeper) k = (kd, mr, wi, up, ch, r, f, ov)) := hev
      clear ey hev hc
      dsimp only at d1 d2 d3 d4 d5 d6 d7 d8 hfk
      obtain ⟨hlr, hlf⟩ := hfk
      obtain ⟨VW, hVW⟩ : ∃ VW, VW = wr.alloc (.cells #[.int .i64 kd, .int .i64 mr, .int .i64 wi, .int .i64 up, .int .i64 ch, .slice ro r.length rc, .slice fo f.length fc, .bool ov] 27) := ⟨_, rfl⟩
      have hbW : Below wr.heap.size wr VW := by rw [hVW]; exact below1 _ _
      have XW : Hid (Bx VW wr.heap.size [.int .i64 kd, .int .i64 mr, .int .i64 wi, .int .i64 up, .int .i64 ch, .slice ro r.length rc, .slice fo f.length fc, .bool ov]) := by rw [hVW]; exact Bx.new [.int .i64 kd, .int .i64 mr, .int .i64 wi, .int .i64 up, .int .i64 ch, .slice ro r.length rc, .slice fo f.length fc, .bool ov] _ rfl
      have hBW := hB.trans (hbW.mono hB.size)
      have HI : Hid (∀ W : Later VW, InKeeper W.w.heap.size W.w ro r fo f) := fun W => InKeeper.later (InKeeper.up (InKeeper.below hIk hBW) hBW.size) W.h
      have HD : Hid (∀ W : Later VW, DIn dKeeper W.w.heap.size W.w (some ⟨b0, off, none⟩) (ts.take k)) := fun W => ((HZ.out.later dKeeper_ok hBW).later dKeeper_ok W.h).take k
      have HVW := hid hVW
      clear hbW hVW hIk
      have hNE := later_some VW
      have y0 := XW.out.at 0 rfl; have y1 := XW.out.at 1 rfl; have y2 := XW.out.at 2 rfl; have y3 := XW.out.at 3 rfl; have y4 := XW.out.at 4 rfl; have y5 := XW.out.at 5 rfl; have y6 := XW.out.at 6 rfl; have y7 := XW.out.at 7 rfl
      cases hg : keeperB kd mr wi r f ov
      · have HG := hid hg
        have HV : Hid (x = false) := by rw [Hid, ← HX.out]; exact goodL_no (k := k) (by rw [HLM.out]; exact hlt) (okAt_bad (by rw [HE.out]; exact hg))
        clear hg
        go_wp2_with fail
        rw [← HVW.out]
        refine wp_region_later VW (by kernel_rfl) (by kernel_rfl) (Below.refl _ _) ?_
        repeat (go_big_quiet_step (first
          | (go_at_call 31; exact Calls.later (implGoodK_is kd mr wi up ch ov ro rc r fo fc f _ _ hlr hlf (HI.out _) HG.out))))
        refine wpQuiet_nil ?_
        rintro w4 ⟨⟨w5, hb4⟩, hw5⟩
        obtain rfl : w4 = w5 := hw5
        clear y0 y1 y2 y3 y4 y5 y6 y7 hNE
        have hB4 : Below w.heap.size w w4 := hBW.trans (hb4.mono hBW.size)
        clear hb4
        go_wp2
        go_ret
        exact ⟨ret_bool HV.out.symm, hB4⟩
      have HG := hid hg
      have HP : Hid (goodP (el (ts.map valKeeper) k) = true) := by rw [Hid, HE.out]; exact hg
      clear hg
      rcases Nat.eq_zero_or_pos k with hk0 | hk0
      · have hj0 : decide (0 < k) = false := by simp; omega
        have HV : Hid (okAt (ts.map valKeeper) k = true) := by rw [Hid, hk0]; exact okAt_zero (by rw [← hk0]; exact HP.out) HU.out
        clear hk0
        go_wp2_with fail
        rw [← HVW.out]
        refine wp_region_later VW (by kernel_rfl) (by kernel_rfl) (Below.refl _ _) ?_
        repeat (go_big_quiet_step (first
          | (go_at_call 31; exact Calls.later (implGoodK_is kd mr wi up ch ov ro rc r fo fc f _ _ hlr hlf (HI.out _) HG.out))))
        refine wpQuiet_nil ?_
        rintro w4 ⟨⟨w5, hb4⟩, hw5⟩
        obtain rfl : w4 = w5 := hw5
        clear y0 y1 y2 y3 y4 y5 y6 y7 hNE
        have hB4 : Below w.heap.size w w4 := hBW.trans (hb4.mono hBW.size)
        clear hb4
        go_wp2
        go_roundw
        case rel => exact ⟨k + 1, by omega, by go_num, hB4, fun j hj => by
          rcases Nat.lt_succ_iff_lt_or_eq.1 hj with h | rfl
          · exact hno.out j h
          · exact HV.out⟩
        case measure => simp [intOf]; omega
      have HK : Hid (k = (ts.take k).length) := by simp [Hid]; omega
      have HKl : Hid ((ts.take k).length ≤ 1048576) := by simp [Hid]; omega
      have HKf : Hid (∀ a ∈ ts.take k, (a.2.2.2.2.2.1).2.2.length ≤ 1048576) := fun a ha => (HF.out a (List.mem_of_mem_take ha)).1
      have hj0 : decide (0 < k) = true := by simpa using hk0
      have hkc : k ≤ cap := by omega
      have HO : Hid (okAt (ts.map valKeeper) k = standB ((ts.take k).map valKeeper) (kd, mr, wi, up, ch, r, f, ov)) := by rw [Hid, okAt_pos hk0 HP.out, HE.out, List.map_take]
      cases hs : standB ((ts.take k).map valKeeper) (kd, mr, wi, up, ch, r, f, ov)
      · have HS := hid hs
        have HV : Hid (x = false) := by rw [Hid, ← HX.out]; exact goodL_no (k := k) (by rw [HLM.out]; exact hlt) (by rw [HO.out]; exact hs)
        clear hs
        go_wp2_with fail
        rw [← HVW.out]
        refine wp_region_later VW (by kernel_rfl) (by kernel_rfl) (Below.refl _ _) ?_
        repeat (go_big_quiet_step (first
          | (go_at_call 31; exact Calls.later (implGoodK_is kd mr wi up ch ov ro rc r fo fc f _ _ hlr hlf (HI.out _) HG.out))
          | (go_at_call 65; exact Calls.later (standsWell_len HK.out kd mr wi up ch ov ro rc r fo fc f _ _ HKl.out HKf.out (HD.out _) HS.out))))
        refine wpQuiet_nil ?_
        rintro w4 ⟨⟨w5, hb4⟩, hw5⟩
        obtain rfl : w4 = w5 := hw5
        clear y0 y1 y2 y3 y4 y5 y6 y7 hNE
        have hB4 : Below w.heap.size w w4 := hBW.trans (hb4.mono hBW.size)
        clear hb4
        go_wp2
        go_ret
        exact ⟨ret_bool HV.out.symm, hB4⟩
      · have HS := hid hs
        have HV : Hid (okAt (ts.map valKeeper) k = true) := by rw [Hid, HO.out]; exact hs
        clear hs
        go_wp2_with fail
        rw [← HVW.out]
        refine wp_region_later VW (by kernel_rfl) (by kernel_rfl) (Below.refl _ _) ?_
        repeat (go_big_quiet_step (first
          | (go_at_call 31; exact Calls.later (implGoodK_is kd mr wi up ch ov ro rc r fo fc f _ _ hlr hlf (HI.out _) HG.out))
          | (go_at_call 65; exact Calls.later (standsWell_len HK.out kd mr wi up ch ov ro rc r fo fc f _ _ HKl.out HKf.out (HD.out _) HS.out))))
        refine wpQuiet_nil ?_
        rintro w4 ⟨⟨w5, hb4⟩, hw5⟩
        obtain rfl : w4 = w5 := hw5
        clear y0 y1 y2 y3 y4 y5 y6 y7 hNE
        have hB4 : Below w.heap.size w w4 := hBW.trans (hb4.mono hBW.size)
        clear hb4
        go_wp2
        go_roundw
        case rel => exact ⟨k + 1, by omega, by go_num, hB4, fun j hj => by
          rcases Nat.lt_succ_iff_lt_or_eq.1 hj with h | rfl
          · exact hno.out j h
          · exact HV.out⟩
        case measure => simp [intOf]; omega
    · obtain rfl : k = ts.length := by omega
      have HV : Hid (x = true) := by rw [Hid, ← HX.out]; exact goodL_yes (by rw [HLM.out]; omega) (by rw [HLM.out]; omega) (by rw [HLM.out]; exact hno.out)
      go_wp2
      go_ret
      exact ⟨ret_bool HV.out.symm, hB⟩
end Go.Proofs.YtbpacibfboldcaaDoor
