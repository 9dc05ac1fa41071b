
/- CloseChan: the specification's. No conditions but those written. -/
import Derived.Test.YtdfmmidokfcjfaaOFb
namespace Go.Proofs.Ytdfmmidokfcjfaa.Old
open Go.RowKit

theorem cell_new0 (V : World) (a b : Value) (t : TypeId) : (V.alloc (.cells #[a, b] t)).cell? ⟨V.heap.size, 0, none⟩ = some a := by simp
theorem cell_new1 (V : World) (a b : Value) (t : TypeId) : (V.alloc (.cells #[a, b] t)).cell? ⟨V.heap.size, 1, none⟩ = some b := by simp
/-- Those woken behind so many rows. -/
def accK (r s : List T3) : Nat → List T4
  | 0 => []
  | 1 => wakeAll r
  | _ => wakeAll r ++ wakeAll s

set_option maxRecDepth 10000 in
set_option maxHeartbeats 16000000 in
theorem specClose_any (kap : Int) (cl : Bool) (bo : Option Addr) (bc : Nat) (b : List Int) (so : Option Addr) (sc : Nat) (s : List T3) (ro : Option Addr) (rc : Nat) (r : List T3) (w : World) (hl : b.length ≤ 1048576) (hls : s.length ≤ 1048576) (hlr : r.length ≤ 1048576) (hz : ChanIn w.heap.size w bo b so s ro r) (hwf : Wf3 bo bc so sc ro rc) :
    Calls Try.prog 31 #[.agg #[.int .i64 kap, .bool cl, .slice bo b.length bc, .slice so s.length sc, .slice ro r.length rc]] w fun e w' => AnsU w (closeR kap cl b s r) e w' := by
  generalize hR : closeR kap cl b s r = R
  have HR : Hid (closeR kap cl b s r = R) := hR
  clear hR
  obtain ⟨W2, hW2⟩ : ∃ W2, W2 = (w.alloc (.cells #[.int .i64 kap, .bool cl, .slice bo b.length bc, .slice so s.length sc, .slice ro r.length rc] 26)).alloc (.cells #[.int .i64 0, .bool false, .slice none 0 0, .slice none 0 0, .slice none 0 0] 26) := ⟨_, rfl⟩
  have hB2 : Below w.heap.size w W2 := by rw [hW2]; exact below2 _ _ _
  have A2 : BoxF5 W2 w.heap.size (.int .i64 kap) (.bool cl) (.slice bo b.length bc) (.slice so s.length sc) (.slice ro r.length rc) := by rw [hW2]; exact (BoxF5.new w _ _ _ _ _ _).later (below1 _ _)
  have R2 : BoxF5 W2 (w.heap.size + 1) (.int .i64 0) (.bool false) (.slice none 0 0) (.slice none 0 0) (.slice none 0 0) := by
    have h := BoxF5.new (w.alloc (.cells #[.int .i64 kap, .bool cl, .slice bo b.length bc, .slice so s.length sc, .slice ro r.length rc] 26)) (.int .i64 0) (.bool false) (.slice none 0 0) (.slice none 0 0) (.slice none 0 0) 26
    rw [hW2]; simpa using h
  have HW : Hid (W2 = (w.alloc (.cells #[.int .i64 kap, .bool cl, .slice bo b.length bc, .slice so s.length sc, .slice ro r.length rc] 26)).alloc (.cells #[.int .i64 0, .bool false, .slice none 0 0, .slice none 0 0, .slice none 0 0] 26)) := hW2
  have HS : Hid (W2.heap.size = w.heap.size + 1 + 1) := by rw [hW2]; simp [Hid]
  clear hW2
  obtain ⟨⟨_, a0, a1, a2, a3, a4⟩, af0, af1, af2, af3, af4⟩ := id A2
  cases hg : goodC kap cl b s r
  · have HR2 : Hid (R = (0, false, [], [], [], [], 2)) := by rw [Hid, ← HR.out, closeR, hg]; rfl
    have HG : Hid (goodC kap cl b s r = false) := hg
    clear hg HR
    go_enter Try.func31, Try.ntmps31
    go_wp2_with fail
    rw [← HW.out]
    refine (specGood_is kap cl bo bc b so sc s ro rc r W2 false (by omega) (by omega) (by omega) (hz.2.1.later hB2) (hz.2.2.later hB2) HG.out).mono ?_
    rintro e w3 ⟨rfl, hb3⟩
    have hB3 := hB2.trans (hb3.mono hB2.size)
    obtain ⟨⟨_, r0, r1, r2, r3, r4⟩, rf0, rf1, rf2, rf3, rf4⟩ := id (R2.later hb3)
    clear hb3 A2 R2 a0 a1 a2 a3 a4 af0 af1 af2 af3 af4 HW
    go_wp2
    refine bodyPost_ret (v := .tuple #[.agg #[.int .i64 0, .bool false, .slice none 0 0, .slice none 0 0, .slice none 0 0], .slice none 0 0, .int .i64 2]) (by simp [results, Try.results31, go_sem, r0, r1, r2, r3, r4]) rfl ?_
    rw [HR2.out]
    exact ansU_of (b := []) (s := []) (r := []) (k := []) hB3 (freshCh_nil _ _ _) (freshK_nil _ _ _) ⟨fun _ => rfl, fun _ => rfl, fun _ => rfl⟩ _ _ _ _ _
  have HG : Hid (goodC kap cl b s r = true) := hg
  clear hg
  go_enter Try.func31, Try.ntmps31
  go_wp2_with fail
  rw [← HW.out]
  refine (specGood_is kap cl bo bc b so sc s ro rc r W2 true (by omega) (by omega) (by omega) (hz.2.1.later hB2) (hz.2.2.later hB2) HG.out).mono ?_
  rintro e w3 ⟨rfl, hb3⟩
  have hB3 := hB2.trans (hb3.mono hB2.size)
  have A3 := A2.later hb3
  have R3 := R2.later hb3
  have HQ3 : Hid (w.heap.size + 1 + 1 ≤ w3.heap.size) := by have := hb3.size; rw [HS.out] at this; exact this
  clear hb3 A2 R2 a0 a1 a2 a3 a4 af0 af1 af2 af3 af4 HW HS
  obtain ⟨⟨_, a0, a1, a2, a3, a4⟩, af0, af1, af2, af3, af4⟩ := id A3
  obtain ⟨_, _, _, hs40, hr40⟩ := goodC_len HG.out
  go_wp2_with fail
  refine (l3Own_any kap cl bo bc b so sc s ro rc r w3 hl hls hlr (hz.later hB3) hwf).mono ?_
  rintro e w4 ⟨⟨gb, bc4, gs, sc4, gr, rc4, rfl, hF4⟩, hb4⟩
  have hB4 := hB3.trans (hb4.mono hB3.size)
  have A4 := A3.later hb4
  have R4 := R3.later hb4
  have HQ4 : Hid (w.heap.size + 1 + 1 ≤ w4.heap.size ∧ w3.heap.size ≤ w4.heap.size) := ⟨Nat.le_trans HQ3.out hb4.size, hb4.size⟩
  have F4 : Hid (FreshCh w3.heap.size w4.heap.size w4 (some ⟨gb, 0, none⟩) bc4 b (some ⟨gs, 0, none⟩) sc4 s (some ⟨gr, 0, none⟩) rc4 r) := hF4
  clear hb4 hF4 A3 R3 a0 a1 a2 a3 a4 af0 af1 af2 af3 af4
  obtain ⟨⟨_, a0, a1, a2, a3, a4⟩, af0, af1, af2, af3, af4⟩ := id A4
  cases cl
  · have HR2 : Hid (R = (kap, true, b, [], [], wakeAll r ++ wakeAll s, 0)) := by rw [Hid, ← HR.out, closeR, HG.out]; rfl
    clear HR
    obtain ⟨U, hU⟩ : ∃ U, U = ((((((w4.setCell ⟨w.heap.size, 0, none⟩ (.int .i64 kap)).setCell ⟨w.heap.size, 1, none⟩ (.bool false)).setCell ⟨w.heap.size, 2, none⟩ (.slice (some ⟨gb, 0, none⟩) b.length bc4)).setCell ⟨w.heap.size, 3, none⟩ (.slice (some ⟨gs, 0, none⟩) s.length sc4)).setCell ⟨w.heap.size, 4, none⟩ (.slice (some ⟨gr, 0, none⟩) r.length rc4)).setCell ⟨w.heap.size, 1, none⟩ (.bool true)).alloc (.cells #[.slice (some ⟨gr, 0, none⟩) r.length rc4, .slice (some ⟨gs, 0, none⟩) s.length sc4] 24) := ⟨_, rfl⟩
    have A5 := ((((((A4.set0 (.int .i64 kap)).set1 (.bool false)).set2 (.slice (some ⟨gb, 0, none⟩) b.length bc4)).set3 (.slice (some ⟨gs, 0, none⟩) s.length sc4)).set4 (.slice (some ⟨gr, 0, none⟩) r.length rc4)).set1 (.bool true)).later (below1 _ (.cells #[.slice (some ⟨gr, 0, none⟩) r.length rc4, .slice (some ⟨gs, 0, none⟩) s.length sc4] 24))
    have R5 := (((((((R4.other ⟨w.heap.size, 0, none⟩ (by simp) (.int .i64 kap)).other ⟨w.heap.size, 1, none⟩ (by simp) (.bool false)).other ⟨w.heap.size, 2, none⟩ (by simp) (.slice (some ⟨gb, 0, none⟩) b.length bc4)).other ⟨w.heap.size, 3, none⟩ (by simp) (.slice (some ⟨gs, 0, none⟩) s.length sc4)).other ⟨w.heap.size, 4, none⟩ (by simp) (.slice (some ⟨gr, 0, none⟩) r.length rc4))).other ⟨w.heap.size, 1, none⟩ (by simp) (.bool true)).later (below1 _ (.cells #[.slice (some ⟨gr, 0, none⟩) r.length rc4, .slice (some ⟨gs, 0, none⟩) s.length sc4] 24))
    rw [← hU] at A5 R5
    have hBU : Below w.heap.size w U := by rw [hU]; exact ((((((hB4.setCell (p := ⟨w.heap.size, 0, none⟩) (Nat.le_refl _) _).setCell (p := ⟨w.heap.size, 1, none⟩) (Nat.le_refl _) _).setCell (p := ⟨w.heap.size, 2, none⟩) (Nat.le_refl _) _).setCell (p := ⟨w.heap.size, 3, none⟩) (Nat.le_refl _) _).setCell (p := ⟨w.heap.size, 4, none⟩) (Nat.le_refl _) _).setCell (p := ⟨w.heap.size, 1, none⟩) (Nat.le_refl _) _).alloc (by have := HQ4.out.1; simp; omega) _
    have FU : Hid (FreshCh w3.heap.size w4.heap.size U (some ⟨gb, 0, none⟩) bc4 b (some ⟨gs, 0, none⟩) sc4 s (some ⟨gr, 0, none⟩) rc4 r) := by rw [hU]; exact ((((((F4.out.setBelow (a := ⟨w.heap.size, 0, none⟩) (by have := HQ3.out; simp; omega) _).setBelow (a := ⟨w.heap.size, 1, none⟩) (by have := HQ3.out; simp; omega) _).setBelow (a := ⟨w.heap.size, 2, none⟩) (by have := HQ3.out; simp; omega) _).setBelow (a := ⟨w.heap.size, 3, none⟩) (by have := HQ3.out; simp; omega) _).setBelow (a := ⟨w.heap.size, 4, none⟩) (by have := HQ3.out; simp; omega) _).setBelow (a := ⟨w.heap.size, 1, none⟩) (by have := HQ3.out; simp; omega) _).later (below1 _ _)
    have HSU : Hid (U.heap.size = w4.heap.size + 1) := by rw [hU]; simp [Hid]
    have u0 : U.cell? ⟨w4.heap.size, 0, none⟩ = some (.slice (some ⟨gr, 0, none⟩) r.length rc4) := by
      have h := cell_new0 ((((((w4.setCell ⟨w.heap.size, 0, none⟩ (.int .i64 kap)).setCell ⟨w.heap.size, 1, none⟩ (.bool false)).setCell ⟨w.heap.size, 2, none⟩ (.slice (some ⟨gb, 0, none⟩) b.length bc4)).setCell ⟨w.heap.size, 3, none⟩ (.slice (some ⟨gs, 0, none⟩) s.length sc4)).setCell ⟨w.heap.size, 4, none⟩ (.slice (some ⟨gr, 0, none⟩) r.length rc4)).setCell ⟨w.heap.size, 1, none⟩ (.bool true)) (.slice (some ⟨gr, 0, none⟩) r.length rc4) (.slice (some ⟨gs, 0, none⟩) s.length sc4) 24
      rw [show (((((((w4.setCell ⟨w.heap.size, 0, none⟩ (.int .i64 kap)).setCell ⟨w.heap.size, 1, none⟩ (.bool false)).setCell ⟨w.heap.size, 2, none⟩ (.slice (some ⟨gb, 0, none⟩) b.length bc4)).setCell ⟨w.heap.size, 3, none⟩ (.slice (some ⟨gs, 0, none⟩) s.length sc4)).setCell ⟨w.heap.size, 4, none⟩ (.slice (some ⟨gr, 0, none⟩) r.length rc4)).setCell ⟨w.heap.size, 1, none⟩ (.bool true)).heap.size) = w4.heap.size from by simp [World.setCell]] at h
      rw [hU]; exact h
    have u1 : U.cell? ⟨w4.heap.size, 1, none⟩ = some (.slice (some ⟨gs, 0, none⟩) s.length sc4) := by
      have h := cell_new1 ((((((w4.setCell ⟨w.heap.size, 0, none⟩ (.int .i64 kap)).setCell ⟨w.heap.size, 1, none⟩ (.bool false)).setCell ⟨w.heap.size, 2, none⟩ (.slice (some ⟨gb, 0, none⟩) b.length bc4)).setCell ⟨w.heap.size, 3, none⟩ (.slice (some ⟨gs, 0, none⟩) s.length sc4)).setCell ⟨w.heap.size, 4, none⟩ (.slice (some ⟨gr, 0, none⟩) r.length rc4)).setCell ⟨w.heap.size, 1, none⟩ (.bool true)) (.slice (some ⟨gr, 0, none⟩) r.length rc4) (.slice (some ⟨gs, 0, none⟩) s.length sc4) 24
      rw [show (((((((w4.setCell ⟨w.heap.size, 0, none⟩ (.int .i64 kap)).setCell ⟨w.heap.size, 1, none⟩ (.bool false)).setCell ⟨w.heap.size, 2, none⟩ (.slice (some ⟨gb, 0, none⟩) b.length bc4)).setCell ⟨w.heap.size, 3, none⟩ (.slice (some ⟨gs, 0, none⟩) s.length sc4)).setCell ⟨w.heap.size, 4, none⟩ (.slice (some ⟨gr, 0, none⟩) r.length rc4)).setCell ⟨w.heap.size, 1, none⟩ (.bool true)).heap.size) = w4.heap.size from by simp [World.setCell]] at h
      rw [hU]; exact h
    have hul : w4.heap.size < U.heap.size := by rw [HSU.out]; omega
    have ZU : Hid (TimersIn U.heap.size U (some ⟨gr, 0, none⟩) r ∧ TimersIn U.heap.size U (some ⟨gs, 0, none⟩) s) := ⟨FU.out.2.2.1.timers, FU.out.2.1.timers⟩
    have HU : Hid (U = ((((((w4.setCell ⟨w.heap.size, 0, none⟩ (.int .i64 kap)).setCell ⟨w.heap.size, 1, none⟩ (.bool false)).setCell ⟨w.heap.size, 2, none⟩ (.slice (some ⟨gb, 0, none⟩) b.length bc4)).setCell ⟨w.heap.size, 3, none⟩ (.slice (some ⟨gs, 0, none⟩) s.length sc4)).setCell ⟨w.heap.size, 4, none⟩ (.slice (some ⟨gr, 0, none⟩) r.length rc4)).setCell ⟨w.heap.size, 1, none⟩ (.bool true)).alloc (.cells #[.slice (some ⟨gr, 0, none⟩) r.length rc4, .slice (some ⟨gs, 0, none⟩) s.length sc4] 24)) := hU
    clear hU A4 R4 F4
    go_wp2
    rw [← HU.out]
    clear HU a0 a1 a2 a3 a4 af0 af1 af2 af3 af4
    go_loopw [5, 26] (fun z i wr => ∃ (i0 : Nat) (vz : Value), i = .int .i64 (i0 : Int) ∧ vz = z ∧ i0 ≤ 2 ∧ Hid (OwnK U.heap.size wr vz (accK r s i0)) ∧ Below U.heap.size U wr) (fun _ i _ => 2 - (intOf i).toNat)
    case atStart => exact ⟨0, .slice none 0 0, rfl, rfl, by omega, OwnK.nil _ _, Below.refl _ _⟩
    case round =>
      obtain ⟨i0, vo, rfl, rfl, hi0, hO0, hB0⟩ := hrel
      have e0 := (hB0.cell (p := ⟨w4.heap.size, 0, none⟩) hul).trans u0
      have e1 := (hB0.cell (p := ⟨w4.heap.size, 1, none⟩) hul).trans u1
      obtain ⟨vq, vc, hvo, _⟩ := hO0.out.fresh
      rcases (show i0 = 0 ∨ i0 = 1 ∨ i0 = 2 from by omega) with rfl | rfl | rfl
      · rw [show ((0 : Nat) : Int) = 0 from rfl]
        go_wp2
        go_loopw [5, 32] (fun z i wr => ∃ (j : Nat) (vz : Value), i = .int .i64 (j : Int) ∧ vz = z ∧ j ≤ r.length ∧ Hid (OwnK U.heap.size wr vz (wakeAll (r.take j))) ∧ Below U.heap.size U wr) (fun _ i _ => r.length - (intOf i).toNat)
        case atStart => exact ⟨0, vo, rfl, rfl, Nat.zero_le _, hO0.out, hB0⟩
        case round =>
          clear hO0 hvo
          obtain ⟨j, vz, rfl, rfl, hj, hO, hB⟩ := hrel
          have hsB := hB.size
          by_cases hlt : j < r.length
          · obtain ⟨b', off, eao, hb, hc⟩ := ZU.out.1.pos hlt
            obtain ⟨c1, c2, c3⟩ := hc j hlt
            have d1 := (hB.cell (p := ⟨b', off + j * 3, none⟩) hb).trans c1
            have d2 := (hB.cell (p := ⟨b', off + j * 3 + 1, none⟩) hb).trans c2
            have d3 := (hB.cell (p := ⟨b', off + j * 3 + 2, none⟩) hb).trans c3
            have hsn := wakeAll_snoc hlt
            obtain ⟨⟨x1, x2, x3⟩, ex⟩ : ∃ x, x = t3 r j := ⟨_, rfl⟩
            rw [← ex] at d1 d2 d3 hsn
            have HSN : Hid (wakeAll (r.take (j + 1)) = wakeAll (r.take j) ++ [(x1, x2, 0, false)]) := by rw [Hid, hsn]
            have hil : (wakeAll (r.take j)).length ≤ 1048576 := by rw [wakeAll_len]; simp; omega
            clear ex c1 c2 c3 hc hsn
            dsimp only at d1 d2 d3
            have hji : (j : Int) < (r.length : Int) := by omega
            cases eao
            simp only [Nat.zero_add] at d1 d2 d3
            have hB1 := hB.alloc hsB (.cells #[.int .i64 x1, .int .i64 x2, .int .i64 x3] 28)
            have hOv : Hid (OwnK U.heap.size ((wr.alloc (.cells #[.int .i64 x1, .int .i64 x2, .int .i64 x3] 28)).alloc (.cells #[.int .i64 x1, .int .i64 x2, .int .i64 0, .bool false] 35)) vz (wakeAll (r.take j))) := hO.out.below (below2 _ _ _)
            have hBv' := hB1.alloc hB1.size (.cells #[.int .i64 x1, .int .i64 x2, .int .i64 0, .bool false] 35)
            go_wp2_with (at_builtin; refine wpList_pushK ((wr.alloc (.cells #[.int .i64 x1, .int .i64 x2, .int .i64 x3] 28)).alloc (.cells #[.int .i64 x1, .int .i64 x2, .int .i64 0, .bool false] 35)) rfl (.tmp 36) (.tmp 42) rfl U.heap.size vz (wakeAll (r.take j)) rfl hOv.out hBv'.size hil (wr.heap.size + 1) (x1, x2, 0, false) 1 rfl (by simp) (by simp) (by simp) (by simp) ?_; intro v5 w5 hO5 hB5; have HO5 : Hid (OwnK U.heap.size w5 v5 (wakeAll (r.take (j + 1))) ∧ Below U.heap.size U w5) := ⟨(by rw [HSN.out]; exact hO5), hBv'.trans hB5⟩; clear hO5 hB5)
            go_roundw
            case rel => exact ⟨j + 1, v5, by go_num, rfl, by omega, HO5.out.1, HO5.out.2⟩
            case measure => simp [intOf]; omega
          · obtain rfl : j = r.length := by omega
            rw [List.take_length] at hO
            go_wp2
            go_roundw
            case rel => exact ⟨1, vz, by go_num, rfl, by omega, hO.out, hB⟩
            case measure => simp [intOf]
      · rw [show ((1 : Nat) : Int) = 1 from rfl]
        go_wp2
        go_loopw [5, 32] (fun z i wr => ∃ (j : Nat) (vz : Value), i = .int .i64 (j : Int) ∧ vz = z ∧ j ≤ s.length ∧ Hid (OwnK U.heap.size wr vz (wakeAll r ++ wakeAll (s.take j))) ∧ Below U.heap.size U wr) (fun _ i _ => s.length - (intOf i).toNat)
        case atStart => exact ⟨0, vo, rfl, rfl, Nat.zero_le _, by simpa [Hid, wakeAll, accK] using hO0.out, hB0⟩
        case round =>
          clear hO0 hvo
          obtain ⟨j, vz, rfl, rfl, hj, hO, hB⟩ := hrel
          have hsB := hB.size
          by_cases hlt : j < s.length
          · obtain ⟨b', off, eao, hb, hc⟩ := ZU.out.2.pos hlt
            obtain ⟨c1, c2, c3⟩ := hc j hlt
            have d1 := (hB.cell (p := ⟨b', off + j * 3, none⟩) hb).trans c1
            have d2 := (hB.cell (p := ⟨b', off + j * 3 + 1, none⟩) hb).trans c2
            have d3 := (hB.cell (p := ⟨b', off + j * 3 + 2, none⟩) hb).trans c3
            have hsn := wakeAll_snoc hlt
            obtain ⟨⟨x1, x2, x3⟩, ex⟩ : ∃ x, x = t3 s j := ⟨_, rfl⟩
            rw [← ex] at d1 d2 d3 hsn
            have HSN : Hid (wakeAll r ++ wakeAll (s.take (j + 1)) = wakeAll r ++ wakeAll (s.take j) ++ [(x1, x2, 0, false)]) := by rw [Hid, hsn]; simp
            have hil : (wakeAll r ++ wakeAll (s.take j)).length ≤ 1048576 := by rw [List.length_append, wakeAll_len, wakeAll_len]; simp; omega
            clear ex c1 c2 c3 hc hsn
            dsimp only at d1 d2 d3
            have hji : (j : Int) < (s.length : Int) := by omega
            cases eao
            simp only [Nat.zero_add] at d1 d2 d3
            have hB1 := hB.alloc hsB (.cells #[.int .i64 x1, .int .i64 x2, .int .i64 x3] 28)
            have hOv : Hid (OwnK U.heap.size ((wr.alloc (.cells #[.int .i64 x1, .int .i64 x2, .int .i64 x3] 28)).alloc (.cells #[.int .i64 x1, .int .i64 x2, .int .i64 0, .bool false] 35)) vz (wakeAll r ++ wakeAll (s.take j))) := hO.out.below (below2 _ _ _)
            have hBv' := hB1.alloc hB1.size (.cells #[.int .i64 x1, .int .i64 x2, .int .i64 0, .bool false] 35)
            go_wp2_with (at_builtin; refine wpList_pushK ((wr.alloc (.cells #[.int .i64 x1, .int .i64 x2, .int .i64 x3] 28)).alloc (.cells #[.int .i64 x1, .int .i64 x2, .int .i64 0, .bool false] 35)) rfl (.tmp 36) (.tmp 42) rfl U.heap.size vz (wakeAll r ++ wakeAll (s.take j)) rfl hOv.out hBv'.size hil (wr.heap.size + 1) (x1, x2, 0, false) 1 rfl (by simp) (by simp) (by simp) (by simp) ?_; intro v5 w5 hO5 hB5; have HO5 : Hid (OwnK U.heap.size w5 v5 (wakeAll r ++ wakeAll (s.take (j + 1))) ∧ Below U.heap.size U w5) := ⟨(by rw [HSN.out]; exact hO5), hBv'.trans hB5⟩; clear hO5 hB5)
            go_roundw
            case rel => exact ⟨j + 1, v5, by go_num, rfl, by omega, HO5.out.1, HO5.out.2⟩
            case measure => simp [intOf]; omega
          · obtain rfl : j = s.length := by omega
            rw [List.take_length] at hO
            go_wp2
            go_roundw
            case rel => exact ⟨2, vz, by go_num, rfl, by omega, hO.out, hB⟩
            case measure => simp [intOf]
      · rw [show ((2 : Nat) : Int) = 2 from rfl]
        have A6 := A5.later hB0
        have R6 := R5.later hB0
        have hBr := hBU.trans (hB0.mono hBU.size)
        obtain ⟨ko, kc, rfl, hK⟩ := hO0.out.fresh
        have q1 := HQ3.out
        have q2 := HQ4.out
        have q3 := HSU.out
        have q4 := hB0.size
        have FF : Hid (FreshI (w.heap.size + 1 + 1) wr.heap.size wr (some ⟨gb, 0, none⟩) bc4 b ∧ FreshK (w.heap.size + 1 + 1) wr.heap.size wr ko kc (wakeAll r ++ wakeAll s)) := ⟨(FU.out.1.later hB0).wide q1 (by omega), hK.wide (by omega) (Nat.le_refl _)⟩
        have HL : Hid ((accK r s 2).length = (wakeAll r ++ wakeAll s).length) := rfl
        rw [HL.out]
        clear hK hO0 hvo hB0 e0 e1 q1 q2 q3 q4 A5 R5
        obtain ⟨KL, hKL⟩ : ∃ KL, KL = wakeAll r ++ wakeAll s := ⟨_, rfl⟩
        rw [← hKL] at FF HR2 ⊢
        clear hKL
        have HB7 : Hid (Below w.heap.size w ((wr.setCell ⟨w.heap.size, 4, none⟩ (.slice none 0 0)).setCell ⟨w.heap.size, 3, none⟩ (.slice none 0 0))) := (hBr.setCell (p := ⟨w.heap.size, 4, none⟩) (Nat.le_refl _) _).setCell (p := ⟨w.heap.size, 3, none⟩) (Nat.le_refl _) _
        have F7 : Hid (FreshCh (w.heap.size + 1 + 1) wr.heap.size ((wr.setCell ⟨w.heap.size, 4, none⟩ (.slice none 0 0)).setCell ⟨w.heap.size, 3, none⟩ (.slice none 0 0)) (some ⟨gb, 0, none⟩) bc4 b none 0 [] none 0 [] ∧ FreshK (w.heap.size + 1 + 1) wr.heap.size ((wr.setCell ⟨w.heap.size, 4, none⟩ (.slice none 0 0)).setCell ⟨w.heap.size, 3, none⟩ (.slice none 0 0)) ko kc KL) :=
          ⟨⟨(FF.out.1.setBelow (a := ⟨w.heap.size, 4, none⟩) (by simp; omega) _).setBelow (a := ⟨w.heap.size, 3, none⟩) (by simp; omega) _, .inl ⟨rfl, rfl⟩, .inl ⟨rfl, rfl⟩, .inl ⟨rfl, rfl⟩⟩, (FF.out.2.setBelow (a := ⟨w.heap.size, 4, none⟩) (by simp; omega) _).setBelow (a := ⟨w.heap.size, 3, none⟩) (by simp; omega) _⟩
        obtain ⟨⟨_, a0, a1, a2, a3, a4⟩, af0, af1, af2, af3, af4⟩ := id A6
        obtain ⟨⟨_, r0, r1, r2, r3, r4⟩, rf0, rf1, rf2, rf3, rf4⟩ := id R6
        clear A6 R6 FF hBr
        go_wp2
        refine bodyPost_ret (v := .tuple #[.agg #[.int .i64 kap, .bool true, .slice (some ⟨gb, 0, none⟩) b.length bc4, .slice none 0 0, .slice none 0 0], .slice ko KL.length kc, .int .i64 0]) (by simp [results, Try.results31, go_sem, r0, r1, r2, r3, r4]) rfl ?_
        rw [HR2.out]
        exact ansU_of (s := []) (r := []) HB7.out (by simpa using F7.out.1) (by simpa using F7.out.2) ⟨by simp, fun _ => rfl, fun _ => rfl⟩ _ _ _ _ _
  · have HR2 : Hid (R = (kap, true, b, s, r, [], 3)) := by rw [Hid, ← HR.out, closeR, HG.out]; rfl
    clear HR
    obtain ⟨⟨_, r0, r1, r2, r3, r4⟩, rf0, rf1, rf2, rf3, rf4⟩ := id R4
    have A5 := (((((A4.set0 (.int .i64 kap)).set1 (.bool true)).set2 (.slice (some ⟨gb, 0, none⟩) b.length bc4)).set3 (.slice (some ⟨gs, 0, none⟩) s.length sc4)).set4 (.slice (some ⟨gr, 0, none⟩) r.length rc4))
    have R5 := (((((R4.other ⟨w.heap.size, 0, none⟩ (by simp) (.int .i64 kap)).other ⟨w.heap.size, 1, none⟩ (by simp) (.bool true)).other ⟨w.heap.size, 2, none⟩ (by simp) (.slice (some ⟨gb, 0, none⟩) b.length bc4)).other ⟨w.heap.size, 3, none⟩ (by simp) (.slice (some ⟨gs, 0, none⟩) s.length sc4)).other ⟨w.heap.size, 4, none⟩ (by simp) (.slice (some ⟨gr, 0, none⟩) r.length rc4))
    have hB5 : Below w.heap.size w (((((w4.setCell ⟨w.heap.size, 0, none⟩ (.int .i64 kap)).setCell ⟨w.heap.size, 1, none⟩ (.bool true)).setCell ⟨w.heap.size, 2, none⟩ (.slice (some ⟨gb, 0, none⟩) b.length bc4)).setCell ⟨w.heap.size, 3, none⟩ (.slice (some ⟨gs, 0, none⟩) s.length sc4)).setCell ⟨w.heap.size, 4, none⟩ (.slice (some ⟨gr, 0, none⟩) r.length rc4)) := (((((hB4.setCell (p := ⟨w.heap.size, 0, none⟩) (Nat.le_refl _) _).setCell (p := ⟨w.heap.size, 1, none⟩) (Nat.le_refl _) _).setCell (p := ⟨w.heap.size, 2, none⟩) (Nat.le_refl _) _).setCell (p := ⟨w.heap.size, 3, none⟩) (Nat.le_refl _) _).setCell (p := ⟨w.heap.size, 4, none⟩) (Nat.le_refl _) _)
    have F5 : Hid (FreshCh (w.heap.size + 1 + 1) w4.heap.size (((((w4.setCell ⟨w.heap.size, 0, none⟩ (.int .i64 kap)).setCell ⟨w.heap.size, 1, none⟩ (.bool true)).setCell ⟨w.heap.size, 2, none⟩ (.slice (some ⟨gb, 0, none⟩) b.length bc4)).setCell ⟨w.heap.size, 3, none⟩ (.slice (some ⟨gs, 0, none⟩) s.length sc4)).setCell ⟨w.heap.size, 4, none⟩ (.slice (some ⟨gr, 0, none⟩) r.length rc4)) (some ⟨gb, 0, none⟩) bc4 b (some ⟨gs, 0, none⟩) sc4 s (some ⟨gr, 0, none⟩) rc4 r) := ((((((F4.out.setBelow (a := ⟨w.heap.size, 0, none⟩) (by have := HQ3.out; simp; omega) _).setBelow (a := ⟨w.heap.size, 1, none⟩) (by have := HQ3.out; simp; omega) _).setBelow (a := ⟨w.heap.size, 2, none⟩) (by have := HQ3.out; simp; omega) _).setBelow (a := ⟨w.heap.size, 3, none⟩) (by have := HQ3.out; simp; omega) _).setBelow (a := ⟨w.heap.size, 4, none⟩) (by have := HQ3.out; simp; omega) _)).wide HQ3.out (Nat.le_refl _)
    have HB5 : Hid (Below w.heap.size w (((((w4.setCell ⟨w.heap.size, 0, none⟩ (.int .i64 kap)).setCell ⟨w.heap.size, 1, none⟩ (.bool true)).setCell ⟨w.heap.size, 2, none⟩ (.slice (some ⟨gb, 0, none⟩) b.length bc4)).setCell ⟨w.heap.size, 3, none⟩ (.slice (some ⟨gs, 0, none⟩) s.length sc4)).setCell ⟨w.heap.size, 4, none⟩ (.slice (some ⟨gr, 0, none⟩) r.length rc4))) := hB5
    clear A4 R4 F4 hB5
    go_wp2
    refine bodyPost_ret (v := .tuple #[.agg #[.int .i64 kap, .bool true, .slice (some ⟨gb, 0, none⟩) b.length bc4, .slice (some ⟨gs, 0, none⟩) s.length sc4, .slice (some ⟨gr, 0, none⟩) r.length rc4], .slice none 0 0, .int .i64 3]) (by simp [results, Try.results31, go_sem, r0, r1, r2, r3, r4]) rfl ?_
    rw [HR2.out]
    exact ansU_of (k := []) HB5.out (by simpa using F5.out) (freshK_nil _ _ _) ⟨by simp, by simp, by simp⟩ _ _ _ _ _
end Go.Proofs.Ytdfmmidokfcjfaa.Old
