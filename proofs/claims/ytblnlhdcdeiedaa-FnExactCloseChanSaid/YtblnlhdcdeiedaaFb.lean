/- CloseChan: the program's. No conditions but those written. -/
import Derived.Test.YtblnlhdcdeiedaaFa
namespace Go.Proofs.Ytblnlhdcdeiedaa
open Go.RowKit

/-- CloseChan. -/
def closeR (kap : Int) (cl : Bool) (b : List Int) (s r : List T3) : Int × Bool × List Int × List T3 × List T3 × List T4 × Int :=
  if goodC kap cl b s r = true then (if cl = true then (kap, cl, b, s, r, [], 3) else (kap, true, b, [], [], wakeAll r ++ wakeAll s, 0)) else (0, false, [], [], [], [], 2)
theorem closeR_len (kap : Int) (cl : Bool) (b : List Int) (s r : List T3) (hl : b.length ≤ 1048576) (hls : s.length ≤ 1048576) (hlr : r.length ≤ 1048576) : (closeR kap cl b s r).2.2.1.length ≤ 1048576 ∧ (closeR kap cl b s r).2.2.2.1.length ≤ 1048576 ∧ (closeR kap cl b s r).2.2.2.2.1.length ≤ 1048576 ∧ (closeR kap cl b s r).2.2.2.2.2.1.length ≤ 1048576 := by
  unfold closeR
  split
  · rename_i h
    obtain ⟨_, _, _, h4, h5⟩ := goodC_len h
    split
    · exact ⟨hl, hls, hlr, by simp⟩
    · exact ⟨hl, by simp, by simp, by simp [wakeAll_len]; omega⟩
  · simp

set_option maxRecDepth 10000 in
set_option maxHeartbeats 16000000 in
theorem implClose_any (kap : Int) (cl : Bool) (bo : Option Addr) (bc : Nat) (b : List Int) (so : Option Addr) (sc : Nat) (s : List T3) (ro : Option Addr) (rc : Nat) (r : List T3) (w : World) (hl : b.length ≤ 1048576) (hls : s.length ≤ 1048576) (hlr : r.length ≤ 1048576) (hz : ChanIn w.heap.size w bo b so s ro r) :
    Calls Try.prog 35 #[.agg #[.int .i64 kap, .bool cl, .slice bo b.length bc, .slice so s.length sc, .slice ro r.length rc]] w fun e w' => AnsT w (closeR kap cl b s r) e w' := by
  generalize hR : closeR kap cl b s r = R
  have HR : Hid (closeR kap cl b s r = R) := hR
  clear hR
  obtain ⟨W2, hW2⟩ : ∃ W2, W2 = (w.alloc (.cells #[.int .i64 kap, .bool cl, .slice bo b.length bc, .slice so s.length sc, .slice ro r.length rc] 26)).alloc (.cells #[.int .i64 0, .bool false, .slice none 0 0, .slice none 0 0, .slice none 0 0] 26) := ⟨_, rfl⟩
  have hB2 : Below w.heap.size w W2 := by rw [hW2]; exact below2 _ _ _
  have A2 : BoxF5 W2 w.heap.size (.int .i64 kap) (.bool cl) (.slice bo b.length bc) (.slice so s.length sc) (.slice ro r.length rc) := by rw [hW2]; exact (BoxF5.new w _ _ _ _ _ _).later (below1 _ _)
  have R2 : BoxF5 W2 (w.heap.size + 1) (.int .i64 0) (.bool false) (.slice none 0 0) (.slice none 0 0) (.slice none 0 0) := by
    have h := BoxF5.new (w.alloc (.cells #[.int .i64 kap, .bool cl, .slice bo b.length bc, .slice so s.length sc, .slice ro r.length rc] 26)) (.int .i64 0) (.bool false) (.slice none 0 0) (.slice none 0 0) (.slice none 0 0) 26
    rw [hW2]; simpa using h
  have HW : Hid (W2 = (w.alloc (.cells #[.int .i64 kap, .bool cl, .slice bo b.length bc, .slice so s.length sc, .slice ro r.length rc] 26)).alloc (.cells #[.int .i64 0, .bool false, .slice none 0 0, .slice none 0 0, .slice none 0 0] 26)) := hW2
  have HS : Hid (W2.heap.size = w.heap.size + 1 + 1) := by rw [hW2]; simp [Hid]
  clear hW2
  obtain ⟨⟨_, a0, a1, a2, a3, a4⟩, af0, af1, af2, af3, af4⟩ := id A2
  cases hg : goodC kap cl b s r
  · have HR2 : Hid (R = (0, false, [], [], [], [], 2)) := by rw [Hid, ← HR.out, closeR, hg]; rfl
    have HG : Hid (goodC kap cl b s r = false) := hg
    clear hg HR
    go_enter Try.func35, Try.ntmps35
    go_wp2_with fail
    rw [← HW.out]
    refine (implGood_is kap cl bo bc b so sc s ro rc r W2 false (by omega) (by omega) (by omega) (hz.2.1.later hB2) (hz.2.2.later hB2) HG.out).mono ?_
    rintro e w3 ⟨rfl, hb3⟩
    have hB3 := hB2.trans (hb3.mono hB2.size)
    obtain ⟨⟨_, r0, r1, r2, r3, r4⟩, rf0, rf1, rf2, rf3, rf4⟩ := id (R2.later hb3)
    clear hb3 A2 R2 a0 a1 a2 a3 a4 af0 af1 af2 af3 af4 HW
    go_wp2
    refine bodyPost_ret (v := .tuple #[.agg #[.int .i64 0, .bool false, .slice none 0 0, .slice none 0 0, .slice none 0 0], .slice none 0 0, .int .i64 2]) (by simp [results, Try.results35, go_sem, r0, r1, r2, r3, r4]) rfl ?_
    rw [HR2.out]
    exact ansT_of (b := []) (s := []) (r := []) (k := []) hB3 (freshCh_nil _ _ _) (freshK_nil _ _ _) _ _ _ _ _
  have HG : Hid (goodC kap cl b s r = true) := hg
  clear hg
  go_enter Try.func35, Try.ntmps35
  go_wp2_with fail
  rw [← HW.out]
  refine (implGood_is kap cl bo bc b so sc s ro rc r W2 true (by omega) (by omega) (by omega) (hz.2.1.later hB2) (hz.2.2.later hB2) HG.out).mono ?_
  rintro e w3 ⟨rfl, hb3⟩
  have hB3 := hB2.trans (hb3.mono hB2.size)
  have A3 := A2.later hb3
  have R3 := R2.later hb3
  have HQ3 : Hid (w.heap.size + 1 + 1 ≤ w3.heap.size) := by have := hb3.size; rw [HS.out] at this; exact this
  clear hb3 A2 R2 a0 a1 a2 a3 a4 af0 af1 af2 af3 af4 HW HS
  obtain ⟨⟨_, a0, a1, a2, a3, a4⟩, af0, af1, af2, af3, af4⟩ := id A3
  obtain ⟨_, _, _, hs40, hr40⟩ := goodC_len HG.out
  cases cl
  · have HR2 : Hid (R = (kap, true, b, [], [], wakeAll r ++ wakeAll s, 0)) := by rw [Hid, ← HR.out, closeR, HG.out]; rfl
    clear HR
    have Z3 : Hid (TimersIn w3.heap.size w3 ro r ∧ TimersIn w3.heap.size w3 so s ∧ IntsIn w3.heap.size w3 bo b) := ⟨hz.2.2.later hB3, hz.2.1.later hB3, hz.1.later hB3⟩
    go_wp2
    go_loopw [5, 21] (fun z i wr => ∃ (j : Nat) (vz : Value), i = .int .i64 (j : Int) ∧ vz = z ∧ j ≤ r.length ∧ Hid (OwnK w3.heap.size wr vz (wakeAll (r.take j))) ∧ Below w3.heap.size w3 wr) (fun _ i _ => r.length - (intOf i).toNat)
    case atStart => exact ⟨0, .slice none 0 0, rfl, rfl, Nat.zero_le _, OwnK.nil _ _, Below.refl _ _⟩
    case round =>
      obtain ⟨j, vz, rfl, rfl, hj, hO, hB⟩ := hrel
      have hsB := hB.size
      by_cases hlt : j < r.length
      · obtain ⟨b', off, eao, hb, hc⟩ := Z3.out.1.pos hlt
        obtain ⟨c1, c2, c3⟩ := hc j hlt
        have d1 := (hB.cell (p := ⟨b', off + j * 3, none⟩) hb).trans c1
        have d2 := (hB.cell (p := ⟨b', off + j * 3 + 1, none⟩) hb).trans c2
        have d3 := (hB.cell (p := ⟨b', off + j * 3 + 2, none⟩) hb).trans c3
        have hsn := wakeAll_snoc hlt
        obtain ⟨⟨x1, x2, x3⟩, ex⟩ : ∃ x, x = t3 r j := ⟨_, rfl⟩
        rw [← ex] at d1 d2 d3 hsn
        have HSN : Hid (wakeAll (r.take (j + 1)) = wakeAll (r.take j) ++ [(x1, x2, 0, false)]) := by rw [Hid, hsn]
        have hil : (wakeAll (r.take j)).length ≤ 1048576 := by rw [wakeAll_len]; simp; omega
        clear ex c1 c2 c3 hc hsn
        dsimp only at d1 d2 d3
        have hji : (j : Int) < (r.length : Int) := by omega
        subst eao
        go_wp2_with fail
        refine (wake_any x1 x2 x3 0 false _).mono ?_
        rintro e wv ⟨rfl, hbv⟩
        have hBv : Below w3.heap.size w3 wv := hB.trans (((below1 wr _).trans (hbv.mono (by simp))).mono hsB)
        have hOv : Hid (OwnK w3.heap.size (wv.alloc (.cells #[.int .i64 x1, .int .i64 x2, .int .i64 0, .bool false] 35)) vz (wakeAll (r.take j))) := (hO.out.below ((below1 wr _).trans (hbv.mono (by simp)))).below (below1 _ _)
        have hBv' := hBv.alloc hBv.size (.cells #[.int .i64 x1, .int .i64 x2, .int .i64 0, .bool false] 35)
        clear hbv
        go_wp2_with (at_builtin; refine wpList_pushK (wv.alloc (.cells #[.int .i64 x1, .int .i64 x2, .int .i64 0, .bool false] 35)) rfl (.tmp 25) (.tmp 28) rfl w3.heap.size vz (wakeAll (r.take j)) rfl hOv.out hBv'.size hil wv.heap.size (x1, x2, 0, false) 1 rfl (by simp) (by simp) (by simp) (by simp) ?_; intro v5 w5 hO5 hB5; have HO5 : Hid (OwnK w3.heap.size w5 v5 (wakeAll (r.take (j + 1))) ∧ Below w3.heap.size w3 w5) := ⟨(by rw [HSN.out]; exact hO5), hBv'.trans hB5⟩; clear hO5 hB5)
        go_roundw
        case rel => exact ⟨j + 1, v5, by go_num, rfl, by omega, HO5.out.1, HO5.out.2⟩
        case measure => simp [intOf]; omega
      · obtain rfl : j = r.length := by omega
        rw [List.take_length] at hO
        have A4 := A3.later hB
        clear a0 a1 a2 a3 a4 af0 af1 af2 af3 af4
        obtain ⟨⟨_, a0, a1, a2, a3, a4⟩, af0, af1, af2, af3, af4⟩ := id A4
        obtain ⟨q, qc, rfl, _⟩ := hO.out.fresh
        go_wp2
        go_loopw [5, 34] (fun z i wr => ∃ (j : Nat) (vz : Value), i = .int .i64 (j : Int) ∧ vz = z ∧ j ≤ s.length ∧ Hid (OwnK w3.heap.size wr vz (wakeAll r ++ wakeAll (s.take j))) ∧ Below w3.heap.size w3 wr) (fun _ i _ => s.length - (intOf i).toNat)
        case atStart => exact ⟨0, _, rfl, rfl, Nat.zero_le _, by simpa [Hid, wakeAll] using hO.out, hB⟩
        case round =>
          clear hO hB hsB
          obtain ⟨j, vz, rfl, rfl, hj, hO, hB⟩ := hrel
          have hsB := hB.size
          by_cases hlt : j < s.length
          · obtain ⟨b', off, eao, hb, hc⟩ := Z3.out.2.1.pos hlt
            obtain ⟨c1, c2, c3⟩ := hc j hlt
            have d1 := (hB.cell (p := ⟨b', off + j * 3, none⟩) hb).trans c1
            have d2 := (hB.cell (p := ⟨b', off + j * 3 + 1, none⟩) hb).trans c2
            have d3 := (hB.cell (p := ⟨b', off + j * 3 + 2, none⟩) hb).trans c3
            have hsn := wakeAll_snoc hlt
            obtain ⟨⟨x1, x2, x3⟩, ex⟩ : ∃ x, x = t3 s j := ⟨_, rfl⟩
            rw [← ex] at d1 d2 d3 hsn
            have HSN : Hid (wakeAll r ++ wakeAll (s.take (j + 1)) = wakeAll r ++ wakeAll (s.take j) ++ [(x1, x2, 0, false)]) := by rw [Hid, hsn]; simp
            have hil : (wakeAll r ++ wakeAll (s.take j)).length ≤ 1048576 := by rw [List.length_append, wakeAll_len, wakeAll_len]; simp; omega
            clear ex c1 c2 c3 hc hsn
            dsimp only at d1 d2 d3
            have hji : (j : Int) < (s.length : Int) := by omega
            subst eao
            go_wp2_with fail
            refine (wake_any x1 x2 x3 0 false _).mono ?_
            rintro e wv ⟨rfl, hbv⟩
            have hBv : Below w3.heap.size w3 wv := hB.trans (((below1 wr _).trans (hbv.mono (by simp))).mono hsB)
            have hOv : Hid (OwnK w3.heap.size (wv.alloc (.cells #[.int .i64 x1, .int .i64 x2, .int .i64 0, .bool false] 35)) vz (wakeAll r ++ wakeAll (s.take j))) := (hO.out.below ((below1 wr _).trans (hbv.mono (by simp)))).below (below1 _ _)
            have hBv' := hBv.alloc hBv.size (.cells #[.int .i64 x1, .int .i64 x2, .int .i64 0, .bool false] 35)
            clear hbv
            go_wp2_with (at_builtin; refine wpList_pushK (wv.alloc (.cells #[.int .i64 x1, .int .i64 x2, .int .i64 0, .bool false] 35)) rfl (.tmp 38) (.tmp 41) rfl w3.heap.size vz (wakeAll r ++ wakeAll (s.take j)) rfl hOv.out hBv'.size hil wv.heap.size (x1, x2, 0, false) 1 rfl (by simp) (by simp) (by simp) (by simp) ?_; intro v5 w5 hO5 hB5; have HO5 : Hid (OwnK w3.heap.size w5 v5 (wakeAll r ++ wakeAll (s.take (j + 1))) ∧ Below w3.heap.size w3 w5) := ⟨(by rw [HSN.out]; exact hO5), hBv'.trans hB5⟩; clear hO5 hB5)
            go_roundw
            case rel => exact ⟨j + 1, v5, by go_num, rfl, by omega, HO5.out.1, HO5.out.2⟩
            case measure => simp [intOf]; omega
          · obtain rfl : j = s.length := by omega
            rw [List.take_length] at hO
            have A5 := A3.later hB
            have R5 := R3.later hB
            clear a0 a1 a2 a3 a4 af0 af1 af2 af3 af4 A4
            obtain ⟨⟨_, a0, a1, a2, a3, a4⟩, af0, af1, af2, af3, af4⟩ := id A5
            obtain ⟨ko, kc, rfl, hK⟩ := hO.out.fresh
            have HK : Hid (FreshK w3.heap.size wr.heap.size wr ko kc (wakeAll r ++ wakeAll s)) := hK
            have hBr := hB3.trans (hB.mono hB3.size)
            have ZB := Z3.out.2.2.later hB
            have hQ5 : w.heap.size + 1 + 1 ≤ wr.heap.size := Nat.le_trans HQ3.out hsB
            have HQ5 : Hid (w.heap.size + 1 + 1 ≤ wr.heap.size) := hQ5
            clear hK hO hB hsB hQ5
            obtain ⟨KL, hKL⟩ : ∃ KL, KL = wakeAll r ++ wakeAll s := ⟨_, rfl⟩
            rw [← hKL] at HK HR2 ⊢
            clear hKL
            go_wp2
            go_region_held3 (fun Y => Y.cell? ⟨w.heap.size, 0, none⟩ = some (.int .i64 kap) ∧ Y.cell? ⟨w.heap.size, 2, none⟩ = some (.slice bo b.length bc))
              (first | ((refine ⟨?_, ?_⟩ <;> (rw [World.cell?_setCell_other _ _ _ _ (by simp), World.cell?_setCell_other _ _ _ _ (by simp), World.cell?_setCell_other _ _ _ _ (by simp), World.cell?_setCell_other _ _ _ _ (by simp), World.cell?_setCell_other _ _ _ _ (by simp)])); exact P6.1; exact P6.2) | exact ⟨a0, a2⟩ | exact P6)
              (first
                | (go_at_call 72; refine (copyListI_any bo bc b _ hl (by exact ZB)).mono ?_; rintro e w6 ⟨⟨go6, rfl, hF6⟩, hb6⟩; have hb6' : Below wr.heap.size wr w6 := (Below.refl wr.heap.size wr).drew.trans hb6; have hB6 := hBr.trans (hb6'.mono hBr.size); have A6 := A5.later hb6'; have R6 := R5.later hb6'; have P6 := (⟨A6.1.2.1, A6.1.2.2.2.1⟩ : w6.cell? ⟨w.heap.size, 0, none⟩ = some (.int .i64 kap) ∧ w6.cell? ⟨w.heap.size, 2, none⟩ = some (.slice bo b.length bc)); obtain ⟨⟨_, r0, r1, r2, r3, r4⟩, f0, f1, f2, f3, f4⟩ := id R6; have F6 : Hid (FreshI wr.heap.size w6.heap.size w6 go6 b.length b ∧ FreshK w3.heap.size wr.heap.size w6 ko kc KL ∧ wr.heap.size ≤ w6.heap.size) := ⟨hF6, HK.out.later hb6', hb6'.size⟩; clear hF6 hb6 hb6'))
            all_goals
              go_wp2
              refine bodyPost_ret (v := .tuple #[.agg #[.int .i64 kap, .bool true, .slice go6 b.length b.length, .slice none 0 0, .slice none 0 0], .slice ko KL.length kc, .int .i64 0]) (by simp [results, Try.results35, go_sem, r0, r1, r2, r3, r4]) rfl ?_
              rw [HR2.out]
              exact ansT_of (s := []) (r := []) hB6 ⟨F6.out.1.wide HQ5.out (Nat.le_refl _), .inl rfl, .inl rfl, .inl rfl⟩ (F6.out.2.1.wide HQ3.out F6.out.2.2) _ _ _ _ _
  · have HR2 : Hid (R = (kap, true, b, s, r, [], 3)) := by rw [Hid, ← HR.out, closeR, HG.out]; rfl
    clear HR
    go_wp2_with fail
    refine (copyChan_any kap true bo bc b so sc s ro rc r w3 hl hls hlr (hz.later hB3)).mono ?_
    rintro e w4 ⟨⟨bo4, bc4, so4, sc4, ro4, rc4, rfl, hF4⟩, hb4⟩
    have hB4 := hB3.trans (hb4.mono hB3.size)
    obtain ⟨⟨_, r0, r1, r2, r3, r4⟩, rf0, rf1, rf2, rf3, rf4⟩ := id (R3.later hb4)
    have F4 : Hid (FreshCh (w.heap.size + 1 + 1) w4.heap.size w4 bo4 bc4 b so4 sc4 s ro4 rc4 r) := hF4.wide HQ3.out (Nat.le_refl _)
    clear hb4 hF4 A3 R3 a0 a1 a2 a3 a4 af0 af1 af2 af3 af4
    go_wp2
    refine bodyPost_ret (v := .tuple #[.agg #[.int .i64 kap, .bool true, .slice bo4 b.length bc4, .slice so4 s.length sc4, .slice ro4 r.length rc4], .slice none 0 0, .int .i64 3]) (by simp [results, Try.results35, go_sem, r0, r1, r2, r3, r4]) rfl ?_
    rw [HR2.out]
    exact ansT_of (k := []) hB4 F4.out (freshK_nil _ _ _) _ _ _ _ _
end Go.Proofs.Ytblnlhdcdeiedaa
