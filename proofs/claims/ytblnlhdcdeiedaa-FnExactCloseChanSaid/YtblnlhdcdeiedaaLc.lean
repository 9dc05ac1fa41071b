/- The walk of the law: it returns true. No conditions but those written. -/
import Derived.Test.YtblnlhdcdeiedaaFc
namespace Go.Proofs.Ytblnlhdcdeiedaa
open Go.RowKit

set_option maxRecDepth 100000 in
set_option maxHeartbeats 16000000 in
theorem lawClose_any (kap : Int) (cl : Bool) (bo : Option Addr) (bc : Nat) (b : List Int) (so : Option Addr) (sc : Nat) (s : List T3) (ro : Option Addr) (rc : Nat) (r : List T3) (w : World) (hl : b.length ≤ 9223372036854775807) (hls : s.length ≤ 9223372036854775807) (hlr : r.length ≤ 9223372036854775807) (hz : ChanIn w.heap.size w bo b so s ro r) :
    Calls Try.prog 10 #[.agg #[.int .i64 kap, .bool cl, .slice bo b.length bc, .slice so s.length sc, .slice ro r.length rc]] w fun e w' => e = .returned (.bool true) ∧ Below w.heap.size w w' := by
  generalize hR : closeR kap cl b s r = R
  have HR : Hid (closeR kap cl b s r = R) := hR
  clear hR
  obtain ⟨Rk, Rcl, Rb, Rs, Rr, Rw, Rc⟩ := R
  go_enter Try.func10, Try.ntmps10
  go_wp2_with fail
  refine (szChan_any kap cl bo b.length bc so s.length sc ro r.length rc _ hl hls hlr).mono ?_
  rintro e w1 ⟨⟨z, rfl, hr⟩, hb1⟩
  have A1 := (Box5.new w (.int .i64 kap) (.bool cl) (.slice bo b.length bc) (.slice so s.length sc) (.slice ro r.length rc) 44).later hb1
  have hB1 := (below1 w (.cells #[.int .i64 kap, .bool cl, .slice bo b.length bc, .slice so s.length sc, .slice ro r.length rc] 44)).trans (hb1.mono (by simp))
  obtain ⟨_, a0, a1, a2, a3, a4⟩ := id A1
  clear hb1
  rcases hr with hr | ⟨hr0, k1, k2, k3⟩
  · go_wp2
    go_ret
    exact ⟨rfl, hB1⟩
  have hq := closeR_len kap cl b s r k1 k2 k3
  rw [HR.out] at hq
  dsimp only at hq
  have hce : (Rc != Rc) = false := by simp
  go_wp2_with fail
  refine (toChan_any kap cl bo bc b so sc s ro rc r _ k1 k2 k3 (hz.later hB1)).mono ?_
  rintro e w2 ⟨gb2, gs2, gr2, rfl, hF2, hb2⟩
  have hB2 := hB1.trans (hb2.mono hB1.size)
  have A2 := A1.later hb2
  have Z2 := show Hid _ from hF2.chan
  clear hb2 hF2 A1 a0 a1 a2 a3 a4
  obtain ⟨_, a0, a1, a2, a3, a4⟩ := id A2
  go_wp2_with fail
  refine (specClose_any kap cl (some ⟨gb2, 0, none⟩) b.length b (some ⟨gs2, 0, none⟩) s.length s (some ⟨gr2, 0, none⟩) r.length r w2 k1 k2 k3 Z2.out ⟨by simp, by simp, by simp⟩).mono ?_
  rintro e w3 ⟨⟨bo3, bc3, so3, sc3, ro3, rc3, ko3, kc3, rfl, hF3, hK3, _⟩, hb3⟩
  rw [HR.out] at hF3 hK3 ⊢
  dsimp only at hF3 hK3 ⊢
  have hs3 := hb3.size
  have hB3 := hB2.trans (hb3.mono hB2.size)
  have hn3 := below1 w3 (.cells #[.int .i64 Rk, .bool Rcl, .slice bo3 Rb.length bc3, .slice so3 Rs.length sc3, .slice ro3 Rr.length rc3] 26)
  have A3 := (A2.later hb3).later hn3
  have P3 := Box5.new w3 (.int .i64 Rk) (.bool Rcl) (.slice bo3 Rb.length bc3) (.slice so3 Rs.length sc3) (.slice ro3 Rr.length rc3) 26
  have hB3' := hB3.alloc hB3.size (.cells #[.int .i64 Rk, .bool Rcl, .slice bo3 Rb.length bc3, .slice so3 Rs.length sc3, .slice ro3 Rr.length rc3] 26)
  have F3 := show Hid (FreshCh w2.heap.size w3.heap.size (w3.alloc (.cells #[.int .i64 Rk, .bool Rcl, .slice bo3 Rb.length bc3, .slice so3 Rs.length sc3, .slice ro3 Rr.length rc3] 26)) bo3 bc3 Rb so3 sc3 Rs ro3 rc3 Rr ∧ FreshK w2.heap.size w3.heap.size (w3.alloc (.cells #[.int .i64 Rk, .bool Rcl, .slice bo3 Rb.length bc3, .slice so3 Rs.length sc3, .slice ro3 Rr.length rc3] 26)) ko3 kc3 Rw) from ⟨hF3.later hn3, hK3.later hn3⟩
  obtain ⟨_, c0, c1, c2, c3, c4⟩ := A2.later hb3
  clear hb3 hF3 hK3 A2 a0 a1 a2 a3 a4 Z2 hn3
  go_wp2_with fail
  refine (toChan_any kap cl bo bc b so sc s ro rc r _ k1 k2 k3 (hz.later hB3')).mono ?_
  rintro e w4 ⟨gb4, gs4, gr4, rfl, hF4, hb4⟩
  have hs4 := hb4.size
  simp only [World.size_alloc] at hs4 hF4
  have hB4 := hB3'.trans (hb4.mono hB3'.size)
  have hB4' := hB4.alloc hB4.size (.cells #[.int .i64 kap, .bool cl, .slice (some ⟨gb4, 0, none⟩) b.length b.length, .slice (some ⟨gs4, 0, none⟩) s.length s.length, .slice (some ⟨gr4, 0, none⟩) r.length r.length] 26)
  have hn4 := below1 w4 (.cells #[.int .i64 kap, .bool cl, .slice (some ⟨gb4, 0, none⟩) b.length b.length, .slice (some ⟨gs4, 0, none⟩) s.length s.length, .slice (some ⟨gr4, 0, none⟩) r.length r.length] 26)
  have A4 := (A3.later hb4).later hn4
  have P4 := (P3.later hb4).later hn4
  have X4 := Box5.new w4 (.int .i64 kap) (.bool cl) (.slice (some ⟨gb4, 0, none⟩) b.length b.length) (.slice (some ⟨gs4, 0, none⟩) s.length s.length) (.slice (some ⟨gr4, 0, none⟩) r.length r.length) 26
  have F4 := show Hid ((FreshCh w2.heap.size w3.heap.size (w4.alloc (.cells #[.int .i64 kap, .bool cl, .slice (some ⟨gb4, 0, none⟩) b.length b.length, .slice (some ⟨gs4, 0, none⟩) s.length s.length, .slice (some ⟨gr4, 0, none⟩) r.length r.length] 26)) bo3 bc3 Rb so3 sc3 Rs ro3 rc3 Rr ∧ FreshK w2.heap.size w3.heap.size (w4.alloc (.cells #[.int .i64 kap, .bool cl, .slice (some ⟨gb4, 0, none⟩) b.length b.length, .slice (some ⟨gs4, 0, none⟩) s.length s.length, .slice (some ⟨gr4, 0, none⟩) r.length r.length] 26)) ko3 kc3 Rw) ∧ FreshCh (w3.heap.size + 1) w4.heap.size (w4.alloc (.cells #[.int .i64 kap, .bool cl, .slice (some ⟨gb4, 0, none⟩) b.length b.length, .slice (some ⟨gs4, 0, none⟩) s.length s.length, .slice (some ⟨gr4, 0, none⟩) r.length r.length] 26)) (some ⟨gb4, 0, none⟩) b.length b (some ⟨gs4, 0, none⟩) s.length s (some ⟨gr4, 0, none⟩) r.length r) from
    ⟨⟨(F3.out.1.later hb4).later hn4, (F3.out.2.later hb4).later hn4⟩, hF4.later hn4⟩
  clear hb4 hF4 F3 A3 P3 c0 c1 c2 c3 c4 hn4
  have hlo : w.heap.size < w3.heap.size + 1 := by have := hB3.size; omega
  have hlo2 : w.heap.size < w4.heap.size + 1 := by have := hB4.size; omega
  go_wp2_with fail
  refine (implClose_any kap cl (some ⟨gb4, 0, none⟩) b.length b (some ⟨gs4, 0, none⟩) s.length s (some ⟨gr4, 0, none⟩) r.length r _ k1 k2 k3 F4.out.2.chan).mono ?_
  rintro e w5 ⟨⟨bo5, bc5, so5, sc5, ro5, rc5, ko5, kc5, rfl, hF5, hK5⟩, hb5⟩
  rw [HR.out] at hF5 hK5 ⊢
  dsimp only at hF5 hK5 ⊢
  have hs5 := hb5.size
  simp only [World.size_alloc] at hs5 hF5 hK5
  have hB5 := hB4'.trans (hb5.mono hB4'.size)
  obtain ⟨W5, hW5⟩ : ∃ W5, W5 = w5.alloc (.cells #[.int .i64 Rk, .bool Rcl, .slice bo5 Rb.length bc5, .slice so5 Rs.length sc5, .slice ro5 Rr.length rc5] 26) := ⟨_, rfl⟩
  have hbW : Below w5.heap.size w5 W5 := by rw [hW5]; exact below1 _ _
  have hsW : W5.heap.size = w5.heap.size + 1 := by rw [hW5]; simp
  have hBW := hB5.trans (hbW.mono hB5.size)
  have A5 := (A4.later hb5).later hbW
  have P5 := (P4.later hb5).later hbW
  have X5 := (X4.later hb5).later hbW
  obtain ⟨_, d0, d1, d2, d3, d4⟩ := P4.later hb5
  have G5 : Box5 W5 w5.heap.size (.int .i64 Rk) (.bool Rcl) (.slice bo5 Rb.length bc5) (.slice so5 Rs.length sc5) (.slice ro5 Rr.length rc5) := by rw [hW5]; exact Box5.new _ _ _ _ _ _ _
  have F5 := show Hid ((FreshCh w2.heap.size w3.heap.size W5 bo3 bc3 Rb so3 sc3 Rs ro3 rc3 Rr ∧ FreshK w2.heap.size w3.heap.size W5 ko3 kc3 Rw) ∧ FreshCh (w3.heap.size + 1) w4.heap.size W5 (some ⟨gb4, 0, none⟩) b.length b (some ⟨gs4, 0, none⟩) s.length s (some ⟨gr4, 0, none⟩) r.length r ∧ (FreshCh (w4.heap.size + 1) w5.heap.size W5 bo5 bc5 Rb so5 sc5 Rs ro5 rc5 Rr ∧ FreshK (w4.heap.size + 1) w5.heap.size W5 ko5 kc5 Rw)) from ⟨⟨(F4.out.1.1.later hb5).later hbW, (F4.out.1.2.later hb5).later hbW⟩, (F4.out.2.later hb5).later hbW, ⟨hF5.later hbW, hK5.later hbW⟩⟩
  have HW5 : Hid (W5 = w5.alloc (.cells #[.int .i64 Rk, .bool Rcl, .slice bo5 Rb.length bc5, .slice so5 Rs.length sc5, .slice ro5 Rr.length rc5] 26)) := hW5
  have l3 : w3.heap.size < w5.heap.size := (P4.later hb5).1
  clear hb5 hF5 hK5 F4 A4 P4 X4 hW5 hbW
  go_wp2_with fail
  rw [← HW5.out]
  refine (eqChan_same Rk Rcl bo5 bc5 Rb so5 sc5 Rs ro5 rc5 Rr bo3 bc3 so3 sc3 ro3 rc3 W5 hq.1 hq.2.1 hq.2.2.1 F5.out.2.2.1.chan F5.out.1.1.chan).mono ?_
  rintro e w6 ⟨rfl, hb6⟩
  clear d0 d1 d2 d3 d4 HW5 l3
  have F5b := show Hid ((FreshCh w2.heap.size w3.heap.size w6 bo3 bc3 Rb so3 sc3 Rs ro3 rc3 Rr ∧ FreshK w2.heap.size w3.heap.size w6 ko3 kc3 Rw) ∧ FreshCh (w3.heap.size + 1) w4.heap.size w6 (some ⟨gb4, 0, none⟩) b.length b (some ⟨gs4, 0, none⟩) s.length s (some ⟨gr4, 0, none⟩) r.length r ∧ (FreshCh (w4.heap.size + 1) w5.heap.size w6 bo5 bc5 Rb so5 sc5 Rs ro5 rc5 Rr ∧ FreshK (w4.heap.size + 1) w5.heap.size w6 ko5 kc5 Rw)) from ⟨⟨F5.out.1.1.later hb6, F5.out.1.2.later hb6⟩, F5.out.2.1.later hb6, ⟨F5.out.2.2.1.later hb6, F5.out.2.2.2.later hb6⟩⟩
  go_wp2_with fail
  refine (eqWokenS_same ko5 ko3 kc5 kc3 Rw w6 hq.2.2.2 F5b.out.2.2.2.wok F5b.out.1.2.wok).mono ?_
  rintro e w6b ⟨rfl, hb6b⟩
  have hbx : Below W5.heap.size W5 w6b := hb6.trans (hb6b.mono hb6.size)
  clear hb6 hb6b F5b
  have hB6 := hBW.trans (hbx.mono hBW.size)
  have A6 := A5.later hbx
  have P6 := P5.later hbx
  have X6 := X5.later hbx
  have G6 := G5.later hbx
  have F6 := show Hid ((FreshCh w2.heap.size w3.heap.size w6b bo3 bc3 Rb so3 sc3 Rs ro3 rc3 Rr ∧ FreshK w2.heap.size w3.heap.size w6b ko3 kc3 Rw) ∧ FreshCh (w3.heap.size + 1) w4.heap.size w6b (some ⟨gb4, 0, none⟩) b.length b (some ⟨gs4, 0, none⟩) s.length s (some ⟨gr4, 0, none⟩) r.length r ∧ (FreshCh (w4.heap.size + 1) w5.heap.size w6b bo5 bc5 Rb so5 sc5 Rs ro5 rc5 Rr ∧ FreshK (w4.heap.size + 1) w5.heap.size w6b ko5 kc5 Rw)) from ⟨⟨F5.out.1.1.later hbx, F5.out.1.2.later hbx⟩, F5.out.2.1.later hbx, ⟨F5.out.2.2.1.later hbx, F5.out.2.2.2.later hbx⟩⟩
  have hs6 := hbx.size
  obtain ⟨_, a0, a1, a2, a3, a4⟩ := id A6
  obtain ⟨_, x0, x1, x2, x3, x4⟩ := id X6
  clear hbx F5 A5 P5 X5 G5
  go_wp2
  go_region_with (first
    | (go_at_call 23; refine (toChan_any kap cl bo bc b so sc s ro rc r _ k1 k2 k3 (by exact hz.later hB6.drew)).mono ?_; rintro e w7 ⟨gb7, gs7, gr7, rfl, hF7, hb7⟩; have X7 : Box5 w7 w4.heap.size (.int .i64 kap) (.bool cl) (.slice (some ⟨gb4, 0, none⟩) b.length b.length) (.slice (some ⟨gs4, 0, none⟩) s.length s.length) (.slice (some ⟨gr4, 0, none⟩) r.length r.length) := Box5.later (W := w6b.drew) X6 hb7; obtain ⟨_, y0, y1, y2, y3, y4⟩ := id X7; have hb67 : Below w6b.heap.size w6b w7 := (Below.refl w6b.heap.size w6b).drew.trans hb7; have F7 : Hid (((FreshCh w2.heap.size w3.heap.size w7 bo3 bc3 Rb so3 sc3 Rs ro3 rc3 Rr ∧ FreshK w2.heap.size w3.heap.size w7 ko3 kc3 Rw) ∧ FreshCh (w3.heap.size + 1) w4.heap.size w7 (some ⟨gb4, 0, none⟩) b.length b (some ⟨gs4, 0, none⟩) s.length s (some ⟨gr4, 0, none⟩) r.length r ∧ (FreshCh (w4.heap.size + 1) w5.heap.size w7 bo5 bc5 Rb so5 sc5 Rs ro5 rc5 Rr ∧ FreshK (w4.heap.size + 1) w5.heap.size w7 ko5 kc5 Rw)) ∧ ChanIn w7.heap.size w7 (some ⟨gb7, 0, none⟩) b (some ⟨gs7, 0, none⟩) s (some ⟨gr7, 0, none⟩) r) := ⟨⟨⟨F6.out.1.1.later hb67, F6.out.1.2.later hb67⟩, F6.out.2.1.later hb67, ⟨F6.out.2.2.1.later hb67, F6.out.2.2.2.later hb67⟩⟩, hF7.chan⟩; clear hb7 hF7)
    | (go_at_call 18; refine (eqChan_same kap cl (some ⟨gb4, 0, none⟩) b.length b (some ⟨gs4, 0, none⟩) s.length s (some ⟨gr4, 0, none⟩) r.length r _ _ _ _ _ _ _ k1 k2 k3 (by exact F7.out.1.2.1.chan) (by exact F7.out.2)).mono ?_; rintro e w8 ⟨rfl, hb8⟩; have hb68 : Below w6b.heap.size w6b w8 := hb67.trans (hb8.mono hb67.size); have X8 := X6.later hb68; obtain ⟨_, z0, z1, z2, z3, z4⟩ := id X8; have F8 : Hid ((FreshCh w2.heap.size w3.heap.size w8 bo3 bc3 Rb so3 sc3 Rs ro3 rc3 Rr ∧ FreshK w2.heap.size w3.heap.size w8 ko3 kc3 Rw) ∧ FreshCh (w3.heap.size + 1) w4.heap.size w8 (some ⟨gb4, 0, none⟩) b.length b (some ⟨gs4, 0, none⟩) s.length s (some ⟨gr4, 0, none⟩) r.length r ∧ (FreshCh (w4.heap.size + 1) w5.heap.size w8 bo5 bc5 Rb so5 sc5 Rs ro5 rc5 Rr ∧ FreshK (w4.heap.size + 1) w5.heap.size w8 ko5 kc5 Rw)) := ⟨⟨F7.out.1.1.1.later hb8, F7.out.1.1.2.later hb8⟩, F7.out.1.2.1.later hb8, ⟨F7.out.1.2.2.1.later hb8, F7.out.1.2.2.2.later hb8⟩⟩; have hB8 : Below w.heap.size w w8 := hB6.trans (hb68.mono hB6.size); clear hb8))
  all_goals
    have A8 := A6.later hb68
    have P8 := P6.later hb68
    have G8 := G6.later hb68
    have hs8 := hb68.size
    clear F6 F7 A6 P6 X6 G6 hb68 hb67 y0 y1 y2 y3 y4 X7 a0 a1 a2 a3 a4 x0 x1 x2 x3 x4
    go_wp2_with fail
    refine (markChan_any (w3.heap.size + 1) w4.heap.size kap cl (some ⟨gb4, 0, none⟩) b.length b (some ⟨gs4, 0, none⟩) s.length s (some ⟨gr4, 0, none⟩) r.length r none 0 [] w8 k1 k2 k3 F8.out.2.1 (.inl rfl)).mono ?_
    rintro e w9 ⟨rfl, _, _, hb9⟩
    have hB9 := hB8.trans ((hb9.below (by omega)).mono (by omega))
    have A9 := A8.between hb9 (.inl (by omega))
    have P9 := P8.between hb9 (.inl (by omega))
    have G9 := G8.between hb9 (.inr (by omega))
    have F9 := show Hid ((FreshCh w2.heap.size w3.heap.size w9 bo3 bc3 Rb so3 sc3 Rs ro3 rc3 Rr ∧ FreshK w2.heap.size w3.heap.size w9 ko3 kc3 Rw) ∧ (FreshCh (w4.heap.size + 1) w5.heap.size w9 bo5 bc5 Rb so5 sc5 Rs ro5 rc5 Rr ∧ FreshK (w4.heap.size + 1) w5.heap.size w9 ko5 kc5 Rw)) from ⟨⟨F8.out.1.1.between' hb9 (by omega), F8.out.1.2.between' hb9 (by omega)⟩, ⟨F8.out.2.2.1.between' hb9 (by omega), F8.out.2.2.2.between' hb9 (by omega)⟩⟩
    have hs9 := hb9.size
    obtain ⟨_, p0, p1, p2, p3, p4⟩ := id P9
    obtain ⟨_, g0, g1, g2, g3, g4⟩ := id G9
    have hk0 : decide ((1 : Int) + (b.length : Int) + 3 * (s.length : Int) + 3 * (r.length : Int) < 0) = false := by simp; omega
    clear hb9 F8 A8 P8 G8 X8 z0 z1 z2 z3 z4
    go_wp2_with fail
    refine (eqChan_same Rk Rcl bo5 bc5 Rb so5 sc5 Rs ro5 rc5 Rr bo3 bc3 so3 sc3 ro3 rc3 w9 hq.1 hq.2.1 hq.2.2.1 F9.out.2.1.chan F9.out.1.1.chan).mono ?_
    rintro e w10 ⟨rfl, hb10⟩
    have F9b := show Hid ((FreshCh w2.heap.size w3.heap.size w10 bo3 bc3 Rb so3 sc3 Rs ro3 rc3 Rr ∧ FreshK w2.heap.size w3.heap.size w10 ko3 kc3 Rw) ∧ (FreshCh (w4.heap.size + 1) w5.heap.size w10 bo5 bc5 Rb so5 sc5 Rs ro5 rc5 Rr ∧ FreshK (w4.heap.size + 1) w5.heap.size w10 ko5 kc5 Rw)) from ⟨⟨F9.out.1.1.later hb10, F9.out.1.2.later hb10⟩, ⟨F9.out.2.1.later hb10, F9.out.2.2.later hb10⟩⟩
    clear p0 p1 p2 p3 p4 g0 g1 g2 g3 g4
    go_wp2_with fail
    refine (eqWokenS_same ko5 ko3 kc5 kc3 Rw w10 hq.2.2.2 F9b.out.2.2.wok F9b.out.1.2.wok).mono ?_
    rintro e w10b ⟨rfl, hb10b⟩
    have hby : Below w9.heap.size w9 w10b := hb10.trans (hb10b.mono hb10.size)
    clear hb10 hb10b F9b
    have hB10 := hB9.trans (hby.mono hB9.size)
    have A10 := A9.later hby
    have P10 := P9.later hby
    have G10 := G9.later hby
    have hs10 := hby.size
    have F10 := show Hid ((FreshCh w2.heap.size w3.heap.size w10b bo3 bc3 Rb so3 sc3 Rs ro3 rc3 Rr ∧ FreshK w2.heap.size w3.heap.size w10b ko3 kc3 Rw) ∧ (FreshCh (w4.heap.size + 1) w5.heap.size w10b bo5 bc5 Rb so5 sc5 Rs ro5 rc5 Rr ∧ FreshK (w4.heap.size + 1) w5.heap.size w10b ko5 kc5 Rw)) from ⟨⟨F9.out.1.1.later hby, F9.out.1.2.later hby⟩, ⟨F9.out.2.1.later hby, F9.out.2.2.later hby⟩⟩
    obtain ⟨_, g0, g1, g2, g3, g4⟩ := id G10
    clear hby F9 A9 P9 G9
    go_wp2_with fail
    refine (markChan_any (w4.heap.size + 1) w5.heap.size Rk Rcl bo5 bc5 Rb so5 sc5 Rs ro5 rc5 Rr ko5 kc5 Rw w10b hq.1 hq.2.1 hq.2.2.1 F10.out.2.1 F10.out.2.2).mono ?_
    rintro e w11 ⟨rfl, hT11, hK11, hb11⟩
    have F10b := show Hid ((FreshCh w2.heap.size w3.heap.size w11 bo3 bc3 Rb so3 sc3 Rs ro3 rc3 Rr ∧ FreshK w2.heap.size w3.heap.size w11 ko3 kc3 Rw) ∧ FreshCh (w4.heap.size + 1) w5.heap.size w11 bo5 bc5 (markI 1 Rb.length) so5 sc5 (markC (1 + Rb.length) Rs.length) ro5 rc5 (markC (1 + Rb.length + 3 * Rs.length) Rr.length) ∧ FreshK (w4.heap.size + 1) w5.heap.size w11 ko5 kc5 Rw) from ⟨⟨F10.out.1.1.between' hb11 (by omega), F10.out.1.2.between' hb11 (by omega)⟩, hT11, hK11⟩
    have hs11 := hb11.size
    clear g0 g1 g2 g3 g4 hT11 hK11
    go_wp2_with fail
    refine (markWokenS_any (w4.heap.size + 1) w5.heap.size ko5 kc5 Rw (1 + Rb.length + 3 * Rs.length + 3 * Rr.length) w11 (by omega) (by omega) (by omega) F10b.out.2.2).mono ?_
    rintro e w11b ⟨rfl, hK11, hO11⟩
    have hbn := F10b.out.2.2.between hO11
    have hbz : Between (w4.heap.size + 1) w5.heap.size w10b w11b := hb11.trans hbn
    have F11 := show Hid ((FreshCh w2.heap.size w3.heap.size w11b bo3 bc3 Rb so3 sc3 Rs ro3 rc3 Rr ∧ FreshK w2.heap.size w3.heap.size w11b ko3 kc3 Rw) ∧ (FreshCh (w4.heap.size + 1) w5.heap.size w11b bo5 bc5 (markI 1 Rb.length) so5 sc5 (markC (1 + Rb.length) Rs.length) ro5 rc5 (markC (1 + Rb.length + 3 * Rs.length) Rr.length) ∧ FreshK (w4.heap.size + 1) w5.heap.size w11b ko5 kc5 (markK (1 + Rb.length + 3 * Rs.length + 3 * Rr.length) Rw.length))) from ⟨⟨F10b.out.1.1.between' hbn (by omega), F10b.out.1.2.between' hbn (by omega)⟩, (F10b.out.2.1.offK F10b.out.2.2 hO11), hK11⟩
    clear hK11 hO11 hbn F10 F10b hs11
    have hB11 := hB10.trans ((hbz.below (by omega)).mono (by omega))
    have A11 := A10.between hbz (.inl (by omega))
    have P11 := P10.between hbz (.inl (by omega))
    have G11 := G10.between hbz (.inr (by omega))
    have hs11 := hbz.size
    obtain ⟨_, g0, g1, g2, g3, g4⟩ := id G11
    clear hbz hb11 A10 P10 G10
    go_wp2_with fail
    refine (heldChan_any Rk Rcl bo5 bc5 Rb.length so5 sc5 Rs.length ro5 rc5 Rr.length w11b hq.1 hq.2.1 hq.2.2.1 F11.out.2.1.chan).mono ?_
    rintro e w12 ⟨rfl, hb12⟩
    have hB12 := hB11.trans (hb12.mono hB11.size)
    have A12 := A11.later hb12
    have P12 := P11.later hb12
    have G12 := G11.later hb12
    have hs12 := hb12.size
    have F12 := show Hid ((FreshCh w2.heap.size w3.heap.size w12 bo3 bc3 Rb so3 sc3 Rs ro3 rc3 Rr ∧ FreshK w2.heap.size w3.heap.size w12 ko3 kc3 Rw) ∧ (FreshCh (w4.heap.size + 1) w5.heap.size w12 bo5 bc5 (markI 1 Rb.length) so5 sc5 (markC (1 + Rb.length) Rs.length) ro5 rc5 (markC (1 + Rb.length + 3 * Rs.length) Rr.length) ∧ FreshK (w4.heap.size + 1) w5.heap.size w12 ko5 kc5 (markK (1 + Rb.length + 3 * Rs.length + 3 * Rr.length) Rw.length))) from ⟨⟨F11.out.1.1.later hb12, F11.out.1.2.later hb12⟩, ⟨F11.out.2.1.later hb12, F11.out.2.2.later hb12⟩⟩
    have hm0 : decide ((1 : Int) + (Rb.length : Int) + 3 * (Rs.length : Int) + 3 * (Rr.length : Int) < 0) = false := by simp; omega
    clear hb12 F11 A11 P11 G11 g0 g1 g2 g3 g4
    have hm2 : decide ((1 : Int) + (Rb.length : Int) + 3 * (Rs.length : Int) + 3 * (Rr.length : Int) + 4 * (Rw.length : Int) < 0) = false := by simp; omega
    have hm1 : ((1 : Int) + (Rb.length : Int) + 3 * (Rs.length : Int) + 3 * (Rr.length : Int) + 4 * (Rw.length : Int) != (1 : Int) + (Rb.length : Int) + 3 * (Rs.length : Int) + 3 * (Rr.length : Int) + 4 * (Rw.length : Int)) = false := by simp
    go_wp2_with fail
    refine (heldWokenS_any ko5 kc5 Rw.length (1 + Rb.length + 3 * Rs.length + 3 * Rr.length) w12 (by omega) (by omega) (by omega) F12.out.2.2.wok).mono ?_
    rintro e w12 ⟨rfl, rfl⟩
    obtain ⟨_, a0, a1, a2, a3, a4⟩ := id A12
    go_wp2_with fail
    refine (toChan_any kap cl bo bc b so sc s ro rc r w12 k1 k2 k3 (hz.later hB12)).mono ?_
    rintro e w13 ⟨gb13, gs13, gr13, rfl, hF13, hb13⟩
    have hB13 := hB12.trans (hb13.mono hB12.size)
    have P13 := P12.later hb13
    have G13 := G12.later hb13
    have F13 := show Hid (((FreshCh w2.heap.size w3.heap.size w13 bo3 bc3 Rb so3 sc3 Rs ro3 rc3 Rr ∧ FreshK w2.heap.size w3.heap.size w13 ko3 kc3 Rw) ∧ (FreshCh (w4.heap.size + 1) w5.heap.size w13 bo5 bc5 (markI 1 Rb.length) so5 sc5 (markC (1 + Rb.length) Rs.length) ro5 rc5 (markC (1 + Rb.length + 3 * Rs.length) Rr.length) ∧ FreshK (w4.heap.size + 1) w5.heap.size w13 ko5 kc5 (markK (1 + Rb.length + 3 * Rs.length + 3 * Rr.length) Rw.length))) ∧ ChanIn w13.heap.size w13 (some ⟨gb13, 0, none⟩) b (some ⟨gs13, 0, none⟩) s (some ⟨gr13, 0, none⟩) r) from ⟨⟨⟨F12.out.1.1.later hb13, F12.out.1.2.later hb13⟩, ⟨F12.out.2.1.later hb13, F12.out.2.2.later hb13⟩⟩, hF13.chan⟩
    clear hb13 hF13 F12 A12 P12 G12 a0 a1 a2 a3 a4
    go_wp2_with fail
    refine (implClose_any kap cl (some ⟨gb13, 0, none⟩) b.length b (some ⟨gs13, 0, none⟩) s.length s (some ⟨gr13, 0, none⟩) r.length r w13 k1 k2 k3 F13.out.2).mono ?_
    rintro e w14 ⟨⟨bo14, bc14, so14, sc14, ro14, rc14, ko14, kc14, rfl, hF14, hK14⟩, hb14⟩
    rw [HR.out] at hF14 hK14 ⊢
    dsimp only at hF14 hK14 ⊢
    have hB14 := hB13.trans (hb14.mono hB13.size)
    have P14 := P13.later hb14
    have G14 := G13.later hb14
    have F14 := show Hid (((FreshCh w2.heap.size w3.heap.size w14 bo3 bc3 Rb so3 sc3 Rs ro3 rc3 Rr ∧ FreshK w2.heap.size w3.heap.size w14 ko3 kc3 Rw) ∧ (FreshCh (w4.heap.size + 1) w5.heap.size w14 bo5 bc5 (markI 1 Rb.length) so5 sc5 (markC (1 + Rb.length) Rs.length) ro5 rc5 (markC (1 + Rb.length + 3 * Rs.length) Rr.length) ∧ FreshK (w4.heap.size + 1) w5.heap.size w14 ko5 kc5 (markK (1 + Rb.length + 3 * Rs.length + 3 * Rr.length) Rw.length))) ∧ ChanIn w14.heap.size w14 bo14 Rb so14 Rs ro14 Rr ∧ WokIn w14.heap.size w14 ko14 Rw) from ⟨⟨⟨F13.out.1.1.1.later hb14, F13.out.1.1.2.later hb14⟩, ⟨F13.out.1.2.1.later hb14, F13.out.1.2.2.later hb14⟩⟩, ⟨hF14.chan, hK14.wok⟩⟩
    obtain ⟨_, p0, p1, p2, p3, p4⟩ := id P14
    clear hb14 hF14 hK14 F13 P13 G13
    have hn14 := below1 w14 (.cells #[.int .i64 Rk, .bool Rcl, .slice bo14 Rb.length bc14, .slice so14 Rs.length sc14, .slice ro14 Rr.length rc14] 26)
    go_wp2_with fail
    refine (eqChan_same Rk Rcl bo14 bc14 Rb so14 sc14 Rs ro14 rc14 Rr bo3 bc3 so3 sc3 ro3 rc3 _ hq.1 hq.2.1 hq.2.2.1 (F14.out.2.1.later hn14) (F14.out.1.1.1.chan.later hn14)).mono ?_
    rintro e w15 ⟨rfl, hb15⟩
    have hbv : Below w14.heap.size w14 w15 := hn14.trans (hb15.mono (by simp))
    clear p0 p1 p2 p3 p4 hb15
    have F14b := show Hid (WokIn w15.heap.size w15 ko14 Rw ∧ WokIn w15.heap.size w15 ko3 Rw) from ⟨F14.out.2.2.later hbv, F14.out.1.1.2.wok.later hbv⟩
    go_wp2_with fail
    refine (eqWokenS_same ko14 ko3 kc14 kc3 Rw w15 hq.2.2.2 F14b.out.1 F14b.out.2).mono ?_
    rintro e w15b ⟨rfl, hb15b⟩
    have hbu : Below w14.heap.size w14 w15b := hbv.trans (hb15b.mono hbv.size)
    clear hb15b F14b hbv
    have hB15 := hB14.trans (hbu.mono hB14.size)
    obtain ⟨_, g0, g1, g2, g3, g4⟩ := G14.later hbu
    have F15 := show Hid (FreshCh (w4.heap.size + 1) w5.heap.size w15b bo5 bc5 (markI 1 Rb.length) so5 sc5 (markC (1 + Rb.length) Rs.length) ro5 rc5 (markC (1 + Rb.length + 3 * Rs.length) Rr.length) ∧ FreshK (w4.heap.size + 1) w5.heap.size w15b ko5 kc5 (markK (1 + Rb.length + 3 * Rs.length + 3 * Rr.length) Rw.length)) from ⟨F14.out.1.2.1.later hbu, F14.out.1.2.2.later hbu⟩
    clear hbu F14 P14 G14 hn14
    go_wp2_with fail
    refine (heldChan_any Rk Rcl bo5 bc5 Rb.length so5 sc5 Rs.length ro5 rc5 Rr.length w15b hq.1 hq.2.1 hq.2.2.1 F15.out.1.chan).mono ?_
    rintro e w16 ⟨rfl, hb16⟩
    have hB16 := hB15.trans (hb16.mono hB15.size)
    clear g0 g1 g2 g3 g4
    have F16 := show Hid (WokIn w16.heap.size w16 ko5 (markK (1 + Rb.length + 3 * Rs.length + 3 * Rr.length) Rw.length)) from (F15.out.2.later hb16).wok
    clear hb16 F15
    go_wp2_with fail
    refine (heldWokenS_any ko5 kc5 Rw.length (1 + Rb.length + 3 * Rs.length + 3 * Rr.length) w16 (by omega) (by omega) (by omega) F16.out).mono ?_
    rintro e w16 ⟨rfl, rfl⟩
    go_wp2
    go_ret
    exact ⟨rfl, hB16⟩
end Go.Proofs.Ytblnlhdcdeiedaa
