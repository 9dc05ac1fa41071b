
/- Children are stopped: the specification. No conditions but those written. -/
import Derived.Test.YtbpacibfboldcaaDoorLx
namespace Go.Proofs.YtbpacibfboldcaaDoor
open Go.RowKit

theorem ownT_s : OwnT 54 := ⟨by decide, by decide, by decide, by decide⟩
def placeI : Option Nat → Int
  | some j => (j : Int)
  | none => -1
set_option maxRecDepth 10000 in
set_option maxHeartbeats 4000000 in
theorem under_any (lo hi p : Nat) (ra : List (Option Addr × Nat)) (s : St) (k c : Nat) (w : World) (hL : LiveW 54 lo hi w p ra s) (hl : s.1.length ≤ 8) (hT : TreeP s.1) :
    Calls Tryd.prog 46 #[.pointer (some ⟨p, 0, none⟩), .int .i64 k, .int .i64 c] w fun e w' => e = .returned (.int .i64 (placeI (placeP s.1 k c))) ∧ Below w.heap.size w w' := by
  obtain ⟨g, kc, av, ls, hp, hD, hO, hv, hr, hlp, hhi⟩ := hL
  have hlen := len_ls hv
  have c0 : w.cell? ⟨p, 0, none⟩ = some (.slice (some ⟨g, 0, none⟩) s.1.length kc) := by rw [Go.Joins.cell_of_block hp]; rfl
  have HZ : Hid (hKeeper.In w.heap.size w (some ⟨g, 0, none⟩) ls) := Kind.Fresh.in hD.1
  have HV := hid hv
  have HT := hid hT
  obtain ⟨N, hN⟩ : ∃ N, N = s.1.length := ⟨_, rfl⟩
  rw [← hN] at c0 hlen hl
  have HN := hid hN
  clear hp hD hO hr hv hT hN
  go_enter Tryd.func46, Tryd.ntmps46
  go_wp2
  clear c0
  go_loopw [14] (fun i wr => ∃ q : Nat, q ≤ N ∧ i = .int .i64 q ∧ Below w.heap.size w wr ∧ Hid (∀ j, j < q → hitP k c (el s.1 j) = false)) (fun i _ => N - (intOf i).toNat)
  case atStart => exact ⟨0, Nat.zero_le _, rfl, Below.refl _ _, fun j hj => by omega⟩
  case round =>
    obtain ⟨q, hq, rfl, hB, hno⟩ := hrel
    by_cases hlt : q < N
    · obtain ⟨b0, off, hbo, hb, hc⟩ := hKeeper_at HZ.out (k := q) (by omega)
      obtain ⟨rfl, rfl⟩ : g = b0 ∧ 0 = off := by simpa using hbo
      have d1 := (hB.cell (p := ⟨g, 0 + q * 8, none⟩) hb).trans (hc q (by omega)).1
      have d2 := (hB.cell (p := ⟨g, 0 + q * 8 + 1, none⟩) hb).trans (hc q (by omega)).2.1
      have d3 := (hB.cell (p := ⟨g, 0 + q * 8 + 2, none⟩) hb).trans (hc q (by omega)).2.2.1
      have d4 := (hB.cell (p := ⟨g, 0 + q * 8 + 3, none⟩) hb).trans (hc q (by omega)).2.2.2.1
      have d5 := (hB.cell (p := ⟨g, 0 + q * 8 + 4, none⟩) hb).trans (hc q (by omega)).2.2.2.2.1
      have d6 := (hB.cell (p := ⟨g, 0 + q * 8 + 5, none⟩) hb).trans (hc q (by omega)).2.2.2.2.2.1
      have d7 := (hB.cell (p := ⟨g, 0 + q * 8 + 6, none⟩) hb).trans (hc q (by omega)).2.2.2.2.2.2.1
      have d8 := (hB.cell (p := ⟨g, 0 + q * 8 + 7, none⟩) hb).trans (hc q (by omega)).2.2.2.2.2.2.2
      have hev := el_map_val HV.out (k := q) (by omega)
      obtain ⟨⟨kd, mr, wi, up, ch, ⟨ro, rc, r⟩, ⟨fo, fc, f⟩, ov⟩, ey⟩ : ∃ v, v = el ls q := ⟨_, rfl⟩
      rw [← ey] at d1 d2 d3 d4 d5 d6 d7 d8 hev
      have HE : Hid (el s.1 q = (kd, mr, wi, up, ch, r, f, ov)) := hev
      clear ey hev hc hbo
      dsimp only at d1 d2 d3 d4 d5 d6 d7 d8
      simp only [Nat.zero_add] at d1 d2 d3 d4 d5 d6 d7 d8
      have hBW := Below.allocS hB (.cells #[.int .i64 kd, .int .i64 mr, .int .i64 wi, .int .i64 up, .int .i64 ch, .slice ro r.length rc, .slice fo f.length fc, .bool ov] 27)
      rcases Nat.eq_zero_or_pos q with hq0 | hq0
      · have hd0 : decide (0 < q) = false := by simp; omega
        have HN0 : Hid (hitP k c (el s.1 q) = false) := by
          have h1 := HT.out q (by rw [← HN.out]; exact hlt)
          rw [Hid]; simp only [hitP]
          have h2 : (upP (el s.1 q) == (k : Int)) = false := by simp; omega
          rw [h2]; rfl
        clear hq0
        go_wp2
        go_roundw
        case rel => exact ⟨q + 1, by omega, by go_num, hBW, fun j hj => by
          rcases Nat.lt_succ_iff_lt_or_eq.1 hj with h | rfl
          · exact hno.out j h
          · exact HN0.out⟩
        case measure => simp [intOf]; omega
      have hd0 : decide (0 < q) = true := by simpa using hq0
      cases h1 : (up == (k : Int))
      · have HN0 : Hid (hitP k c (el s.1 q) = false) := by rw [Hid, HE.out]; simp only [hitP, upP, h1]; rfl
        go_wp2
        go_roundw
        case rel => exact ⟨q + 1, by omega, by go_num, hBW, fun j hj => by
          rcases Nat.lt_succ_iff_lt_or_eq.1 hj with h | rfl
          · exact hno.out j h
          · exact HN0.out⟩
        case measure => simp [intOf]; omega
      cases h2 : (ch == (c : Int))
      · have HN0 : Hid (hitP k c (el s.1 q) = false) := by rw [Hid, HE.out]; simp only [hitP, upP, chP, h1, h2]; rfl
        go_wp2
        go_roundw
        case rel => exact ⟨q + 1, by omega, by go_num, hBW, fun j hj => by
          rcases Nat.lt_succ_iff_lt_or_eq.1 hj with h | rfl
          · exact hno.out j h
          · exact HN0.out⟩
        case measure => simp [intOf]; omega
      have HY : Hid (placeP s.1 k c = some q) := placeP_yes (by rw [← HN.out]; exact hlt) (by rw [HE.out]; simp only [hitP, upP, chP, h1, h2]; rfl) hno.out
      go_wp2
      go_ret
      rw [HY.out]
      exact ⟨rfl, hBW⟩
    · obtain rfl : q = N := by omega
      have HY : Hid (placeP s.1 k c = none) := placeP_no (by rw [← HN.out]; exact hno.out)
      go_wp2
      go_ret
      rw [HY.out]
      exact ⟨rfl, hB⟩
/-- What stop does. -/
def StopS (n : Nat) : Prop := ∀ (lo hi p : Nat) (ra : List (Option Addr × Nat)) (s : St) (k c : Nat) (w : World), LiveW 54 lo hi w p ra s → lo ≤ w.heap.size → GoodS n s k → el (runsP (el s.1 k)) c = true →
    Calls Tryd.prog 55 #[.pointer (some ⟨p, 0, none⟩), .int .i64 k, .int .i64 c] w fun e w' => AnsW 54 lo hi w p ra (stopF n s k c) e w'
/-- What stopAll does. -/
def AllS (n : Nat) : Prop := ∀ (lo hi p : Nat) (ra : List (Option Addr × Nat)) (s : St) (u : Nat) (w : World), LiveW 54 lo hi w p ra s → lo ≤ w.heap.size → GoodS n s u →
    Calls Tryd.prog 53 #[.pointer (some ⟨p, 0, none⟩), .int .i64 u] w fun e w' => AnsW 54 lo hi w p ra (endP (fromF (fun s m => stopF n s u m) s u 0).1.1 u, (fromF (fun s m => stopF n s u m) s u 0).1.2) e w'
set_option maxRecDepth 10000 in
set_option maxHeartbeats 8000000 in
theorem allS_of (n : Nat) (hS : StopS n) : AllS n := by
  intro lo hi p ra s u w hL hlo hG
  obtain ⟨FF, hFF⟩ : ∃ FF, FF = (fun (s : St) (m : Nat) => stopF n s u m) := ⟨_, rfl⟩
  obtain ⟨Z, hZ⟩ : ∃ Z, Z = fromF FF s u 0 := ⟨_, rfl⟩
  rw [← hFF, ← hZ]
  have HFF := hid hFF
  have HS := hid hS
  have HL := hid hL
  have HG := hid hG
  have hN := hG.len
  have hul := hG.kl
  have hrl := hG.runs u
  obtain ⟨N, hNN⟩ : ∃ N, N = (runsP (el s.1 u)).length := ⟨_, rfl⟩
  rw [← hNN] at hrl
  have HZ : Hid (downF FF u 0 N (s, []) = Z) := by rw [Hid, hZ, fromF, hNN]; rfl
  have HNN := hid hNN
  obtain ⟨g, kc, av, ls, hp, hD, hO, hv, hr, hlp, hhi⟩ := hL
  have hlen := len_ls hv
  have c0 : w.cell? ⟨p, 0, none⟩ = some (.slice (some ⟨g, 0, none⟩) s.1.length kc) := by rw [Go.Joins.cell_of_block hp]; rfl
  have hev := el_map_val hv (k := u) (by omega)
  obtain ⟨⟨kd, mr, wi, up, ch, ⟨ro, rc, r⟩, ⟨fo, fc, f⟩, ov⟩, ex⟩ : ∃ v, v = el ls u := ⟨_, rfl⟩
  obtain ⟨⟨_, _, _, _, _, h5, _, _⟩, _, hg1, _, hg3⟩ := hK_at hD.1 (k := u) (by omega) ex.symm
  rw [← ex] at hev
  have hrN : r.length = N := by rw [hNN, hev]; rfl
  rw [hrN] at h5
  clear hS hG hp hD hO hv hr ex hev hFF hZ hNN hrN
  go_enter Tryd.func53, Tryd.ntmps53
  go_wp2
  clear c0 h5
  go_loopw [4] (fun b wr => ∃ (m : Nat) (x : St × List Int), b = .int .i64 ((m : Int) - 1) ∧ m ≤ N ∧ Hid (downF FF u 0 m x = Z) ∧ Hid (LiveW 54 lo hi wr p ra x.1) ∧ Hid (StopK u s x.1) ∧ Below lo w wr ∧ Hid (IntsKept w wr)) (fun b _ => ((intOf b) + 1).toNat)
  case atStart => exact ⟨N, (s, []), by go_num, by omega, HZ, HL, StopK.refl _ _, Below.refl _ _, IntsKept.refl _⟩
  case round =>
    obtain ⟨m, x, rfl, hm, hX, hLr, hKr, hB, hI⟩ := hrel
    have hs := hB.size
    have hG2 := HG.out.keep hKr.out
    have hrn : (runsP (el x.1.1 u)).length = N := by rw [(hKr.out.sh.2 u).2.2]; exact HNN.out.symm
    have hlx := hG2.kl
    have hlx8 := hG2.len
    obtain ⟨g2, kc2, av2, ls2, hp2, hD2, hO2, hv2, hr2, hlp2, hhi2⟩ := hLr.out
    have hlen2 := len_ls hv2
    have e0 : wr.cell? ⟨p, 0, none⟩ = some (.slice (some ⟨g2, 0, none⟩) x.1.1.length kc2) := by rw [Go.Joins.cell_of_block hp2]; rfl
    have hev2 := el_map_val hv2 (k := u) (by omega)
    obtain ⟨⟨kd2, mr2, wi2, up2, ch2, ⟨ro2, rc2, r2⟩, ⟨fo2, fc2, f2⟩, ov2⟩, ex2⟩ : ∃ v, v = el ls2 u := ⟨_, rfl⟩
    obtain ⟨⟨_, _, _, _, _, i5, i6, i7⟩, hfz, hg21, _, hg23⟩ := hK_at hD2.1 (k := u) (by omega) ex2.symm
    cases m with
    | zero =>
      have hX2 : Hid (x = Z) := hX.out
      have hE : (((0 : Nat) : Int) - 1) = (-1 : Int) := by omega
      rw [hE]
      have z7 := hfz 7
      have z6 := hfz 6
      have hgp : p ≠ g2 := fun e => by
        subst e
        obtain ⟨g3, e3, _, _, _, ho⟩ := (show hKeeper.Fresh _ _ _ _ _ _ from hD2.1).at (show 0 < ls2.length by omega)
        simp at e3; subst e3
        obtain ⟨cur, hcur⟩ := owns_type ho
        rw [hp2] at hcur; simp at hcur
        exact absurd hcur.2 (by decide)
      have HE := hid (LiveW.putEnd ownT_s hp2 hD2 hO2 hv2 hr2 hlp2 hhi2 (k := u) (by omega) ex2.symm)
      clear hp2 hD2 hO2 hv2 hr2 ex2 hev2 hfz hG2 hX
      go_wp2
      first | refine bodyPost_ret (results_none rfl _ _ _) rfl ?_ | refine bodyPost_end (results_none rfl _ _ _) rfl ?_
      rw [← hX2.out]
      exact ⟨rfl, HE.out.1, (hB.setCell (p := ⟨g2, u * 8 + 7, none⟩) hg21 _).setCell (p := ⟨g2, u * 8 + 6, none⟩) hg21 _, hI.out.trans HE.out.2.1⟩
    | succ m =>
      have hE : (((m + 1 : Nat) : Int) - 1) = (m : Int) := by push_cast; omega
      rw [hE]
      have hXs : Hid (downF FF u 0 m (if el (runsP (el x.1.1 u)) m then (FF x.1 m, x.2 ++ [(m : Int)]) else x) = Z) := by have := hX.out; rw [downF, Nat.zero_add] at this; exact this
      rw [← ex2] at hev2
      have hr2N : r2.length = N := by rw [← hrn, hev2]; rfl
      rw [hr2N] at i5
      have hFr := hD2.2.1 u (by omega)
      rw [← ex2] at hFr
      have hIn : kB.In wr.heap.size wr ro2 r2 := Kind.Fresh.in hFr.1
      obtain ⟨b1, off1, hro, hb1, hc1⟩ := bools_at hIn (k := m) (by omega)
      have cj := hc1 m (by omega)
      have her : el (runsP (el x.1.1 u)) m = el r2 m := by rw [hev2]; rfl
      clear hp2 hD2 hO2 hv2 hr2 ex2 hev2 hFr hc1 hIn hfz hX hE
      subst hro
      cases hy : el r2 m
      · have hXn : Hid (downF FF u 0 m x = Z) := by have := hXs.out; rwa [her, hy] at this
        rw [hy] at cj
        clear her hXs hy hG2
        go_wp2
        go_roundw
        case rel => exact ⟨m, x, by go_num, by omega, hXn, hLr, hKr, hB, hI⟩
        case measure => simp [intOf] <;> omega
      · have hrun : Hid (el (runsP (el x.1.1 u)) m = true) := her.trans hy
        have hXn : Hid (downF FF u 0 m (FF x.1 m, x.2 ++ [(m : Int)]) = Z) := by have := hXs.out; rwa [her, hy] at this
        rw [hy] at cj
        have HG2 := hid hG2
        clear her hXs hy hG2
        go_wp2_with fail
        refine (HS.out lo hi p ra x.1 u m wr hLr.out (by omega) HG2.out hrun.out).mono ?_
        rintro e w3 ⟨rfl, hL3, hB3, hI3⟩
        have L3 : Hid (LiveW 54 lo hi w3 p ra (FF x.1 m)) := by rw [Hid, HFF.out]; exact hL3
        have hBw := hB.trans hB3
        have I3 := hid (hI.out.trans hI3)
        have K3 : Hid (StopK u s (FF x.1 m)) := by rw [Hid, HFF.out]; exact hKr.out.trans (stopF_keeps n x.1 u m HG2.out.tree HG2.out.kl HG2.out.fuel hrun.out)
        clear hL3 hB3 hI3 cj e0 i5 i6 i7
        go_wp2
        go_roundw
        case rel => exact ⟨m, (FF x.1 m, x.2 ++ [(m : Int)]), by go_num, by omega, hXn, L3, K3, hBw, I3⟩
        case measure => simp [intOf] <;> omega
set_option maxRecDepth 10000 in
set_option maxHeartbeats 8000000 in
theorem stopS_succ (n : Nat) (hF : AllS n) : StopS (n + 1) := by
  intro lo hi p ra s k c w hL hlo hG hrun
  have HL := hid hL
  have HF := hid hF
  have HG := hid hG
  have hN := hG.len
  have hkl := hG.kl
  have hcl := run_lt hrun
  have htold := hG.told
  have hpos : 1 ≤ cntR s.1 := by have := cntR_off hkl hrun; omega
  clear hF hG hL hrun
  cases hpl : placeP s.1 k c with
  | none =>
    have HPL := hid hpl
    have HR : Hid (stopF (n + 1) s k c = (setRun s.1 k c false, s.2 ++ [((k : Int), 1, (c : Int))])) := by rw [Hid, stopF, hpl]
    clear hpl
    go_enter Tryd.func55, Tryd.ntmps55
    go_wp2_with fail
    refine (under_any lo hi p ra s k c w HL.out hN HG.out.tree).mono ?_
    rw [HPL.out]
    rintro e w2 ⟨rfl, hb2⟩
    have L2 := hid (HL.out.later hb2)
    have I2 := hid (IntsKept.later hb2)
    have hB2 := hb2.mono hlo
    have HC : Hid (c < (runsP (el s.1 k)).length) := hcl
    have HT : Hid (s.2.length + 1 ≤ 4194304) := by simp only [Hid]; omega
    have hbs := hb2.size
    clear hb2
    dsimp only [placeI]
    obtain ⟨g3, kc3, av3, ls3, hp3, hD3, hO3, hv3, hr3, hlp3, hhi3⟩ := L2.out
    have hlen3 : ls3.length = (s.1).length := len_ls hv3
    have e0 : w2.cell? ⟨p, 0, none⟩ = some (.slice (some ⟨g3, 0, none⟩) (s.1).length kc3) := by rw [Go.Joins.cell_of_block hp3]; rfl
    have hev3 : el (s.1) k = valKeeper (el ls3 k) := el_map_val hv3 (k := k) (by omega)
    obtain ⟨⟨kd3, mr3, wi3, up3, ch3, ⟨ro3, rc3, r3⟩, ⟨fo3, fc3, f3⟩, ov3⟩, ex3⟩ : ∃ v, v = el ls3 k := ⟨_, rfl⟩
    obtain ⟨⟨_, _, _, _, _, h5, _, _⟩, _, hg31, _, hg33⟩ := hK_at hD3.1 (k := k) (by omega) ex3.symm
    rw [← ex3] at hev3
    have hr3c : c < r3.length := by rw [show r3 = runsP (el (s.1) k) by rw [hev3]; rfl]; exact HC.out
    have hFr3 := hD3.2.1 k (by omega)
    rw [← ex3] at hFr3
    have hFq : kB.Fresh lo hi w2 ro3 rc3 r3 := hFr3.1
    obtain ⟨b3, rfl, hb31, hb32, hb33, _⟩ := hFq.at (show 0 < r3.length by omega)
    obtain ⟨hL4, hI4, hlb, hcb, hfb⟩ := LiveW.putRun (show 54 ≠ kB.ty by decide) hp3 hD3 hO3 hv3 hr3 hlp3 hhi3 (k := k) (by omega) ex3.symm hr3c false
    have L4 := hid hL4
    have I4 := hid (I2.out.trans hI4)
    have hB4 := hB2.setCell (p := ⟨b3, c, none⟩) hlb (.bool false)
    obtain ⟨W4, hW4⟩ : ∃ W4, W4 = w2.setCell ⟨b3, c, none⟩ (.bool false) := ⟨_, rfl⟩
    rw [← hW4] at L4 I4 hB4
    have HW4 := hid hW4
    clear hp3 hD3 hO3 hv3 hr3 ex3 hev3 hFr3 hFq hL4 hI4 hlen3
    obtain ⟨g4, kc4, av4, ls4, hp4, hD4, hO4, hv4, hr4, hlp4, hhi4⟩ := L4.out
    have d1' : W4.cell? ⟨p, 1, none⟩ = some av4 := by rw [Go.Joins.cell_of_block hp4]; rfl
    rw [hW4] at d1'
    have hps : p < w2.heap.size := by have := (Array.getElem?_eq_some_iff.1 hp4).1; rw [hW4] at this; simpa [World.setCell] using this
    have hbV := below1 W4 (.cells #[.int .i64 (k : Int), .int .i64 1, .int .i64 (c : Int)] 67)
    have HA := hid (hO4.below hbV)
    have HNN : Hid (kA.In (W4.heap.size + 1) (W4.alloc (.cells #[.int .i64 (k : Int), .int .i64 1, .int .i64 (c : Int)] 67)) (some ⟨W4.heap.size, 0, none⟩) [((k : Int), 1, (c : Int))]) := kA_one (by omega) (by simp [go_sem]) (by simp [go_sem]) (by simp [go_sem])
    have HS4 : Hid (W4.heap.size = w2.heap.size) := by rw [hW4]; simp [World.setCell, Hid]
    have hlo4 : lo ≤ W4.heap.size := by have := hB4.size; omega
    have HP4 := hid hp4
    have HD4 := hid hD4
    have HO4 := hid hO4
    rw [HS4.out] at HNN
    clear hp4 hD4 hO4 hW4
    go_wp2_with (at_builtin; rw [← HW4.out]; refine Kind.app kA_ok (W4.alloc (.cells #[.int .i64 (k : Int), .int .i64 1, .int .i64 (c : Int)] 67)) rfl (.tmp 30) (.tmp 34) rfl lo av4 (s.2) rfl HA.out (by simp; omega) (some ⟨w2.heap.size, 0, none⟩) [((k : Int), 1, (c : Int))] 1 1 rfl rfl (by simp) _ HNN.out HT.out ?_; intro v' w' hO' hB' hG' hn'; obtain ⟨qo, qc, rfl, _, _⟩ := hO'.fresh; have HTT2 := hid (LiveW.putTell (s := (setRun (s.1) k c false, s.2)) ownT_s work_s HP4.out HD4.out HO4.out hv4 hr4 hlp4 hhi4 hbV hO' hB' hG'); have d1 := HTT2.out.2.2.1; have f1 := HTT2.out.2.2.2; have hB6 : Below lo w w' := (hB4.trans (hbV.mono hlo4)).trans hB'; clear hO' hB' hG' hn')
    first | refine bodyPost_ret (results_none rfl _ _ _) rfl ?_ | refine bodyPost_end (results_none rfl _ _ _) rfl ?_
    have hT := HTT2.out
    rw [show ((s.2) ++ ([((k : Int), (1 : Int), (c : Int))] : List (Int × Int × Int))).length = (s.2).length + 1 by simp] at hT
    rw [HR.out]
    exact ⟨rfl, hT.1, hB6.setCell (p := ⟨p, 1, none⟩) hlp4 _, I4.out.trans hT.2.1⟩

  | some u =>
    have HPL := hid hpl
    obtain ⟨Tt, hTt⟩ : ∃ Tt, Tt = fromF (fun s m => stopF n s u m) s u 0 := ⟨_, rfl⟩
    have HR : Hid (stopF (n + 1) s k c = (setRun (endP Tt.1.1 u) k c false, Tt.1.2 ++ [((k : Int), 1, (c : Int))])) := by rw [Hid, stopF, hpl, hTt]
    obtain ⟨hku, hul⟩ := place_gt HG.out.tree hpl
    have hGu : GoodS n s u := ⟨HG.out.tree, hul, by have := HG.out.fuel; omega, HG.out.len, HG.out.runs, HG.out.told⟩
    have HGU := hid hGu
    have hK := fromF_keeps (n := n) (u := u) 0 HG.out.tree hul hGu.fuel
    rw [← hTt] at hK
    have hlT := hK.sh.1
    have hlu : u < Tt.1.1.length := by rw [hlT]; exact hul
    have hek : el (endP Tt.1.1 u) k = el s.1 k := (el_set_other (by omega)).trans (hK.ahead k hku)
    have HC : Hid (c < (runsP (el (endP Tt.1.1 u) k)).length) := by rw [Hid, hek]; exact hcl
    have HT : Hid (Tt.1.2.length + 1 ≤ 4194304) := by
      have h1 := hK.told
      simp only [Hid]; omega
    have hlE : (endP Tt.1.1 u).length = s.1.length := by rw [(Sh.end hlu).1]; exact hlT
    have HTT := hid hTt
    clear hpl hGu hK hek hTt
    go_enter Tryd.func55, Tryd.ntmps55
    go_wp2_with fail
    refine (under_any lo hi p ra s k c w HL.out hN HG.out.tree).mono ?_
    rw [HPL.out]
    rintro e w2 ⟨rfl, hb2⟩
    have L2 := hid (HL.out.later hb2)
    have I2 := hid (IntsKept.later hb2)
    have hB2 := hb2.mono hlo
    have hbs := hb2.size
    clear hb2
    dsimp only [placeI]
    go_wp2_with fail
    refine (HF.out lo hi p ra s u w2 L2.out (by omega) HGU.out).mono ?_
    rw [← HTT.out]
    rintro e w4 ⟨rfl, hL4x, hB4, hI4x⟩
    have L4x := hid hL4x
    have I4x := hid (I2.out.trans hI4x)
    have hB4x := hB2.trans hB4
    have hbs4 := hB4x.size
    clear hL4x hB4 hI4x hB2
    obtain ⟨g3, kc3, av3, ls3, hp3, hD3, hO3, hv3, hr3, hlp3, hhi3⟩ := L4x.out
    have hlen3 : ls3.length = (endP Tt.1.1 u).length := len_ls hv3
    have e0 : w4.cell? ⟨p, 0, none⟩ = some (.slice (some ⟨g3, 0, none⟩) (endP Tt.1.1 u).length kc3) := by rw [Go.Joins.cell_of_block hp3]; rfl
    have hev3 : el (endP Tt.1.1 u) k = valKeeper (el ls3 k) := el_map_val hv3 (k := k) (by omega)
    obtain ⟨⟨kd3, mr3, wi3, up3, ch3, ⟨ro3, rc3, r3⟩, ⟨fo3, fc3, f3⟩, ov3⟩, ex3⟩ : ∃ v, v = el ls3 k := ⟨_, rfl⟩
    obtain ⟨⟨_, _, _, _, _, h5, _, _⟩, _, hg31, _, hg33⟩ := hK_at hD3.1 (k := k) (by omega) ex3.symm
    rw [← ex3] at hev3
    have hr3c : c < r3.length := by rw [show r3 = runsP (el (endP Tt.1.1 u) k) by rw [hev3]; rfl]; exact HC.out
    have hFr3 := hD3.2.1 k (by omega)
    rw [← ex3] at hFr3
    have hFq : kB.Fresh lo hi w4 ro3 rc3 r3 := hFr3.1
    obtain ⟨b3, rfl, hb31, hb32, hb33, _⟩ := hFq.at (show 0 < r3.length by omega)
    obtain ⟨hL4, hI4, hlb, hcb, hfb⟩ := LiveW.putRun (show 54 ≠ kB.ty by decide) hp3 hD3 hO3 hv3 hr3 hlp3 hhi3 (k := k) (by omega) ex3.symm hr3c false
    have L4 := hid hL4
    have I4 := hid (I4x.out.trans hI4)
    have hB4 := hB4x.setCell (p := ⟨b3, c, none⟩) hlb (.bool false)
    obtain ⟨W4, hW4⟩ : ∃ W4, W4 = w4.setCell ⟨b3, c, none⟩ (.bool false) := ⟨_, rfl⟩
    rw [← hW4] at L4 I4 hB4
    have HW4 := hid hW4
    clear hp3 hD3 hO3 hv3 hr3 ex3 hev3 hFr3 hFq hL4 hI4 hlen3
    obtain ⟨g4, kc4, av4, ls4, hp4, hD4, hO4, hv4, hr4, hlp4, hhi4⟩ := L4.out
    have d1' : W4.cell? ⟨p, 1, none⟩ = some av4 := by rw [Go.Joins.cell_of_block hp4]; rfl
    rw [hW4] at d1'
    have hps : p < w4.heap.size := by have := (Array.getElem?_eq_some_iff.1 hp4).1; rw [hW4] at this; simpa [World.setCell] using this
    have hbV := below1 W4 (.cells #[.int .i64 (k : Int), .int .i64 1, .int .i64 (c : Int)] 67)
    have HA := hid (hO4.below hbV)
    have HNN : Hid (kA.In (W4.heap.size + 1) (W4.alloc (.cells #[.int .i64 (k : Int), .int .i64 1, .int .i64 (c : Int)] 67)) (some ⟨W4.heap.size, 0, none⟩) [((k : Int), 1, (c : Int))]) := kA_one (by omega) (by simp [go_sem]) (by simp [go_sem]) (by simp [go_sem])
    have HS4 : Hid (W4.heap.size = w4.heap.size) := by rw [hW4]; simp [World.setCell, Hid]
    have hlo4 : lo ≤ W4.heap.size := by have := hB4.size; omega
    have HP4 := hid hp4
    have HD4 := hid hD4
    have HO4 := hid hO4
    rw [HS4.out] at HNN
    clear hp4 hD4 hO4 hW4
    go_wp2_with (at_builtin; rw [← HW4.out]; refine Kind.app kA_ok (W4.alloc (.cells #[.int .i64 (k : Int), .int .i64 1, .int .i64 (c : Int)] 67)) rfl (.tmp 30) (.tmp 34) rfl lo av4 (Tt.1.2) rfl HA.out (by simp; omega) (some ⟨w4.heap.size, 0, none⟩) [((k : Int), 1, (c : Int))] 1 1 rfl rfl (by simp) _ HNN.out HT.out ?_; intro v' w' hO' hB' hG' hn'; obtain ⟨qo, qc, rfl, _, _⟩ := hO'.fresh; have HTT2 := hid (LiveW.putTell (s := (setRun (endP Tt.1.1 u) k c false, Tt.1.2)) ownT_s work_s HP4.out HD4.out HO4.out hv4 hr4 hlp4 hhi4 hbV hO' hB' hG'); have d1 := HTT2.out.2.2.1; have f1 := HTT2.out.2.2.2; have hB6 : Below lo w w' := (hB4.trans (hbV.mono hlo4)).trans hB'; clear hO' hB' hG' hn')
    first | refine bodyPost_ret (results_none rfl _ _ _) rfl ?_ | refine bodyPost_end (results_none rfl _ _ _) rfl ?_
    have hT := HTT2.out
    rw [show ((Tt.1.2) ++ ([((k : Int), (1 : Int), (c : Int))] : List (Int × Int × Int))).length = (Tt.1.2).length + 1 by simp] at hT
    rw [HR.out]
    exact ⟨rfl, hT.1, hB6.setCell (p := ⟨p, 1, none⟩) hlp4 _, I4.out.trans hT.2.1⟩

theorem stopS_all : ∀ n, StopS n
  | 0 => fun lo hi p ra s k c w _ _ hG _ => absurd hG.fuel (by have := hG.kl; omega)
  | n + 1 => stopS_succ n (allS_of n (stopS_all n))
theorem allS_all (n : Nat) : AllS n := allS_of n (stopS_all n)
end Go.Proofs.YtbpacibfboldcaaDoor
