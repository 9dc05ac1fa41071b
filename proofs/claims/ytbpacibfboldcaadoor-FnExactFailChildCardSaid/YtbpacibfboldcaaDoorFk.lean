
/- A child of a keeper alone fails: the specification. No conditions but those written. -/
import Derived.Test.YtbpacibfboldcaaDoorFj
namespace Go.Proofs.YtbpacibfboldcaaDoor
open Go.RowKit

/-- What a failure comes to where a keeper is alone, as the specification tells it. -/
def giveS (s : St) (c : Nat) : St :=
  (endP (fromF (fun s m => offP s 0 m) (setRun s.1 0 c false, s.2) 0 0).1.1 0, (fromF (fun s m => offP s 0 m) (setRun s.1 0 c false, s.2) 0 0).1.2 ++ [((0 : Int), 3, 0)])
def restartS (s : St) (c : Nat) : St :=
  if (el s.1 0).1 == 1 then startP s 0 c else startAll (startP (fromF (fun s m => offP s 0 m) s 0 (c + 1)).1 0 c) 0 (fromF (fun s m => offP s 0 m) s 0 (c + 1)).2.reverse
def failSP (s : St) (c : Nat) (tick : Int) : St :=
  if (recentI (fltP (el s.1 0)) tick (el s.1 0).2.2.1).length > (el s.1 0).2.1 then giveS s c else restartS (setFaults (setRun s.1 0 c false) 0 (recentI (fltP (el s.1 0)) tick (el s.1 0).2.2.1), s.2) c
theorem downO_one {u N : Nat} (lo : Nat) : ∀ (m : Nat) (x : St × List Int) (b : Nat), u < x.1.1.length → One u N (m + b) x.1 → One u N b (downF (fun s m => offP s u m) u lo m x).1
  | 0, x, b, _, h => by rw [Nat.zero_add] at h; exact h
  | m + 1, x, b, hu, h => by
    rw [downF]
    have h' : One u N ((m + b) + 1) x.1 := by rw [show m + b + 1 = m + 1 + b by omega]; exact h
    cases el (runsP (el x.1.1 u)) (lo + m)
    · exact downO_one lo m x b hu ⟨h.1, h.2.1, by have := h.2.2; omega⟩
    · exact downO_one lo m _ b (by have := (Sh.run hu (lo + m) false).1; show u < (setRun x.1.1 u (lo + m) false).length; omega) (h'.off hu)
set_option maxRecDepth 100000 in
set_option maxHeartbeats 8000000 in
theorem failS_one (lo hi p : Nat) (ra : List (Option Addr × Nat)) (s : St) (c : Nat) (tick : Int) (w : World) (hL : LiveW 54 lo hi w p ra s) (_hlo : lo ≤ w.heap.size) (hlh : lo ≤ hi) (h1 : s.1.length = 1) (hc : c < (runsP (el s.1 0)).length) (hr10 : (runsP (el s.1 0)).length ≤ 10) (hf : (fltP (el s.1 0)).length ≤ 1000) (ht0 : 0 ≤ tick) (ht1 : tick ≤ 1000000) (hw0 : 1 ≤ (el s.1 0).2.2.1) (hw1 : (el s.1 0).2.2.1 ≤ 1000) (hn : s.2.length ≤ 1000) :
    Calls Tryd.prog 28 #[.pointer (some ⟨p, 0, none⟩), .int .i64 0, .int .i64 c, .int .i64 tick] w fun e w' => e = .returned (.tuple #[]) ∧ (∃ hi', lo ≤ hi' ∧ LiveW 54 lo hi' w' p ra (failSP s c tick)) ∧ Below lo w w' := by
  have HL := hid hL
  have hB0 : Below lo w w := Below.refl _ _
  obtain ⟨g3, kc3, av3, ls3, hp3, hD3, hO3, hv3, hr3, hlp3, hhi3⟩ := HL.out
  have hlen3 : ls3.length = s.1.length := len_ls hv3
  have e0 : w.cell? ⟨p, 0, none⟩ = some (.slice (some ⟨g3, 0, none⟩) 1 kc3) := by rw [Go.Joins.cell_of_block hp3, ← h1]; rfl
  have hev3 : el s.1 0 = valKeeper (el ls3 0) := el_map_val hv3 (k := 0) (by omega)
  obtain ⟨⟨kd, mr, wi, up, ch, ⟨ro, rc, r⟩, ⟨fo, fc, f⟩, ov⟩, ex3⟩ : ∃ v, v = el ls3 0 := ⟨_, rfl⟩
  obtain ⟨⟨_, _, _, _, _, h5, _, _⟩, _, hg31, _, hg33⟩ := hK_at hD3.1 (k := 0) (by omega) ex3.symm
  rw [← ex3] at hev3
  have HEV : Hid (el s.1 0 = (kd, mr, wi, up, ch, r, f, ov)) := hev3
  rw [HEV.out] at hc hr10 hf hw0 hw1
  simp only [runsP, fltP] at hc hr10 hf hw0 hw1
  have hFr3 := hD3.2.1 0 (by omega)
  rw [← ex3] at hFr3
  have hFq : kB.Fresh lo hi w ro rc r := hFr3.1
  obtain ⟨b3, rfl, hb31, hb32, hb33, hob⟩ := hFq.at (show 0 < r.length by omega)
  have hpb : p ≠ b3 := fun e => by
    subst e
    obtain ⟨cur, hcur⟩ := owns_type hob
    rw [hp3] at hcur; simp at hcur
    exact absurd hcur.2 (by decide)
  obtain ⟨hL4, hI4, hlb, hcb, hfb⟩ := LiveW.putRun (show 54 ≠ kB.ty by decide) hp3 hD3 hO3 hv3 hr3 hlp3 hhi3 (k := 0) (by omega) ex3.symm hc false
  obtain ⟨W4, hW4⟩ : ∃ W4, W4 = w.setCell ⟨b3, c, none⟩ (.bool false) := ⟨_, rfl⟩
  have hB4 := hB0.setCell (p := ⟨b3, c, none⟩) hlb (.bool false)
  have hpp : W4.heap[p]? = w.heap[p]? := by rw [hW4]; exact Below.heap_setCell _ _ _ _ (by simpa using hpb)
  rw [← hW4] at hL4 hI4 hB4
  have L4 := hid hL4
  have HW4 := hid hW4
  have HLN : Hid ((setRun s.1 0 c false).length = 1) := by rw [Hid, (Sh.run (show 0 < s.1.length by omega) c false).1]; exact h1
  obtain ⟨g4, kc4, av4, ls4, hp4, hD4, hO4, hv4, hr4, hlp4, hhi4⟩ := hL4
  obtain rfl : g3 = g4 := by
    rw [hpp, hp3] at hp4
    simp at hp4
    exact hp4.1.1
  have hlen4 := len_ls hv4
  rw [HLN.out] at hlen4
  have hev4 := el_map_val hv4 (k := 0) (by omega)
  have hE4 : el (setRun s.1 0 c false) 0 = (kd, mr, wi, up, ch, r.set c false, f, ov) := by
    rw [setRun, el_set_same (by omega), HEV.out]; rfl
  rw [hE4] at hev4
  obtain ⟨⟨kd4, mr4, wi4, up4, ch4, ⟨ro4, rc4, r4⟩, ⟨fo4, fc4, f4⟩, ov4⟩, ex4⟩ : ∃ v, v = el ls4 0 := ⟨_, rfl⟩
  rw [← ex4] at hev4
  simp only [valKeeper, Prod.mk.injEq] at hev4
  obtain ⟨rfl, rfl, rfl, rfl, rfl, e6, rfl, rfl⟩ := hev4
  obtain ⟨⟨i0, i1, i2, i3, i4, i5, i6, i7⟩, hfz, hg41, _, hg43⟩ := hK_at hD4.1 (k := 0) (by omega) ex4.symm
  have hFr4 := hD4.2.1 0 (by omega)
  rw [← ex4] at hFr4
  have HFA : Hid (kI.In W4.heap.size W4 fo4 f) := Kind.Fresh.in hFr4.2
  simp only [Nat.zero_mul, Nat.zero_add] at i0 i1 i2 i3 i4 i5 i6 i7 h5
  have HP4 := hid hp4
  have HD4 := hid hD4
  have HO4 := hid hO4
  have HV4 := hid (And.intro hv4 hr4)
  have HEX := hid ex4
  have HR4 := hid e6
  have HFZ := hid hfz
  obtain ⟨RR, hRR⟩ : ∃ RR, RR = above f (tick - wi) ++ [tick] := ⟨_, rfl⟩
  have HRR := hid hRR
  have hRl : RR.length ≤ 1001 := by have := above_le f (tick - wi); rw [hRR]; simp; omega
  have hs4 := hB4.size
  have HE4 := hid hE4
  have hs4' : lo ≤ W4.heap.size := by omega
  clear hL hp3 hD3 hO3 hv3 hr3 ex3 hev3 hFr3 hFq hob hpp hI4 hp4 hD4 hO4 hv4 hr4 ex4 hFr4 hfz e6 hRR hE4 hW4
  go_enter Tryd.func28, Tryd.ntmps28
  go_wp2_with fail
  rw [← HW4.out]
  clear h5 hcb hfb e0
  go_cut [9] (fun s9 wx => ∃ qo qc, s9 = .slice qo RR.length qc ∧ Hid (kI.Own W4.heap.size wx s9 RR) ∧ Hid (Below W4.heap.size W4 wx))
  case first =>
    go_region_with (go_at_call 52; refine (l10Recent_any fo4 fc4 f tick wi W4.drew (by omega) ht0 ht1 hw0 hw1 (by exact HFA.out)).mono ?_; rintro e w1 ⟨⟨v1, rfl, hO1⟩, hb1⟩; rw [← HRR.out] at hO1; obtain ⟨q1, qc1, rfl, _, _⟩ := hO1.fresh; have O1 := hid hO1; have B1 : Hid (Below W4.heap.size W4 w1) := ((Below.refl W4.heap.size W4).drew).trans hb1; clear hO1 hb1)
    all_goals
      go_wp2_with fail
      go_meet
      exact ⟨_, _, rfl, O1.out, B1.out⟩
  case rest =>
    obtain ⟨qo, qc, rfl, HO, HB⟩ := hcut
    obtain ⟨CC, hCC⟩ : ∃ CC, CC = recentI f tick wi := ⟨_, rfl⟩
    have HCC : Hid (RR.map (capT tick) = CC) := by rw [Hid, hCC, ← recent_eq hw0, recentS, HRR.out]
    have HCI := hid hCC
    have hpos : 0 < RR.length := by rw [HRR.out]; simp
    obtain ⟨qo', qc', e1, _, hF'⟩ := HO.out.fresh
    simp at e1
    obtain ⟨rfl, rfl⟩ := e1
    obtain ⟨g, rfl, hg1, hg2, hg3, ho⟩ := hF'.at hpos
    have HOW : Hid (wc.ownsRow W4.heap.size 3 1 (.slice (some ⟨g, 0, none⟩) RR.length qc) RR.length (kI.flat RR)) := ho
    have HIN : Hid (∀ j, j < RR.length → (kI.flat RR)[j]? = some (.int .i64 (el RR j))) := fun j hj => by
      obtain ⟨b, off, eb, _, hcc⟩ := ints_at hF'.in (k := 0) hpos
      cases eb
      have := hcc j hj
      rw [Nat.zero_add] at this
      exact (ho.cellAt j (by show j < RR.length * 1; omega)).symm.trans this
    clear hF' ho hCC HO
    go_wp2
    go_loopw [39] (fun iv wr => ∃ (i : Nat) (xs : List Value), i ≤ RR.length ∧ iv = .int .i64 i ∧ Hid (wr.ownsRow W4.heap.size 3 1 (.slice (some ⟨g, 0, none⟩) RR.length qc) RR.length xs ∧ (∀ j : Nat, j < i → xs[j]? = some (.int .i64 (capT tick (el RR j)))) ∧ ∀ j, i ≤ j → j < RR.length → xs[j]? = some (.int .i64 (el RR j))) ∧ Hid (Below W4.heap.size W4 wr)) (fun iv _ => RR.length - (intOf iv).toNat)
    case atStart => exact ⟨0, _, Nat.zero_le _, rfl, ⟨HOW.out, fun j hj => by omega, fun j _ hj => HIN.out j hj⟩, HB⟩
    case round =>
      obtain ⟨i, xs, hi', rfl, hX, hBr⟩ := hrel
      by_cases hlt : i < RR.length
      · have hxl : i < xs.length := by rw [hX.out.1.1]; omega
        have hci : wr.cell? ⟨g, i, none⟩ = some (.int .i64 (el RR i)) := (hX.out.1.cellAt i (by omega)).trans (hX.out.2.2 i (Nat.le_refl _) hlt)
        have hfi : wr.frozen? ⟨g, i, none⟩ = false := hX.out.1.frozenAt i
        by_cases hgt : tick < el RR i
        · have HCP : Hid (capT tick (el RR i) = tick) := by rw [Hid, capT, if_pos hgt]
          go_wp2
          go_roundw
          case rel => exact ⟨i + 1, xs.set i (.int .i64 tick), by omega, by go_num, ⟨(hX.out.1.stored i _).1, fun j hj => by
            rw [List.getElem?_set]
            rcases Nat.lt_succ_iff_lt_or_eq.1 hj with h | rfl
            · rw [if_neg (by omega)]; exact hX.out.2.1 j h
            · rw [if_pos rfl, if_pos hxl, HCP.out], fun j hj hjl => by rw [List.getElem?_set, if_neg (by omega)]; exact hX.out.2.2 j (by omega) hjl⟩, hBr.out.setCell (p := ⟨g, i, none⟩) hg1 _⟩
          case measure => simp [intOf]; omega
        · have HCP : Hid (capT tick (el RR i) = el RR i) := by rw [Hid, capT, if_neg hgt]
          go_wp2
          go_roundw
          case rel => exact ⟨i + 1, xs, by omega, by go_num, ⟨hX.out.1, fun j hj => by
            rcases Nat.lt_succ_iff_lt_or_eq.1 hj with h | rfl
            · exact hX.out.2.1 j h
            · rw [HCP.out]; exact hX.out.2.2 j (Nat.le_refl _) hlt, fun j hj hjl => hX.out.2.2 j (by omega) hjl⟩, hBr⟩
          case measure => simp [intOf]; omega
      · obtain rfl : i = RR.length := by omega
        have hCl : CC.length = RR.length := by rw [← HCC.out]; simp
        have hxs : xs = kI.flat CC := by
          refine kI.flat_of xs _ (by rw [hCl]; exact hX.out.1.1) fun j hj i hi => ?_
          have e : i = 0 := by have : i < 1 := hi; omega
          subst e
          rw [hCl] at hj
          have h2 : el CC j = capT tick (el RR j) := by rw [← HCC.out]; exact el_map _ hj
          rw [h2]
          simpa [kI] using hX.out.2.1 j hj
        subst hxs
        have FR : Hid (kI.Fresh W4.heap.size wr.heap.size wr (some ⟨g, 0, none⟩) qc CC) := .inr ⟨g, rfl, (owns_lt hX.out.1).2, by rw [hCl]; exact hX.out.1⟩
        have L5 := hid (L4.out.later hBr.out)
        have hB5 := hB4.trans (hBr.out.mono hs4')
        have hs5 := hB5.size
        have j1 := (hBr.out.cell (p := ⟨g3, 1, none⟩) hg43).trans i1
        clear HOW HIN
        by_cases hgt : (CC.length : Int) > mr
        · have HR : Hid (failSP s c tick = giveS s c) := by
            rw [Hid, failSP, if_pos]
            rw [HEV.out]; show ((recentI f tick wi).length : Int) > mr
            rw [← HCI.out]; exact hgt
          rw [hCl] at hgt
          have hON : One 0 r.length (r.length + 1) (setRun s.1 0 c false, s.2) := ⟨HLN.out, by show (runsP (el (setRun s.1 0 c false) 0)).length = _; rw [HE4.out]; simp [runsP], by show s.2.length + _ ≤ _; omega⟩
          have hRL : (runsP (el (setRun s.1 0 c false) 0)).length = r.length := hON.2.1
          obtain ⟨X, hX'⟩ : ∃ X, X = fromF (fun s m => offP s 0 m) (setRun s.1 0 c false, s.2) 0 0 := ⟨_, rfl⟩
          have hXO : One 0 r.length 1 X.1 := by
            rw [hX', fromF]
            refine downO_one 0 _ _ 1 (by show 0 < (setRun s.1 0 c false).length; rw [HLN.out]; decide) ?_
            show One 0 r.length ((runsP (el (setRun s.1 0 c false) 0)).length - 0 + 1) _
            rw [hRL]; exact hON
          have HXO := hid hXO
          have HX := hid hX'
          clear hON hX' hXO
          go_wp2_with fail
          refine (allS_one lo hi p ra _ 0 wr L5.out (by omega) (by show 0 < (setRun s.1 0 c false).length; rw [HLN.out]; decide) HLN.out (by show (runsP (el (setRun s.1 0 c false) 0)).length ≤ 10; rw [hRL]; exact hr10) (by show s.2.length ≤ _; omega)).mono ?_
          rw [← HX.out]
          rintro e w6 ⟨rfl, hL6, hB6, hI6⟩
          have hB7 := hB5.trans hB6
          have hs7 := hB7.size
          obtain ⟨g6, kc6, av6, ls6, hp6, hD6, hO6, hv6, hr6, hlp6, hhi6⟩ := hL6
          have d1' : w6.cell? ⟨p, 1, none⟩ = some av6 := by rw [Go.Joins.cell_of_block hp6]; rfl
          have hps : p < w6.heap.size := (Array.getElem?_eq_some_iff.1 hp6).1
          have hbV := below1 w6 (.cells #[.int .i64 0, .int .i64 3, .int .i64 0] 67)
          have HA := hid (hO6.below hbV)
          have HNN : Hid (kA.In (w6.heap.size + 1) (w6.alloc (.cells #[.int .i64 0, .int .i64 3, .int .i64 0] 67)) (some ⟨w6.heap.size, 0, none⟩) [((0 : Int), 3, 0)]) := kA_one (by omega) (by simp [go_sem]) (by simp [go_sem]) (by simp [go_sem])
          have HT : Hid (X.1.2.length + 1 ≤ 4194304) := by have := HXO.out.2.2; simp only [Hid]; omega
          have HP6 := hid hp6
          have HD6 := hid hD6
          have HO6 := hid hO6
          clear hp6 hD6 hO6 hB6 hI6 i0 i1 i2 i3 i4 i5 i6 i7 j1
          go_wp2_with (at_builtin; refine Kind.app kA_ok (w6.alloc (.cells #[.int .i64 0, .int .i64 3, .int .i64 0] 67)) rfl (.tmp 66) (.tmp 69) rfl lo av6 X.1.2 rfl HA.out (by simp; omega) (some ⟨w6.heap.size, 0, none⟩) [((0 : Int), 3, 0)] 1 1 rfl rfl (by simp) _ HNN.out HT.out ?_; intro v' w' hO' hB' hG' hn'; obtain ⟨zo, zc, rfl, _, _⟩ := hO'.fresh; have HTT2 := hid (LiveW.putTell (s := (endP X.1.1 0, X.1.2)) ownT_s work_s HP6.out HD6.out HO6.out hv6 hr6 hlp6 hhi6 hbV hO' hB' hG'); have d1 := HTT2.out.2.2.1; have f1 := HTT2.out.2.2.2; have hB8 : Below lo w w' := (hB7.trans (hbV.mono (by omega))).trans hB'; clear hO' hB' hG' hn')
          first | refine bodyPost_ret (results_none rfl _ _ _) rfl ?_ | refine bodyPost_end (results_none rfl _ _ _) rfl ?_
          have hT := HTT2.out
          rw [show (X.1.2 ++ ([((0 : Int), (3 : Int), (0 : Int))] : List (Int × Int × Int))).length = X.1.2.length + 1 by simp] at hT
          rw [HR.out, giveS, ← HX.out]
          exact ⟨rfl, ⟨hi, hlh, hT.1⟩, hB8.setCell (p := ⟨p, 1, none⟩) hlp6 _⟩
        · have HR : Hid (failSP s c tick = restartS (setFaults (setRun s.1 0 c false) 0 CC, s.2) c) := by
            rw [Hid, failSP, if_neg]
            · rw [HEV.out]; show restartS (setFaults (setRun s.1 0 c false) 0 (recentI f tick wi), s.2) c = _
              rw [← HCI.out]
            · rw [HEV.out]; show ¬ ((recentI f tick wi).length : Int) > mr
              rw [← HCI.out]; exact hgt
          rw [hCl] at hgt
          have hp5 := HP4.out
          rw [← hBr.out.block p (Array.getElem?_eq_some_iff.1 HP4.out).1] at hp5
          have hPF := LiveW.putFaults (s := (setRun s.1 0 c false, s.2)) ownT_s hp5 (HD4.out.later dKeeper_ok hBr.out) (HO4.out.below hBr.out) HV4.out.1 HV4.out.2 hlp4 hlh (k := 0) (by omega) HEX.out.symm (FR.out.wide hhi4 (Nat.le_refl _)) (by omega)
          obtain ⟨hP1, hP2, hP3⟩ := hPF
          have hB6 := hB5.setCell (p := ⟨g3, 0 * 8 + 6, none⟩) hP3 (.slice (some ⟨g, 0, none⟩) CC.length qc)
          obtain ⟨⟨j0, _, _, _, _, j5, j6, _⟩, hfz5, hg51, _, hg53⟩ := hK_at (show hKeeper.Fresh _ _ _ _ _ _ from (HD4.out.later dKeeper_ok hBr.out).1) (k := 0) (by omega) HEX.out.symm
          have z6 := hfz5 6
          have hgp : p ≠ g3 := fun e => by
            subst e
            obtain ⟨g7, e7, _, _, _, ho7⟩ := (show hKeeper.Fresh _ _ _ _ _ _ from HD4.out.1).at (show 0 < ls4.length by omega)
            simp at e7; subst e7
            obtain ⟨cur, hcur⟩ := owns_type ho7
            rw [HP4.out] at hcur; simp at hcur
            exact absurd hcur.2 (by decide)
          rw [hCl] at hP1 hB6
          simp only [Nat.zero_mul, Nat.zero_add] at hP1 hB6 j0 j5 j6 z6
          have HSF : Hid ((setFaults (setRun s.1 0 c false) 0 CC).length = 1) := by rw [Hid, (setFaults_sh (by rw [HLN.out]; decide) CC).1]; exact HLN.out
          have HRF : Hid ((runsP (el (setFaults (setRun s.1 0 c false) 0 CC) 0)).length = r.length) := by
            rw [Hid, ((setFaults_sh (by rw [HLN.out]; decide) CC).2 0).2.2, HE4.out]; simp [runsP]
          have HKD : Hid ((el (setFaults (setRun s.1 0 c false) 0 CC) 0).1 = kd) := by
            rw [Hid, setFaults, el_set_same (by rw [HLN.out]; decide), HE4.out]; rfl
          have hs5' : hi ≤ wr.heap.size := by omega
          obtain ⟨W6, hW6⟩ : ∃ W6, W6 = wr.setCell ⟨g3, 6, none⟩ (.slice (some ⟨g, 0, none⟩) RR.length qc) := ⟨_, rfl⟩
          rw [← hW6] at hP1 hB6
          have L6 := hid hP1
          have HW6 := hid hW6
          have hs6 := hB6.size
          have hz6 : W6.heap.size = wr.heap.size := by rw [hW6]; simp [World.setCell]
          clear hP1 hP2 hp5 hfz5 hW6 i0 i1 i2 i3 i4 i5 i6 i7 HP4 HD4 HO4 HV4 HEX FR HFZ HFA
          cases hk : (kd == 1)
          · have HRS : Hid (restartS (setFaults (setRun s.1 0 c false) 0 CC, s.2) c = startAll (startP (fromF (fun s m => offP s 0 m) (setFaults (setRun s.1 0 c false) 0 CC, s.2) 0 (c + 1)).1 0 c) 0 (fromF (fun s m => offP s 0 m) (setFaults (setRun s.1 0 c false) 0 CC, s.2) 0 (c + 1)).2.reverse) := by
              rw [Hid, restartS, if_neg]; rw [HKD.out, hk]; decide
            obtain ⟨N, hNN⟩ : ∃ N, N = r.length := ⟨_, rfl⟩
            obtain ⟨FF, hFF⟩ : ∃ FF, FF = (fun (s : St) (m : Nat) => offP s 0 m) := ⟨_, rfl⟩
            obtain ⟨S6, hS6⟩ : ∃ S6 : St, S6 = (setFaults (setRun s.1 0 c false) 0 CC, s.2) := ⟨_, rfl⟩
            obtain ⟨H, hH⟩ : ∃ H, H = wr.heap.size := ⟨_, rfl⟩
            rw [← hS6, ← hFF] at HRS
            rw [← hS6] at HR L6
            rw [← hH] at L6
            have HO6 : Hid (One 0 N 1000 S6) := by rw [hS6, hNN]; exact ⟨HSF.out, HRF.out, by show s.2.length + 1000 ≤ _; omega⟩
            obtain ⟨Z, hZ⟩ : ∃ Z, Z = fromF FF S6 0 (c + 1) := ⟨_, rfl⟩
            rw [← hZ] at HRS
            have HZ : Hid (downF FF 0 (c + 1) (N - (c + 1)) (S6, []) = Z) := by
              rw [Hid, hZ, fromF, show (runsP (el S6.1 0)).length = N from HO6.out.2.1]
            have HFF := hid hFF
            have hr4l : r4.length = N := by have := HR4.out; rw [hNN]; first | (rw [← this]; simp) | (rw [this]; simp)
            rw [hr4l] at j5
            rw [← hNN] at hc hr10
            have hHW : H ≤ W6.heap.size := by omega
            have hlH : lo ≤ H := by omega
            clear hFF hS6 hNN hZ HSF HRF HKD HCC HCI HE4 hCl L5 hBr hX HR4
            go_wp2
            go_loopw [12, 13] (fun a b wr => ∃ (m : Nat) (x : St × List Int) (v : Value), v = a ∧ b = .int .i64 ((c : Int) + (m : Int)) ∧ c + 1 + m ≤ N ∧ Hid (downF FF 0 (c + 1) m x = Z) ∧ Hid (LiveW 54 lo H wr p ra x.1) ∧ Hid (One 0 N (m + 900) x.1) ∧ Hid (kI.Own H wr v x.2) ∧ x.2.length + m ≤ 10 ∧ Hid (∀ j ∈ x.2, 0 ≤ j ∧ j < (N : Int)) ∧ Below lo w wr ∧ H ≤ wr.heap.size) (fun _ b _ => ((intOf b) - (c : Int)).toNat)
            case atStart =>
              rw [← HW6.out]
              exact ⟨N - (c + 1), (S6, []), _, rfl, by go_num, by omega, HZ, L6, ⟨HO6.out.1, HO6.out.2.1, by show S6.2.length + (N - (c + 1) + 900) ≤ 4000000; have := HO6.out.2.2; omega⟩, Kind.Own.nil _ _ _, by simp; omega, fun j hj => by simp at hj, hB6, hHW⟩
            case round =>
              obtain ⟨m, x, v, rfl, rfl, hm, hXd, hLr, hOr, hRr, hxl, hEl, hB, hHr⟩ := hrel
              obtain ⟨ho1, ho2, ho3⟩ := hOr.out
              have hx0 : 0 < x.1.1.length := by omega
              cases m with
              | zero =>
                have hX2 : Hid (x = Z) := hXd.out
                have hE : ((c : Int) + ((0 : Nat) : Int)) = (c : Int) := by omega
                rw [hE]
                have hle : ¬ ((c : Int) < (c : Int)) := by omega
                obtain ⟨yo, yc, rfl, _, _⟩ := hRr.out.fresh
                go_wp2_with fail
                refine (startS_one lo H p ra x.1 0 c wr hLr.out (by omega) hx0 ho1 (by rw [ho2]; omega) (by omega)).mono ?_
                rintro e w8 ⟨rfl, hL8, hB8, hI8⟩
                have R8 := hid (hI8.own hRr.out)
                have L8 := hid hL8
                have hB8' := hB.trans hB8
                have hs8 := hB8.size
                have HSt : Hid (One 0 N 800 (startP x.1 0 c)) := ⟨(startP_len _ _ _).trans ho1, ((Sh.run hx0 c true).2 0).2.2.trans ho2, by show (x.1.2 ++ [_]).length + 800 ≤ _; simp; omega⟩
                clear hL8 hB8 hI8 hLr hRr hXd
                go_wp2
                go_loopw [14] (fun b wr => ∃ (i : Nat) (y : St), b = .int .i64 ((i : Int) - 1) ∧ i ≤ x.2.length ∧ Hid (startAll y 0 (x.2.take i).reverse = startAll (startP x.1 0 c) 0 x.2.reverse) ∧ Hid (LiveW 54 lo H wr p ra y) ∧ Hid (One 0 N (i + 100) y) ∧ Hid (kI.Own H wr (.slice yo x.2.length yc) x.2) ∧ Below lo w wr ∧ H ≤ wr.heap.size) (fun b _ => ((intOf b) + 1).toNat)
                case atStart => exact ⟨x.2.length, startP x.1 0 c, by go_num, Nat.le_refl _, by rw [Hid, List.take_length], L8, ⟨HSt.out.1, HSt.out.2.1, by have := HSt.out.2.2; omega⟩, R8, hB8', by omega⟩
                case round =>
                  obtain ⟨i, y, rfl, hi2, hYd, hLy, hOy, hRy, hBy, hHy⟩ := hrel
                  obtain ⟨hy1, hy2, hy3⟩ := hOy.out
                  have hy0 : 0 < y.1.length := by omega
                  cases i with
                  | zero =>
                    have hE0 : (((0 : Nat) : Int) - 1) = (-1 : Int) := by omega
                    rw [hE0]
                    have HY : Hid (y = startAll (startP x.1 0 c) 0 x.2.reverse) := hYd.out
                    go_wp2
                    first | refine bodyPost_ret (results_none rfl _ _ _) rfl ?_ | refine bodyPost_end (results_none rfl _ _ _) rfl ?_
                    rw [HR.out, HRS.out, ← hX2.out, ← HY.out]
                    exact ⟨rfl, ⟨H, hlH, hLy.out⟩, hBy⟩
                  | succ i =>
                    have hE1 : (((i + 1 : Nat) : Int) - 1) = (i : Int) := by push_cast; omega
                    rw [hE1]
                    obtain ⟨zo', zc', e9, _, hF9⟩ := hRy.out.fresh
                    simp at e9
                    obtain ⟨rfl, rfl⟩ := e9
                    obtain ⟨b9, off9, rfl, hb9, hc9⟩ := ints_at hF9.in (k := i) (by omega)
                    have c9 := hc9 i (by omega)
                    have hmem := hEl.out (el x.2 i) (el_mem (by omega))
                    obtain ⟨n9, hn9⟩ := Int.eq_ofNat_of_zero_le hmem.1
                    rw [hn9] at c9
                    have HYn : Hid (startAll (startP y 0 n9) 0 (x.2.take i).reverse = startAll (startP x.1 0 c) 0 x.2.reverse) := by
                      rw [Hid, ← hYd.out, take_succ_el (by omega), List.reverse_append, hn9]
                      rfl
                    have hn9N : n9 < N := by omega
                    clear hF9 hc9 hmem hn9 hYd
                    go_wp2_with fail
                    refine (startS_one lo H p ra y 0 n9 wr hLy.out (by omega) hy0 hy1 (by rw [hy2]; exact hn9N) (by omega)).mono ?_
                    rintro e w9 ⟨rfl, hL9, hB9, hI9⟩
                    have R9 := hid (hI9.own hRy.out)
                    have L9 := hid hL9
                    have hB9' := hBy.trans hB9
                    have hs9 := hB9.size
                    have HSn : Hid (One 0 N (i + 100) (startP y 0 n9)) := ⟨(startP_len _ _ _).trans hy1, ((Sh.run hy0 n9 true).2 0).2.2.trans hy2, by show (y.2 ++ [_]).length + (i + 100) ≤ _; simp; omega⟩
                    clear hL9 hB9 hI9 c9
                    go_wp2
                    go_roundw
                    case rel => exact ⟨i, startP y 0 n9, by go_num, by omega, HYn, L9, HSn, R9, hB9', by omega⟩
                    case measure => simp [intOf] <;> omega
              | succ m =>
                obtain ⟨j, hj⟩ : ∃ j, j = c + 1 + m := ⟨_, rfl⟩
                have hE : ((c : Int) + ((m + 1 : Nat) : Int)) = (j : Int) := by rw [hj]; push_cast; omega
                rw [hE]
                have hjN : j < N := by omega
                have hcj : (c : Int) < (j : Int) := by omega
                have hXs : Hid (downF FF 0 (c + 1) m (if el (runsP (el x.1.1 0)) j then (FF x.1 j, x.2 ++ [(j : Int)]) else x) = Z) := by rw [Hid, hj]; exact hXd.out
                have HJ := hid hj
                clear hXd hE hj
                obtain ⟨g2, kc2, av2, ls2, hp2, hD2, hO2, hv2, hr2, hlp2, hhi2⟩ := hLr.out
                have hlen2 := len_ls hv2
                have e0 : wr.cell? ⟨p, 0, none⟩ = some (.slice (some ⟨g2, 0, none⟩) 1 kc2) := by rw [Go.Joins.cell_of_block hp2, ← ho1]; rfl
                have hev2 := el_map_val hv2 (k := 0) (by omega)
                obtain ⟨⟨kd2, mr2, wi2, up2, ch2, ⟨ro2, rc2, r2⟩, ⟨fo2, fc2, f2⟩, ov2⟩, ex2⟩ : ∃ v, v = el ls2 0 := ⟨_, rfl⟩
                obtain ⟨⟨_, _, _, _, _, k5, _, _⟩, _, hg21, _, hg23⟩ := hK_at hD2.1 (k := 0) (by omega) ex2.symm
                rw [← ex2] at hev2
                have hr2N : r2.length = N := by rw [← ho2, hev2]; rfl
                rw [hr2N] at k5
                simp only [Nat.zero_mul, Nat.zero_add] at k5
                have hFr := hD2.2.1 0 (by omega)
                rw [← ex2] at hFr
                have hIn : kB.In wr.heap.size wr ro2 r2 := Kind.Fresh.in hFr.1
                obtain ⟨b1, off1, hro, hb1, hc1⟩ := bools_at hIn (k := j) (by omega)
                have cj := hc1 j (by omega)
                have her : el (runsP (el x.1.1 0)) j = el r2 j := by rw [hev2]; rfl
                clear hp2 hD2 hO2 hv2 hr2 ex2 hev2 hFr hc1 hIn
                subst hro
                cases hy : el r2 j
                · have hXn : Hid (downF FF 0 (c + 1) m x = Z) := by have := hXs.out; rwa [her, hy] at this
                  rw [hy] at cj
                  clear her hXs hy
                  go_wp2
                  go_roundw
                  case rel => exact ⟨m, x, v, rfl, by have := HJ.out; go_num, by omega, hXn, hLr, ⟨ho1, ho2, by omega⟩, hRr, by omega, hEl, hB, hHr⟩
                  case measure => have := HJ.out; simp [intOf]; omega
                · have hXn : Hid (downF FF 0 (c + 1) m (FF x.1 j, x.2 ++ [(j : Int)]) = Z) := by have := hXs.out; rwa [her, hy] at this
                  rw [hy] at cj
                  have hbV := below1 wr (.cells #[.int .i64 (j : Int)] 3)
                  have HA := hid (hRr.out.below hbV)
                  have HN : Hid (kI.In (wr.heap.size + 1) (wr.alloc (.cells #[.int .i64 (j : Int)] 3)) (some ⟨wr.heap.size, 0, none⟩) [(j : Int)]) := int_one (by omega) (by simp)
                  have hll : x.2.length + 1 ≤ 4194304 := by omega
                  have hloW : lo ≤ wr.heap.size := by omega
                  clear her hXs hy
                  go_wp2_with (at_builtin; refine Kind.app kI_ok (wr.alloc (.cells #[.int .i64 (j : Int)] 3)) rfl (.tmp 129) (.tmp 131) rfl H v x.2 rfl HA.out (by simp; omega) (some ⟨wr.heap.size, 0, none⟩) [(j : Int)] 1 1 rfl rfl (by simp) _ HN.out hll ?_; intro v' w' hO' hB' hG' hn'; have HL' : Hid (LiveW 54 lo H w' p ra x.1) := (LiveW.intW ownT_s (hLr.out.later hbV) (SameTy.grown HA.out hG') (lo2 := H) (fun b hb => hB'.block b hb) (Nat.le_refl _) hB'.size); have hBn : Below lo w w' := (hB.trans (hbV.mono hloW)).trans (hB'.mono hlH); have hHn : H ≤ w'.heap.size := (by have h1 := hB'.size; have h2 := hbV.size; omega); have HO' := hid hO'; clear hO' hB' hG' hn' cj k5 e0)
                  refine (stopS_one lo H p ra x.1 0 j w' HL'.out (by omega) hx0 ho1 (by rw [ho2]; exact hjN) (by omega)).mono ?_
                  rintro e w9 ⟨rfl, hL9, hB9, hI9⟩
                  have R9 := hid (hI9.own HO'.out)
                  have L9 : Hid (LiveW 54 lo H w9 p ra (FF x.1 j)) := by rw [Hid, HFF.out]; exact hL9
                  have hB9' := hBn.trans hB9
                  have hs9 := hB9.size
                  have HSn : Hid (One 0 N (m + 900) (FF x.1 j)) := by rw [Hid, HFF.out]; exact (show One 0 N ((m + 900) + 1) x.1 from ⟨ho1, ho2, by omega⟩).off hx0
                  have HEn : Hid (∀ i ∈ x.2 ++ [(j : Int)], 0 ≤ i ∧ i < (N : Int)) := fun i hi => by
                    rcases List.mem_append.1 hi with h | h
                    · exact hEl.out i h
                    · obtain rfl := List.mem_singleton.1 h; omega
                  clear hL9 hB9 hI9
                  go_wp2
                  go_roundw
                  case rel => exact ⟨m, (FF x.1 j, x.2 ++ [(j : Int)]), _, rfl, by have := HJ.out; go_num, by omega, hXn, L9, HSn, R9, by simp; omega, HEn, hB9', by omega⟩
                  case measure => have := HJ.out; simp [intOf]; omega
          · have HRS : Hid (restartS (setFaults (setRun s.1 0 c false) 0 CC, s.2) c = startP (setFaults (setRun s.1 0 c false) 0 CC, s.2) 0 c) := by
              rw [Hid, restartS, if_pos]; rw [HKD.out]; exact hk
            go_wp2_with fail
            rw [← HW6.out]
            refine (startS_one lo wr.heap.size p ra (setFaults (setRun s.1 0 c false) 0 CC, s.2) 0 c W6 L6.out (by omega) (by show 0 < (setFaults (setRun s.1 0 c false) 0 CC).length; rw [HSF.out]; decide) HSF.out (by show c < (runsP (el (setFaults (setRun s.1 0 c false) 0 CC) 0)).length; rw [HRF.out]; exact hc) (by show s.2.length + 1 ≤ _; omega)).mono ?_
            rintro e w7 ⟨rfl, hL7, hB7, hI7⟩
            have L7 := hid hL7
            clear hL7 hI7
            go_wp2
            first | refine bodyPost_ret (results_none rfl _ _ _) rfl ?_ | refine bodyPost_end (results_none rfl _ _ _) rfl ?_
            rw [HR.out, HRS.out]
            exact ⟨rfl, ⟨wr.heap.size, by omega, L7.out⟩, hB6.trans hB7⟩
end Go.Proofs.YtbpacibfboldcaaDoor
