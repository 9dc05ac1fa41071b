
/- A child begins, and is stopped: the specification, where a keeper is alone (whatever its Up). No conditions but those written. -/
import Derived.Test.YtbpacibfboldcaaDoorFe
import Derived.Test.YtbpacibfboldcaaDoorLy
namespace Go.Proofs.YtbpacibfboldcaaDoor
open Go.RowKit

set_option maxRecDepth 10000 in
set_option maxHeartbeats 4000000 in
theorem under_one (lo hi p : Nat) (ra : List (Option Addr × Nat)) (s : St) (k c : Nat) (w : World) (hL : LiveW 54 lo hi w p ra s) (hl : s.1.length = 1) :
    Calls Tryd.prog 46 #[.pointer (some ⟨p, 0, none⟩), .int .i64 k, .int .i64 c] w fun e w' => e = .returned (.int .i64 (-1)) ∧ Below w.heap.size w w' := by
  obtain ⟨g, kc, av, ls, hp, hD, hO, hv, hr, hlp, hhi⟩ := hL
  have hlen := len_ls hv
  have c0 : w.cell? ⟨p, 0, none⟩ = some (.slice (some ⟨g, 0, none⟩) s.1.length kc) := by rw [Go.Joins.cell_of_block hp]; rfl
  have HZ : Hid (hKeeper.In w.heap.size w (some ⟨g, 0, none⟩) ls) := Kind.Fresh.in hD.1
  have HV := hid hv
  obtain ⟨N, hN⟩ : ∃ N, N = s.1.length := ⟨_, rfl⟩
  rw [← hN] at c0 hlen hl
  have HN := hid hN
  clear hp hD hO hr hv hN
  go_enter Tryd.func46, Tryd.ntmps46
  go_wp2
  clear c0
  go_loopw [14] (fun i wr => ∃ q : Nat, q ≤ N ∧ i = .int .i64 q ∧ Below w.heap.size w wr) (fun i _ => N - (intOf i).toNat)
  case atStart => exact ⟨0, Nat.zero_le _, rfl, Below.refl _ _⟩
  case round =>
    obtain ⟨q, hq, rfl, hB⟩ := hrel
    by_cases hlt : q < N
    · obtain ⟨b0, off, hbo, hb, hc⟩ := hKeeper_at HZ.out (k := q) (by omega)
      obtain ⟨rfl, rfl⟩ : g = b0 ∧ 0 = off := by simpa using hbo
      have d1 := (hB.cell (p := ⟨g, 0 + q * 8, none⟩) hb).trans (hc q (by omega)).1
      have d2 := (hB.cell (p := ⟨g, 0 + q * 8 + 1, none⟩) hb).trans (hc q (by omega)).2.1
      have d3 := (hB.cell (p := ⟨g, 0 + q * 8 + 2, none⟩) hb).trans (hc q (by omega)).2.2.1
      have d4 := (hB.cell (p := ⟨g, 0 + q * 8 + 3, none⟩) hb).trans (hc q (by omega)).2.2.2.1
      have d5 := (hB.cell (p := ⟨g, 0 + q * 8 + 4, none⟩) hb).trans (hc q (by omega)).2.2.2.2.1
      have d6 := (hB.cell (p := ⟨g, 0 + q * 8 + 5, none⟩) hb).trans (hc q (by omega)).2.2.2.2.2.1
      have d7 := (hB.cell (p := ⟨g, 0 + q * 8 + 6, none⟩) hb).trans (hc q (by omega)).2.2.2.2.2.2.1
      have d8 := (hB.cell (p := ⟨g, 0 + q * 8 + 7, none⟩) hb).trans (hc q (by omega)).2.2.2.2.2.2.2
      have hev := el_map_val HV.out (k := q) (by omega)
      obtain ⟨⟨kd, mr, wi, up, ch, ⟨ro, rc, r⟩, ⟨fo, fc, f⟩, ov⟩, ey⟩ : ∃ v, v = el ls q := ⟨_, rfl⟩
      rw [← ey] at d1 d2 d3 d4 d5 d6 d7 d8 hev
      have HE : Hid (el s.1 q = (kd, mr, wi, up, ch, r, f, ov)) := hev
      clear ey hev hc hbo
      dsimp only at d1 d2 d3 d4 d5 d6 d7 d8
      simp only [Nat.zero_add] at d1 d2 d3 d4 d5 d6 d7 d8
      have hBW := Below.allocS hB (.cells #[.int .i64 kd, .int .i64 mr, .int .i64 wi, .int .i64 up, .int .i64 ch, .slice ro r.length rc, .slice fo f.length fc, .bool ov] 27)
      have hd0 : decide (0 < q) = false := by simp; omega
      clear HE
      go_wp2
      go_roundw
      case rel => exact ⟨q + 1, by omega, by go_num, hBW⟩
      case measure => simp [intOf]; omega
    · obtain rfl : q = N := by omega
      go_wp2
      go_ret
      exact ⟨rfl, hB⟩
/-- A child of a keeper alone is stopped. -/
def offP (s : St) (k c : Nat) : St := (setRun s.1 k c false, s.2 ++ [((k : Int), 1, (c : Int))])
set_option maxRecDepth 10000 in
set_option maxHeartbeats 8000000 in
theorem stopS_one (lo hi p : Nat) (ra : List (Option Addr × Nat)) (s : St) (k c : Nat) (w : World) (hL : LiveW 54 lo hi w p ra s) (hlo : lo ≤ w.heap.size) (hk : k < s.1.length) (h1 : s.1.length = 1) (hc : c < (runsP (el s.1 k)).length) (hn : s.2.length + 1 ≤ 4194304) :
    Calls Tryd.prog 55 #[.pointer (some ⟨p, 0, none⟩), .int .i64 k, .int .i64 c] w fun e w' => AnsW 54 lo hi w p ra (offP s k c) e w' := by
  have HL := hid hL
  have HC : Hid (c < (runsP (el s.1 k)).length) := hc
  have HT : Hid (s.2.length + 1 ≤ 4194304) := hn
  clear hL hc hn
  go_enter Tryd.func55, Tryd.ntmps55
  go_wp2_with fail
  refine (under_one lo hi p ra s k c w HL.out h1).mono ?_
  rintro e w2 ⟨rfl, hb2⟩
  have L2 := hid (HL.out.later hb2)
  have I2 := hid (IntsKept.later hb2)
  have hB2 := hb2.mono hlo
  have hbs := hb2.size
  clear hb2
  obtain ⟨g3, kc3, av3, ls3, hp3, hD3, hO3, hv3, hr3, hlp3, hhi3⟩ := L2.out
  have hlen3 : ls3.length = (s.1).length := len_ls hv3
  have e0 : w2.cell? ⟨p, 0, none⟩ = some (.slice (some ⟨g3, 0, none⟩) (s.1).length kc3) := by rw [Go.Joins.cell_of_block hp3]; rfl
  have hev3 : el (s.1) k = valKeeper (el ls3 k) := el_map_val hv3 (k := k) (by omega)
  obtain ⟨⟨kd3, mr3, wi3, up3, ch3, ⟨ro3, rc3, r3⟩, ⟨fo3, fc3, f3⟩, ov3⟩, ex3⟩ : ∃ v, v = el ls3 k := ⟨_, rfl⟩
  obtain ⟨⟨_, _, _, _, _, h5, _, _⟩, _, hg31, _, hg33⟩ := hK_at hD3.1 (k := k) (by omega) ex3.symm
  rw [← ex3] at hev3
  have hr3c : c < r3.length := by rw [show r3 = runsP (el (s.1) k) by rw [hev3]; rfl]; exact HC.out
  have hFr3 := hD3.2.1 k (by omega)
  rw [← ex3] at hFr3
  have hFq : kB.Fresh lo hi w2 ro3 rc3 r3 := hFr3.1
  obtain ⟨b3, rfl, hb31, hb32, hb33, _⟩ := hFq.at (show 0 < r3.length by omega)
  obtain ⟨hL4, hI4, hlb, hcb, hfb⟩ := LiveW.putRun (show 54 ≠ kB.ty by decide) hp3 hD3 hO3 hv3 hr3 hlp3 hhi3 (k := k) (by omega) ex3.symm hr3c false
  have L4 := hid hL4
  have I4 := hid (I2.out.trans hI4)
  have hB4 := hB2.setCell (p := ⟨b3, c, none⟩) hlb (.bool false)
  obtain ⟨W4, hW4⟩ : ∃ W4, W4 = w2.setCell ⟨b3, c, none⟩ (.bool false) := ⟨_, rfl⟩
  rw [← hW4] at L4 I4 hB4
  have HW4 := hid hW4
  clear hp3 hD3 hO3 hv3 hr3 ex3 hev3 hFr3 hFq hL4 hI4 hlen3
  obtain ⟨g4, kc4, av4, ls4, hp4, hD4, hO4, hv4, hr4, hlp4, hhi4⟩ := L4.out
  have d1' : W4.cell? ⟨p, 1, none⟩ = some av4 := by rw [Go.Joins.cell_of_block hp4]; rfl
  rw [hW4] at d1'
  have hps : p < w2.heap.size := by have := (Array.getElem?_eq_some_iff.1 hp4).1; rw [hW4] at this; simpa [World.setCell] using this
  have hbV := below1 W4 (.cells #[.int .i64 (k : Int), .int .i64 1, .int .i64 (c : Int)] 67)
  have HA := hid (hO4.below hbV)
  have HNN : Hid (kA.In (W4.heap.size + 1) (W4.alloc (.cells #[.int .i64 (k : Int), .int .i64 1, .int .i64 (c : Int)] 67)) (some ⟨W4.heap.size, 0, none⟩) [((k : Int), 1, (c : Int))]) := kA_one (by omega) (by simp [go_sem]) (by simp [go_sem]) (by simp [go_sem])
  have HS4 : Hid (W4.heap.size = w2.heap.size) := by rw [hW4]; simp [World.setCell, Hid]
  have hlo4 : lo ≤ W4.heap.size := by have := hB4.size; omega
  have HP4 := hid hp4
  have HD4 := hid hD4
  have HO4 := hid hO4
  rw [HS4.out] at HNN
  clear hp4 hD4 hO4 hW4
  go_wp2_with (at_builtin; rw [← HW4.out]; refine Kind.app kA_ok (W4.alloc (.cells #[.int .i64 (k : Int), .int .i64 1, .int .i64 (c : Int)] 67)) rfl (.tmp 30) (.tmp 34) rfl lo av4 (s.2) rfl HA.out (by simp; omega) (some ⟨w2.heap.size, 0, none⟩) [((k : Int), 1, (c : Int))] 1 1 rfl rfl (by simp) _ HNN.out HT.out ?_; intro v' w' hO' hB' hG' hn'; obtain ⟨qo, qc, rfl, _, _⟩ := hO'.fresh; have HTT2 := hid (LiveW.putTell (s := (setRun (s.1) k c false, s.2)) ownT_s work_s HP4.out HD4.out HO4.out hv4 hr4 hlp4 hhi4 hbV hO' hB' hG'); have d1 := HTT2.out.2.2.1; have f1 := HTT2.out.2.2.2; have hB6 : Below lo w w' := (hB4.trans (hbV.mono hlo4)).trans hB'; clear hO' hB' hG' hn')
  first | refine bodyPost_ret (results_none rfl _ _ _) rfl ?_ | refine bodyPost_end (results_none rfl _ _ _) rfl ?_
  have hT := HTT2.out
  rw [show ((s.2) ++ ([((k : Int), (1 : Int), (c : Int))] : List (Int × Int × Int))).length = (s.2).length + 1 by simp] at hT
  exact ⟨rfl, hT.1, hB6.setCell (p := ⟨p, 1, none⟩) hlp4 _, I4.out.trans hT.2.1⟩
set_option maxRecDepth 10000 in
set_option maxHeartbeats 8000000 in
theorem startS_one (lo hi p : Nat) (ra : List (Option Addr × Nat)) (s : St) (k c : Nat) (w : World) (hL : LiveW 54 lo hi w p ra s) (_hlo : lo ≤ w.heap.size) (hk : k < s.1.length) (h1 : s.1.length = 1) (hc : c < (runsP (el s.1 k)).length) (hn : s.2.length + 1 ≤ 4194304) :
    Calls Tryd.prog 54 #[.pointer (some ⟨p, 0, none⟩), .int .i64 k, .int .i64 c] w fun e w' => AnsW 54 lo hi w p ra (startP s k c) e w' := by
  have HL := hid hL
  have HC : Hid (c < (runsP (el s.1 k)).length) := hc
  have HT : Hid (s.2.length + 1 ≤ 4194304) := hn
  have hSh := Sh.run hk c true
  have HLS : Hid ((setRun s.1 k c true).length = 1) := by rw [Hid, hSh.1]; exact h1
  have hB0 : Below lo w w := Below.refl _ _
  clear hL hSh hc hn
  obtain ⟨g3, kc3, av3, ls3, hp3, hD3, hO3, hv3, hr3, hlp3, hhi3⟩ := HL.out
  have hlen3 : ls3.length = (s.1).length := len_ls hv3
  have e0 : w.cell? ⟨p, 0, none⟩ = some (.slice (some ⟨g3, 0, none⟩) (s.1).length kc3) := by rw [Go.Joins.cell_of_block hp3]; rfl
  have hev3 : el (s.1) k = valKeeper (el ls3 k) := el_map_val hv3 (k := k) (by omega)
  obtain ⟨⟨kd3, mr3, wi3, up3, ch3, ⟨ro3, rc3, r3⟩, ⟨fo3, fc3, f3⟩, ov3⟩, ex3⟩ : ∃ v, v = el ls3 k := ⟨_, rfl⟩
  obtain ⟨⟨_, _, _, _, _, h5, _, _⟩, _, hg31, _, hg33⟩ := hK_at hD3.1 (k := k) (by omega) ex3.symm
  rw [← ex3] at hev3
  have hr3c : c < r3.length := by rw [show r3 = runsP (el (s.1) k) by rw [hev3]; rfl]; exact HC.out
  have hFr3 := hD3.2.1 k (by omega)
  rw [← ex3] at hFr3
  have hFq : kB.Fresh lo hi w ro3 rc3 r3 := hFr3.1
  obtain ⟨b3, rfl, hb31, hb32, hb33, _⟩ := hFq.at (show 0 < r3.length by omega)
  obtain ⟨hL4, hI4, hlb, hcb, hfb⟩ := LiveW.putRun (show 54 ≠ kB.ty by decide) hp3 hD3 hO3 hv3 hr3 hlp3 hhi3 (k := k) (by omega) ex3.symm hr3c true
  have L4 := hid hL4
  have I4 := hid (hI4)
  have hB4 := hB0.setCell (p := ⟨b3, c, none⟩) hlb (.bool true)
  obtain ⟨W4, hW4⟩ : ∃ W4, W4 = w.setCell ⟨b3, c, none⟩ (.bool true) := ⟨_, rfl⟩
  rw [← hW4] at L4 I4 hB4
  have HW4 := hid hW4
  clear hp3 hD3 hO3 hv3 hr3 ex3 hev3 hFr3 hFq hL4 hI4 hlen3
  obtain ⟨g4, kc4, av4, ls4, hp4, hD4, hO4, hv4, hr4, hlp4, hhi4⟩ := L4.out
  have d1' : W4.cell? ⟨p, 1, none⟩ = some av4 := by rw [Go.Joins.cell_of_block hp4]; rfl
  rw [hW4] at d1'
  have hps : p < w.heap.size := by have := (Array.getElem?_eq_some_iff.1 hp4).1; rw [hW4] at this; simpa [World.setCell] using this
  have hbV := below1 W4 (.cells #[.int .i64 (k : Int), .int .i64 2, .int .i64 (c : Int)] 67)
  have HA := hid (hO4.below hbV)
  have HNN : Hid (kA.In (W4.heap.size + 1) (W4.alloc (.cells #[.int .i64 (k : Int), .int .i64 2, .int .i64 (c : Int)] 67)) (some ⟨W4.heap.size, 0, none⟩) [((k : Int), 2, (c : Int))]) := kA_one (by omega) (by simp [go_sem]) (by simp [go_sem]) (by simp [go_sem])
  have HS4 : Hid (W4.heap.size = w.heap.size) := by rw [hW4]; simp [World.setCell, Hid]
  have hlo4 : lo ≤ W4.heap.size := by have := hB4.size; omega
  have HP4 := hid hp4
  have HD4 := hid hD4
  have HO4 := hid hO4
  rw [HS4.out] at HNN
  clear hp4 hD4 hO4 hW4
  go_enter Tryd.func54, Tryd.ntmps54
  go_wp2_with (at_builtin; rw [← HW4.out]; refine Kind.app kA_ok (W4.alloc (.cells #[.int .i64 (k : Int), .int .i64 2, .int .i64 (c : Int)] 67)) rfl (.tmp 22) (.tmp 26) rfl lo av4 (s.2) rfl HA.out (by simp; omega) (some ⟨w.heap.size, 0, none⟩) [((k : Int), 2, (c : Int))] 1 1 rfl rfl (by simp) _ HNN.out HT.out ?_; intro v' w' hO' hB' hG' hn'; obtain ⟨qo, qc, rfl, _, _⟩ := hO'.fresh; have HTT2 := hid (LiveW.putTell (s := (setRun (s.1) k c true, s.2)) ownT_s work_s HP4.out HD4.out HO4.out hv4 hr4 hlp4 hhi4 hbV hO' hB' hG'); have d1 := HTT2.out.2.2.1; have f1 := HTT2.out.2.2.2; have hB6 : Below lo w w' := (hB4.trans (hbV.mono hlo4)).trans hB'; clear hO' hB' hG' hn')
  have hTt := HTT2.out
  rw [show ((s.2) ++ ([((k : Int), (2 : Int), (c : Int))] : List (Int × Int × Int))).length = (s.2).length + 1 by simp] at hTt
  have L7 := hid hTt.1
  have I7 := hid (I4.out.trans hTt.2.1)
  have hB7 := hB6.setCell (p := ⟨p, 1, none⟩) hlp4 (.slice qo (s.2.length + 1) qc)
  have hs7 := hB7.size
  clear hTt HTT2
  refine (under_one lo hi p ra _ k c _ L7.out HLS.out).mono ?_
  rintro e w8 ⟨rfl, hb8⟩
  go_wp2
  first | refine bodyPost_ret (results_none rfl _ _ _) rfl ?_ | refine bodyPost_end (results_none rfl _ _ _) rfl ?_
  exact ⟨rfl, L7.out.later hb8, hB7.trans (hb8.mono (by omega)), I7.out.trans (IntsKept.later hb8)⟩
end Go.Proofs.YtbpacibfboldcaaDoor
