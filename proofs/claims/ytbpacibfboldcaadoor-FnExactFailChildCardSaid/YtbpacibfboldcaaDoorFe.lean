
/- A child of a keeper alone fails: the program. No conditions but those written. -/
import Derived.Test.YtbpacibfboldcaaDoorFd
namespace Go.Proofs.YtbpacibfboldcaaDoor
open Go.RowKit

/-- What a failure comes to where a keeper is alone. -/
def failP (s : St) (c : Nat) (tick : Int) : St :=
  if (recentI (fltP (el s.1 0)) tick (el s.1 0).2.2.1).length > (el s.1 0).2.1 then giveP s 0 c else restartP (setFaults s.1 0 (recentI (fltP (el s.1 0)) tick (el s.1 0).2.2.1), s.2) 0 c
theorem bare_one {ps : List PKeeper} (h1 : ps.length = 1) (hu : upP (el ps 0) = -1) : Bare ps 0 := fun c => by
  refine placeP_no fun j hj => ?_
  obtain rfl : j = 0 := by omega
  simp only [hitP, hu]
  have : ((-1 : Int) == ((0 : Nat) : Int)) = false := by decide
  rw [this]; rfl
theorem giveP_sh {s : St} {k c : Nat} (hG : GoodS 8 s k) (hr : el (runsP (el s.1 k)) c = true) : Sh s.1 (giveP s k c).1 := by
  have h1 := Sh.run hG.kl c false
  have hG1 := hG.off hr
  have hK := fromF_keeps (n := 8) (u := k) 0 hG1.tree hG1.kl hG1.fuel
  exact (h1.trans hK.sh).trans (Sh.end (by rw [hK.sh.1]; exact hG1.kl))
set_option maxRecDepth 100000 in
set_option maxHeartbeats 8000000 in
theorem fail_one (lo hi p : Nat) (ra : List (Option Addr × Nat)) (s : St) (c : Nat) (tick : Int) (w : World) (hL : LiveW 62 lo hi w p ra s) (hlo : lo ≤ w.heap.size) (hlh : lo ≤ hi) (h0 : 0 < lo) (hG : GoodS 8 s 0) (h1 : s.1.length = 1) (hu : upP (el s.1 0) = -1) (hrun : el (runsP (el s.1 0)) c = true) (hf : (fltP (el s.1 0)).length ≤ 1000) (ht0 : 0 ≤ tick) (ht1 : tick ≤ 1000000) (hw0 : 1 ≤ (el s.1 0).2.2.1) (hw1 : (el s.1 0).2.2.1 ≤ 1000) (hg : w.cell? ⟨0, 0, none⟩ = some (.iface 104 (.agg #[.pointer (some ⟨1, 84, none⟩)]))) :
    Calls Tryd.prog 36 #[.pointer (some ⟨p, 0, none⟩), .int .i64 0, .int .i64 c, .int .i64 tick] w fun e w' => e = .returned (.tuple #[]) ∧ (∃ hi', lo ≤ hi' ∧ LiveW 62 lo hi' w' p ra (failP s c tick)) ∧ Below lo w w' := by
  have HB := hid (bare_one h1 hu)
  have HL := hid hL
  have HG := hid hG
  have HRUN := hid hrun
  have HH := hid (And.intro hf (And.intro hw0 hw1))
  have HGP := hid hg
  have HSG := hid (giveP_sh hG hrun)
  have HU := hid hu
  have H1 := hid h1
  obtain ⟨V0, hV0⟩ : ∃ V0, V0 = w.alloc (.cells #[.int .i64 0] 81) := ⟨_, rfl⟩
  have hb0 : Below w.heap.size w V0 := by rw [hV0]; exact below1 _ _
  have X0 : Hid (V0.heap[w.heap.size]? = some (.cells #[.int .i64 0] 81 (0, 0))) := by rw [Hid, hV0]; exact alloc_new _ _
  have L0 := hid (HL.out.later hb0)
  have hs0 : w.heap.size < V0.heap.size := (Array.getElem?_eq_some_iff.1 X0.out).1
  have hB0 := hb0.mono hlo
  have HV0 := hid hV0
  have hps : p < w.heap.size := by obtain ⟨_, _, _, _, hp, _⟩ := hL; exact (Array.getElem?_eq_some_iff.1 hp).1
  have HT := hid (tryAnew_any lo hi p ra s 0 c tick V0 L0.out (by omega) hlh hG hrun HB.out hf ht0 ht1 hw0 hw1)
  clear hL hG hrun hf hw0 hw1 hV0 hb0 hg hu h1
  by_cases hgt : (recentI (fltP (el s.1 0)) tick (el s.1 0).2.2.1).length > (el s.1 0).2.1
  · have HA : Hid (∀ e w', AnsTry lo hi V0 p ra s 0 c tick e w' = (e = .returned (gaveV 0) ∧ LiveW 62 lo hi w' p ra s ∧ Below lo V0 w' ∧ IntsKept V0 w')) := fun e w' => by rw [AnsTry, if_pos hgt]; rfl
    have HR : Hid (failP s c tick = giveP s 0 c) := by rw [Hid, failP, if_pos hgt]
    clear hgt
    go_enter Tryd.func36, Tryd.ntmps36
    go_wp2
    go_loopw [1, 2] (fun a b wr => (a = .int .i64 0 ∧ b = .int .i64 c ∧ wr = w) ∨ (a = .int .i64 (-1) ∧ (∃ d, b = .int .i64 d) ∧ Hid (LiveW 62 lo hi wr p ra (giveP s 0 c)) ∧ Below lo w wr)) (fun a _ _ => ((intOf a) + 1).toNat)
    case atStart => exact .inl ⟨rfl, rfl, rfl⟩
    case round =>
      rcases hrel with ⟨rfl, rfl, rfl⟩ | ⟨rfl, ⟨d, rfl⟩, hLr, hBr⟩
      · go_wp2_with fail
        rw [← HV0.out]
        refine HT.out.mono ?_
        intro e w1 he
        rw [HA.out] at he
        obtain ⟨rfl, hL1, hB1, hI1⟩ := he
        have hcell : w1.heap[wr.heap.size]? = some (.cells #[.int .i64 0] 81 (0, 0)) := (hI1 _ _ _ X0.out (by unfold WorkT; decide)).trans X0.out
        have hpe : wr.heap.size < w1.heap.size := (Array.getElem?_eq_some_iff.1 hcell).1
        have hcc : w1.cell? ⟨wr.heap.size, 0, none⟩ = some (.int .i64 0) := by rw [Go.Joins.cell_of_block hcell]; rfl
        have hzz : w1.frozen? ⟨wr.heap.size, 0, none⟩ = false := Go.Joins.unfrozen_of_block hcell 0
        have hB1' := hB0.trans hB1
        have hg1 : w1.cell? ⟨0, 0, none⟩ = some (.iface 104 (.agg #[.pointer (some ⟨1, 84, none⟩)])) := (hB1'.cell (p := ⟨0, 0, none⟩) h0).trans HGP.out
        obtain ⟨WA, hWA⟩ : ∃ WA, WA = ((((w1.alloc (.cells #[.pointer (some ⟨wr.heap.size, 0, none⟩)] 86)).alloc (.cells #[.pointer (some ⟨1, 86, none⟩), .pointer (some ⟨w1.heap.size, 0, none⟩), .int .u64 150] 92)).alloc (.cells #[.pointer (some ⟨1, 86, none⟩), .pointer (some ⟨w1.heap.size, 0, none⟩), .int .u64 150] 92)).alloc (.cells #[.int .i64 0] 81)).setCell ⟨wr.heap.size, 0, none⟩ (.int .i64 0) := ⟨_, rfl⟩
        obtain ⟨VA, hVA⟩ : ∃ VA, VA = ((((w1.alloc (.cells #[.pointer (some ⟨wr.heap.size, 0, none⟩)] 86)).alloc (.cells #[.pointer (some ⟨1, 86, none⟩), .pointer (some ⟨w1.heap.size, 0, none⟩), .int .u64 150] 92)).alloc (.cells #[.pointer (some ⟨1, 86, none⟩), .pointer (some ⟨w1.heap.size, 0, none⟩), .int .u64 150] 92)).alloc (.cells #[.int .i64 0] 81)) := ⟨_, rfl⟩
        have hbA : Below w1.heap.size w1 VA := by rw [hVA]; exact Below.allocS (below3 _ _ _ _) _
        have hcellA : VA.heap[wr.heap.size]? = some (.cells #[.int .i64 0] 81 (0, 0)) := (hbA.block _ hpe).trans hcell
        have hWV : WA = VA.setCell ⟨wr.heap.size, 0, none⟩ (.int .i64 0) := by rw [hWA, hVA]
        have hST : SameTy 81 VA WA := by rw [hWV]; exact SameTy.set hcellA
        have LA := hid (LiveW.other ownT_g (by decide) (hL1.later hbA) hST (by rw [hWV]; simp [World.setCell]))
        have hBA : Below lo wr WA := by rw [hWV]; exact (hB1'.trans (hbA.mono (by have := hB1'.size; omega))).setCell (p := ⟨wr.heap.size, 0, none⟩) hlo _
        have cA : WA.cell? ⟨wr.heap.size, 0, none⟩ = some (.int .i64 0) := by rw [hWV, Go.Joins.cell_of_block (Go.Joins.block_setCell (i := 0) hcellA _) 0]; rfl
        have hsA := hBA.size
        have HAS := hid (as_hit 0 ⟨wr.heap.size, 0, none⟩ (.int .i64 0) w1 hg1 hcc hzz)
        rw [← hWA] at HAS
        clear hL1 hI1 hcell hcc hzz hg1 hbA hcellA hWV hST hWA hVA hB1
        unfold gaveV
        go_wp2_with fail
        refine HAS.out.mono ?_
        rintro e w2 ⟨rfl, rfl⟩
        go_wp2_with fail
        refine (giveUp_any lo hi p ra s 0 c w2 LA.out (by omega) HG.out HRUN.out).mono ?_
        rintro e w3 ⟨rfl, hL3, hB3⟩
        have L3 := hid hL3
        have hB3' := hBA.trans hB3
        obtain ⟨g, kc, av, ls, hp, hD, hO, hv, hr, hlp, hhi⟩ := hL3
        have hlS : (giveP s 0 c).1.length = 1 := by rw [HSG.out.1]; exact H1.out
        have hlen := len_ls hv
        rw [hlS] at hlen
        have d0 : w3.cell? ⟨p, 0, none⟩ = some (.slice (some ⟨g, 0, none⟩) 1 kc) := by rw [Go.Joins.cell_of_block hp, ← hlS]; rfl
        have hev := el_map_val hv (k := 0) (by omega)
        obtain ⟨⟨kd, mr, wi, up, ch, ⟨ro, rc, r⟩, ⟨fo, fc, f⟩, ov⟩, ex⟩ : ∃ v, v = el ls 0 := ⟨_, rfl⟩
        obtain ⟨⟨_, _, _, i3, i4, _, _, _⟩, _, _, _, hg33⟩ := hK_at hD.1 (k := 0) (by omega) ex.symm
        rw [← ex] at hev
        have hup : up = -1 := by
          have h2 : upP (el (giveP s 0 c).1 0) = up := by rw [hev]; rfl
          rw [← h2, (HSG.out.2 0).1]; exact HU.out
        subst hup
        simp only [Nat.zero_mul, Nat.zero_add] at i3 i4
        clear hp hD hO hv hr ex hev hlS hlen hB3 cA
        go_wp2
        go_quiet (fail)
        go_wp2
        go_roundw
        case rel => exact .inr ⟨rfl, ⟨_, rfl⟩, L3.out.later (below_draws (Below.refl _ _) _), below_draws hB3' _⟩
        case measure => simp [intOf]
      · go_wp2
        first | refine bodyPost_ret (results_none rfl _ _ _) rfl ?_ | refine bodyPost_end (results_none rfl _ _ _) rfl ?_
        rw [HR.out]
        exact ⟨rfl, ⟨hi, hlh, hLr.out⟩, hBr⟩
  · have HA : Hid (∀ e w', AnsTry lo hi V0 p ra s 0 c tick e w' = (e = .returned .nilIface ∧ (∃ hi', lo ≤ hi' ∧ LiveW 62 lo hi' w' p ra (restartP (setFaults s.1 0 (recentI (fltP (el s.1 0)) tick (el s.1 0).2.2.1), s.2) 0 c)) ∧ Below lo V0 w' ∧ IntsKept V0 w')) := fun e w' => by rw [AnsTry, if_neg hgt]
    have HR : Hid (failP s c tick = restartP (setFaults s.1 0 (recentI (fltP (el s.1 0)) tick (el s.1 0).2.2.1), s.2) 0 c) := by rw [Hid, failP, if_neg hgt]
    clear hgt
    go_enter Tryd.func36, Tryd.ntmps36
    go_wp2
    go_loopw [1, 2] (fun a b wr => a = .int .i64 0 ∧ b = .int .i64 c ∧ wr = w) (fun a _ _ => ((intOf a) + 1).toNat)
    case atStart => exact ⟨rfl, rfl, rfl⟩
    case round =>
      obtain ⟨rfl, rfl, rfl⟩ := hrel
      go_wp2_with fail
      rw [← HV0.out]
      refine HT.out.mono ?_
      intro e w1 he
      rw [HA.out] at he
      obtain ⟨rfl, ⟨hi', hlh', hL1⟩, hB1, hI1⟩ := he
      have L1 := hid hL1
      have hB1' := hB0.trans hB1
      clear hL1 hB1 hI1
      go_wp2_with fail
      refine (as_nil _ w1).mono ?_
      rintro e w2 ⟨rfl, rfl⟩
      go_wp2
      first | refine bodyPost_ret (results_none rfl _ _ _) rfl ?_ | refine bodyPost_end (results_none rfl _ _ _) rfl ?_
      rw [HR.out]
      exact ⟨rfl, ⟨hi', hlh', L1.out⟩, hB1'⟩
end Go.Proofs.YtbpacibfboldcaaDoor
