
/- A keeper gives up; a panic is caught; a child fails: the program. No conditions but those written. -/
import Derived.Test.YtbpacibfboldcaaDoorFb
import Derived.Test.YtbpacibfboldcaaDoorFc
import Derived.Test.YtbpacibfboldcaaDoorEa
import Derived.Defers
import Derived.Recover
import Derived.Laws.Pointers
import Derived.Lib.SmallJoins
namespace Go.Proofs.YtbpacibfboldcaaDoor
open Go.RowKit

theorem GoodS.off {n : Nat} {s : St} {k c : Nat} (h : GoodS n s k) (hr : el (runsP (el s.1 k)) c = true) : GoodS n (setRun s.1 k c false, s.2) k := by
  have hs := Sh.run h.kl c false
  have h2 := cntR_off h.kl hr
  have h3 := h.told
  exact ⟨h.tree.sh hs, by rw [hs.1]; exact h.kl, by rw [hs.1]; exact h.fuel, by rw [hs.1]; exact h.len, fun j => by rw [(hs.2 j).2.2]; exact h.runs j, by dsimp only; omega⟩
set_option maxRecDepth 10000 in
set_option maxHeartbeats 4000000 in
theorem giveUp_any (lo hi p : Nat) (ra : List (Option Addr × Nat)) (s : St) (k c : Nat) (w : World) (hL : LiveW 62 lo hi w p ra s) (_hlo : lo ≤ w.heap.size) (hG : GoodS 8 s k) (hrun : el (runsP (el s.1 k)) c = true) :
    Calls Tryd.prog 64 #[.pointer (some ⟨p, 0, none⟩), .int .i64 k, .int .i64 c] w fun e w' => e = .returned (.tuple #[]) ∧ LiveW 62 lo hi w' p ra (giveP s k c) ∧ Below lo w w' := by
  have HL := hid hL
  have HC := hid (run_lt hrun)
  have hkl := hG.kl
  have hl8 := hG.len
  have HG1 := hid (hG.off hrun)
  obtain ⟨Tt, hTt⟩ : ∃ Tt, Tt = fromF (fun s m => stopF 8 s k m) (setRun s.1 k c false, s.2) k 0 := ⟨_, rfl⟩
  have HR : Hid (giveP s k c = (endP Tt.1.1 k, Tt.1.2 ++ [((k : Int), 3, 0)])) := by rw [Hid, giveP, hTt]
  have hK := fromF_keeps (n := 8) (u := k) 0 HG1.out.tree HG1.out.kl HG1.out.fuel
  rw [← hTt] at hK
  have hlT : k < Tt.1.1.length := by rw [hK.sh.1]; exact HG1.out.kl
  have hl8T : Tt.1.1.length ≤ 8 := by rw [hK.sh.1]; exact HG1.out.len
  have hT2 : Tt.1.2.length + 1 ≤ 4194304 := by
    have h1 := hK.told
    have h2 := HG1.out.told
    omega
  have HTT := hid hTt
  have hB0 : Below lo w w := Below.refl _ _
  clear hL hG hK hTt hrun
  obtain ⟨g3, kc3, av3, ls3, hp3, hD3, hO3, hv3, hr3, hlp3, hhi3⟩ := HL.out
  have hlen3 : ls3.length = (s.1).length := len_ls hv3
  have hkl3 : k < (s.1).length := hkl
  have e0 : w.cell? ⟨p, 0, none⟩ = some (.slice (some ⟨g3, 0, none⟩) (s.1).length kc3) := by rw [Go.Joins.cell_of_block hp3]; rfl
  have hev3 : el (s.1) k = valKeeper (el ls3 k) := el_map_val hv3 (k := k) (by omega)
  obtain ⟨⟨kd3, mr3, wi3, up3, ch3, ⟨ro3, rc3, r3⟩, ⟨fo3, fc3, f3⟩, ov3⟩, ex3⟩ : ∃ v, v = el ls3 k := ⟨_, rfl⟩
  obtain ⟨⟨_, _, _, _, _, h5, _, _⟩, _, hg31, _, hg33⟩ := hK_at hD3.1 (k := k) (by omega) ex3.symm
  rw [← ex3] at hev3
  have hr3c : c < r3.length := by rw [show r3 = runsP (el (s.1) k) by rw [hev3]; rfl]; exact HC.out
  have hFr3 := hD3.2.1 k (by omega)
  rw [← ex3] at hFr3
  have hFq : kB.Fresh lo hi w ro3 rc3 r3 := hFr3.1
  obtain ⟨b3, rfl, hb31, hb32, hb33, _⟩ := hFq.at (show 0 < r3.length by omega)
  obtain ⟨hL4, hI4, hlb, hcb, hfb⟩ := LiveW.putRun (show 62 ≠ kB.ty by decide) hp3 hD3 hO3 hv3 hr3 hlp3 hhi3 (k := k) (by omega) ex3.symm hr3c false
  have L4 := hid hL4
  have I4 := hid hI4
  have hB4 := hB0.setCell (p := ⟨b3, c, none⟩) hlb (.bool false)
  clear hp3 hD3 hO3 hv3 hr3 ex3 hev3 hFr3 hFq hL4 hI4 hlen3
  obtain ⟨W4, hW4⟩ : ∃ W4, W4 = w.setCell ⟨b3, c, none⟩ (.bool false) := ⟨_, rfl⟩
  rw [← hW4] at L4 I4 hB4
  have HW4 := hid hW4
  clear hW4
  go_enter Tryd.func64, Tryd.ntmps64
  go_wp2_with fail
  rw [← HW4.out]
  have hs4 := hB4.size
  refine (fromC_all 8 lo hi p ra _ k 0 W4 L4.out (by omega) HG1.out (Nat.zero_le _)).mono ?_
  rw [← HTT.out]
  rintro e w5 ⟨⟨v5, rfl, hO5⟩, hL5, hB5, hI5⟩
  obtain ⟨qo, qc, rfl, _, _⟩ := hO5.fresh
  have L5 := hid hL5
  have hB5' := hB4.trans hB5
  have hs5 := hB5'.size
  clear hO5 hL5 hB5 hI5
  go_wp2_with fail
  refine (end_any lo hi p ra Tt.1 k w5 L5.out hlT hl8T).mono ?_
  rintro e w6 ⟨rfl, hL6, hB6, hI6⟩
  have L6 := hid hL6
  have hB6' := hB5'.trans hB6
  have hs6 := hB6'.size
  clear hL6 hB6 hI6
  go_wp2_with fail
  refine (tell_any lo hi p ra (endP Tt.1.1 k, Tt.1.2) k 3 0 w6 L6.out (by omega) hT2).mono ?_
  rintro e w7 ⟨rfl, hL7, hB7, hI7⟩
  have hB7' := hB6'.trans hB7
  go_wp2
  first | refine bodyPost_ret (results_none rfl _ _ _) rfl ?_ | refine bodyPost_end (results_none rfl _ _ _) rfl ?_
  rw [HR.out]
  exact ⟨rfl, hL7, hB7'⟩
/-- A block of another type is written. -/
theorem LiveW.other {t T : TypeId} {lo hi : Nat} {V W' : World} {p : Nat} {ra : List (Option Addr × Nat)} {s : St} (hT : OwnT T) (htT : t ≠ T) (h : LiveW t lo hi V p ra s) (hS : SameTy T V W') (hs : V.heap.size ≤ W'.heap.size) : LiveW t lo hi W' p ra s := by
  obtain ⟨g, kc, av, ls, hp, hD, hO, hv, hr, hlo, hhi⟩ := h
  exact ⟨g, kc, av, ls, (hS p _ _ hp htT).trans hp, hD.sameTy hS hT.h hT.b hT.i, hS.own hO hT.a, hv, hr, hlo, Nat.le_trans hhi hs⟩
theorem alloc_new (w : World) (o : Obj) : (w.alloc o).heap[w.heap.size]? = some o := by
  show (w.heap.push o)[w.heap.size]? = some o
  simp
theorem ownT_e : OwnT 84 := ⟨by decide, by decide, by decide, by decide⟩
theorem ownT_g : OwnT 81 := ⟨by decide, by decide, by decide, by decide⟩
set_option maxRecDepth 100000 in
set_option maxHeartbeats 1000000 in
/-- The deferred closure, where the frame panics with the program's own error: it is caught. -/
theorem catch_panicking (a : Addr) (x : Value) (k : Int) (older : List PanicEntry) (w : World) (hc : w.cell? a = some x) (hz : w.frozen? a = false) (ha : a.block < w.heap.size) :
    CallsD Tryd.prog 71 #[.pointer (some a)] (.panicking ({ v := gaveV k, recovered := false } :: older)) w fun e u' w' =>
      e = .returned (.tuple #[]) ∧ u' = .panicking ({ v := gaveV k, recovered := true } :: older) ∧ w' = (w.alloc (.cells #[.int .i64 k] 81)).setCell a (gaveV k) := by
  refine callsD_of_wpS Tryd.func71 rfl fun c₀ cs hu => ?_
  apply wpS_seq
  apply wpS_region
  simp [wpOpsS, go_sem, recoverD, hu, Tryd.ntmps71, Exit.thenS]
  rw [show (#[Value.pointer (some a)] ++ (Array.replicate 11 undef).setIfInBounds 3 (gaveV k)) = #[.pointer (some a), undef, undef, undef, gaveV k, undef, undef, undef, undef, undef, undef, undef] from rfl]
  unfold gaveV
  have hne : a ≠ ⟨w.heap.size, 0, none⟩ := fun e => by rw [e] at ha; simp at ha
  have hc' : (w.alloc (.cells #[.int .i64 k] 81)).cell? a = some x := (World.cell?_alloc_lt _ _ a ha).trans hc
  have hz' : (w.alloc (.cells #[.int .i64 k] 81)).frozen? a = false := (World.frozen?_alloc_old _ _ a (Nat.ne_of_lt ha)).trans hz
  have hta : (Instr.typeAssert (Value.iface 81 (Value.agg #[Value.int IntKind.i64 k])) 20 81 true).run Tryd.prog w = .ok (.tuple #[.agg #[.int .i64 k], .bool true]) w := by kernel_rfl
  refine wpS_of_wp ?_
  obtain ⟨QQ, hQQ⟩ : ∃ QQ : Exit → Act → World → Prop, QQ = (fun e a' w' => bodyPostS Tryd.prog Tryd.f71 c₀ cs (fun e u' w' => e = Ending.returned (Value.tuple #[]) ∧ u' = FrameMode.panicking ({ v := Value.iface 81 (Value.agg #[Value.int IntKind.i64 k]), recovered := true } :: older) ∧ w' = (w.alloc (Obj.cells #[Value.int IntKind.i64 k] 81)).setCell a (Value.iface 81 (Value.agg #[Value.int IntKind.i64 k]))) e a' ({ c₀ with mode := FrameMode.panicking ({ v := Value.iface 81 (Value.agg #[Value.int IntKind.i64 k]), recovered := true } :: older) } :: cs) w') := ⟨_, rfl⟩
  have HQ := hid hQQ
  change Code.wp _ _ (fun e a' w' => bodyPostS Tryd.prog Tryd.f71 c₀ cs _ e a' ({ c₀ with mode := FrameMode.panicking ({ v := Value.iface 81 (Value.agg #[Value.int IntKind.i64 k]), recovered := true } :: older) } :: cs) w') _ _
  rw [← hQQ]
  clear hu hQQ
  go_wp2
  rw [HQ.out]
  exact ⟨rfl, _, rfl, _, results_none rfl _ _ _, rfl, rfl, rfl⟩
set_option maxRecDepth 100000 in
set_option maxHeartbeats 1000000 in
/-- The deferred closure, where the frame returns: nothing is caught. -/
theorem catch_idle (a : Addr) (w : World) :
    CallsD Tryd.prog 71 #[.pointer (some a)] .returning w fun e u' w' => e = .returned (.tuple #[]) ∧ u' = .returning ∧ w' = w := by
  refine callsD_of_wpS Tryd.func71 rfl fun c₀ cs hu => ?_
  apply wpS_seq
  apply wpS_region
  simp [wpOpsS, go_sem, recoverD, hu, Tryd.ntmps71, Exit.thenS]
  rw [show (#[Value.pointer (some a)] ++ (Array.replicate 11 undef).setIfInBounds 3 Value.nilIface) = #[.pointer (some a), undef, undef, undef, Value.nilIface, undef, undef, undef, undef, undef, undef, undef] from rfl]
  refine wpS_of_wp ?_
  obtain ⟨QQ, hQQ⟩ : ∃ QQ : Exit → Act → World → Prop, QQ = (fun e a' w' => bodyPostS Tryd.prog Tryd.f71 c₀ cs (fun e u' w' => e = Ending.returned (Value.tuple #[]) ∧ u' = FrameMode.returning ∧ w' = w) e a' (c₀ :: cs) w') := ⟨_, rfl⟩
  have HQ := hid hQQ
  have HU := hid hu
  rw [← hQQ]
  clear hu hQQ
  go_wp2
  rw [HQ.out]
  refine ⟨rfl, .returning, ?_, _, results_none rfl _ _ _, rfl, rfl, rfl⟩
  have := HU.out
  cases c₀
  simp_all
/-- What tryAnew leaves. -/
def AnsTry (lo hi : Nat) (w : World) (p : Nat) (ra : List (Option Addr × Nat)) (s : St) (k c : Nat) (tick : Int) (e : Ending) (w' : World) : Prop :=
  if (recentI (fltP (el s.1 k)) tick (el s.1 k).2.2.1).length > (el s.1 k).2.1 then e = .returned (gaveV k) ∧ LiveW 62 lo hi w' p ra s ∧ Below lo w w' ∧ IntsKept w w'
  else e = .returned .nilIface ∧ (∃ hi', lo ≤ hi' ∧ LiveW 62 lo hi' w' p ra (restartP (setFaults s.1 k (recentI (fltP (el s.1 k)) tick (el s.1 k).2.2.1), s.2) k c)) ∧ Below lo w w' ∧ IntsKept w w'
theorem setFaults_sh {ps : List PKeeper} {k : Nat} (hk : k < ps.length) (f : List Int) : Sh ps (setFaults ps k f) := Sh.set hk rfl rfl rfl
theorem cntR_faults {ps : List PKeeper} {k : Nat} (hk : k < ps.length) (f : List Int) : cntR (setFaults ps k f) = cntR ps := by
  have h1 := sum_set (f := fun p => (runsP p).count true) (p := withFaults (el ps k) f) hk
  have h3 : (runsP (withFaults (el ps k) f)).count true = (runsP (el ps k)).count true := rfl
  unfold cntR setFaults
  simp only [h3] at h1
  omega
theorem GoodS.faults {n : Nat} {s : St} {k : Nat} (h : GoodS n s k) (f : List Int) : GoodS n (setFaults s.1 k f, s.2) k := by
  have hs := setFaults_sh h.kl f
  have h2 := cntR_faults h.kl f
  have h3 := h.told
  exact ⟨h.tree.sh hs, by rw [hs.1]; exact h.kl, by rw [hs.1]; exact h.fuel, by rw [hs.1]; exact h.len, fun j => by rw [(hs.2 j).2.2]; exact h.runs j, by dsimp only; omega⟩
set_option maxRecDepth 100000 in
set_option maxHeartbeats 4000000 in
theorem tryAnew_any (lo hi p : Nat) (ra : List (Option Addr × Nat)) (s : St) (k c : Nat) (tick : Int) (w : World) (hL : LiveW 62 lo hi w p ra s) (hlo : lo ≤ w.heap.size) (hlh : lo ≤ hi) (hG : GoodS 8 s k) (hrun : el (runsP (el s.1 k)) c = true) (hN : Bare s.1 k) (hf : (fltP (el s.1 k)).length ≤ 1000) (ht0 : 0 ≤ tick) (ht1 : tick ≤ 1000000) (hw0 : 1 ≤ (el s.1 k).2.2.1) (hw1 : (el s.1 k).2.2.1 ≤ 1000) :
    Calls Tryd.prog 63 #[.pointer (some ⟨p, 0, none⟩), .int .i64 k, .int .i64 c, .int .i64 tick] w fun e w' => AnsTry lo hi w p ra s k c tick e w' := by
  have hmf : ∀ (fn : Fn) (first cap : Array Value) (w : World), (Instr.makeFunc fn first cap).run Tryd.prog w = .ok (.func fn first cap) w := fun _ _ _ _ => rfl
  have HL := hid hL
  have HG := hid hG
  have HRUN := hid hrun
  have HBN := hid hN
  have HH := hid (And.intro hf (And.intro hw0 hw1))
  obtain ⟨V0, hV0⟩ : ∃ V0, V0 = w.alloc (.cells #[.nilIface] 84) := ⟨_, rfl⟩
  have hb0 : Below w.heap.size w V0 := by rw [hV0]; exact below1 _ _
  have X0 : Hid (V0.heap[w.heap.size]? = some (.cells #[.nilIface] 84 (0, 0))) := by rw [Hid, hV0]; exact alloc_new _ _
  have L0 := hid (HL.out.later hb0)
  have hs0 := hb0.size
  have hB0 := hb0.mono hlo
  have HV0 := hid hV0
  clear hL hG hrun hN hf hw0 hw1 hV0 hb0
  have hbx : IntsKept w V0 := by rw [HV0.out]; exact IntsKept.later (below1 _ _)
  have HI0 := hid hbx
  have hbr : ∀ W, IntsKept V0 W → W.heap[w.heap.size]? = some (.cells #[.nilIface] 84 (0, 0)) := fun W h => (h _ _ _ X0.out (by unfold WorkT; decide)).trans X0.out
  have HBR := hid hbr
  clear hbx hbr
  by_cases hgt : (recentI (fltP (el s.1 k)) tick (el s.1 k).2.2.1).length > (el s.1 k).2.1
  · have HA : ∀ e w', AnsTry lo hi w p ra s k c tick e w' = (e = .returned (gaveV k) ∧ LiveW 62 lo hi w' p ra s ∧ Below lo w w' ∧ IntsKept w w') := fun e w' => by rw [AnsTry, if_pos hgt]
    have HAB : ∀ e w', AnsBear lo hi V0 p ra s k tick e w' = (e = .panicked [{ v := gaveV k, recovered := false }] ∧ LiveW 62 lo hi w' p ra s ∧ Below lo V0 w' ∧ IntsKept V0 w') := fun e w' => by rw [AnsBear, if_pos hgt]
    simp only [HA]
    have HAB' := hid HAB
    clear hgt HA HAB
    go_enter_defers Tryd.func63, Tryd.ntmps63
    go_wp2_with fail
    rw [← HV0.out]
    refine (bear_any lo hi p ra s k tick V0 L0.out (by omega) hlh HG.out.kl HH.out.1 ht0 ht1 HH.out.2.1 HH.out.2.2).mono ?_
    intro e w1 he
    rw [HAB'.out] at he
    obtain ⟨rfl, hL1, hB1, hI1⟩ := he
    have hcell := HBR.out w1 hI1
    have hps : w.heap.size < w1.heap.size := (Array.getElem?_eq_some_iff.1 hcell).1
    have hV1 := below1 w1 (.cells #[.int .i64 (k : Int)] 81)
    have hcell2 : (w1.alloc (.cells #[.int .i64 (k : Int)] 81)).heap[w.heap.size]? = some (.cells #[.nilIface] 84 (0, 0)) := (hV1.block _ hps).trans hcell
    have hST : SameTy 84 (w1.alloc (.cells #[.int .i64 (k : Int)] 81)) ((w1.alloc (.cells #[.int .i64 (k : Int)] 81)).setCell ⟨w.heap.size, 0, none⟩ (gaveV k)) := SameTy.set hcell2
    have HL3 := hid (LiveW.other ownT_e (by decide) (hL1.later hV1) hST (by simp [World.setCell]))
    have HB3 := hid (((hB0.trans hB1).trans (hV1.mono (by omega))).setCell (p := ⟨w.heap.size, 0, none⟩) hlo (gaveV k))
    have HI3 : Hid (IntsKept w ((w1.alloc (.cells #[.int .i64 (k : Int)] 81)).setCell ⟨w.heap.size, 0, none⟩ (gaveV k))) := fun b cur ty e hn => by
      have hbl := (Array.getElem?_eq_some_iff.1 e).1
      have h1 := (HI0.out.trans hI1) b cur ty e hn
      rw [Below.heap_setCell _ _ _ _ (show b ≠ w.heap.size by omega), hV1.block b (by have := hB1.size; omega)]; exact h1
    have hcc : w1.cell? ⟨w.heap.size, 0, none⟩ = some .nilIface := by rw [Go.Joins.cell_of_block hcell]; rfl
    have hzz : w1.frozen? ⟨w.heap.size, 0, none⟩ = false := Go.Joins.unfrozen_of_block hcell 0
    have c3 : ((w1.alloc (.cells #[.int .i64 (k : Int)] 81)).setCell ⟨w.heap.size, 0, none⟩ (gaveV k)).cell? ⟨w.heap.size, 0, none⟩ = some (gaveV k) := by rw [Go.Joins.cell_of_block (Go.Joins.block_setCell (i := 0) hcell2 (gaveV k)) 0]; rfl
    dsimp only
    refine leaves_cons (f := 71) (args := #[.pointer (some ⟨w.heap.size, 0, none⟩)]) (by simp) (by simp [go_sem]) ?_
    refine (catch_panicking ⟨w.heap.size, 0, none⟩ .nilIface k [] w1 hcc hzz hps).mono ?_
    rintro e u' w'' ⟨rfl, rfl, rfl⟩
    show ∃ v, (results Tryd.f63 _).run Tryd.prog _ = .ok v _ ∧ _
    exact ⟨gaveV k, by simp [results, Tryd.results63, go_sem, c3], rfl, HL3.out, HB3.out, HI3.out⟩
  · have HA : ∀ e w', AnsTry lo hi w p ra s k c tick e w' = (e = .returned .nilIface ∧ (∃ hi', lo ≤ hi' ∧ LiveW 62 lo hi' w' p ra (restartP (setFaults s.1 k (recentI (fltP (el s.1 k)) tick (el s.1 k).2.2.1), s.2) k c)) ∧ Below lo w w' ∧ IntsKept w w') := fun e w' => by rw [AnsTry, if_neg hgt]
    have HAB : ∀ e w', AnsBear lo hi V0 p ra s k tick e w' = (e = .returned (.tuple #[]) ∧ LiveW 62 lo w'.heap.size w' p ra (setFaults s.1 k (recentI (fltP (el s.1 k)) tick (el s.1 k).2.2.1), s.2) ∧ Below lo V0 w' ∧ IntsKept V0 w') := fun e w' => by rw [AnsBear, if_neg hgt]
    simp only [HA]
    have HAB' := hid HAB
    obtain ⟨FF, hFF⟩ : ∃ FF, FF = recentI (fltP (el s.1 k)) tick (el s.1 k).2.2.1 := ⟨_, rfl⟩
    rw [← hFF] at HAB' ⊢
    have hsF := setFaults_sh HG.out.kl FF
    have HGF := hid (HG.out.faults FF)
    have HCF : Hid (c < (runsP (el (setFaults s.1 k FF) k)).length) := by rw [Hid, (hsF.2 k).2.2]; exact run_lt HRUN.out
    have HBF := hid (HBN.out.sh hsF)
    clear hgt HA HAB hFF hsF
    go_enter_defers Tryd.func63, Tryd.ntmps63
    go_wp2_with fail
    rw [← HV0.out]
    refine (bear_any lo hi p ra s k tick V0 L0.out (by omega) hlh HG.out.kl HH.out.1 ht0 ht1 HH.out.2.1 HH.out.2.2).mono ?_
    intro e w1 he
    rw [HAB'.out] at he
    obtain ⟨rfl, hL1, hB1, hI1⟩ := he
    have L1 := hid hL1
    have I1 := hid hI1
    have hs1 := hB1.size
    have hB1' := hB0.trans hB1
    clear hL1 hI1 hB1
    go_wp2_with fail
    refine (restart_any lo w1.heap.size p ra _ k c w1 L1.out (by omega) HGF.out HCF.out HBF.out).mono ?_
    rintro e w2 ⟨rfl, hL2, hB2, hI2⟩
    have hcell := HBR.out w2 (I1.out.trans hI2)
    have hST : SameTy 84 w2 (w2.setCell ⟨w.heap.size, 0, none⟩ .nilIface) := SameTy.set hcell
    have HL3 := hid (LiveW.other ownT_e (by decide) hL2 hST (by simp [World.setCell]))
    have HB3 := hid ((hB1'.trans hB2).setCell (p := ⟨w.heap.size, 0, none⟩) hlo .nilIface)
    have HI3 : Hid (IntsKept w (w2.setCell ⟨w.heap.size, 0, none⟩ .nilIface)) := fun b cur ty e hn => by
      have hbl := (Array.getElem?_eq_some_iff.1 e).1
      have h1 := ((HI0.out.trans I1.out).trans hI2) b cur ty e hn
      rw [Below.heap_setCell _ _ _ _ (show b ≠ w.heap.size by omega)]; exact h1
    have hcc : w2.cell? ⟨w.heap.size, 0, none⟩ = some .nilIface := by rw [Go.Joins.cell_of_block hcell]; rfl
    have hzz : w2.frozen? ⟨w.heap.size, 0, none⟩ = false := Go.Joins.unfrozen_of_block hcell 0
    have c3 : (w2.setCell ⟨w.heap.size, 0, none⟩ .nilIface).cell? ⟨w.heap.size, 0, none⟩ = some .nilIface := by rw [Go.Joins.cell_of_block (Go.Joins.block_setCell (i := 0) hcell .nilIface) 0]; rfl
    have hlw1 : lo ≤ w1.heap.size := by omega
    clear hL2 hB2 hI2
    go_wp2
    refine leaves_cons (f := 71) (args := #[.pointer (some ⟨w.heap.size, 0, none⟩)]) (by simp) (by simp [go_sem]) ?_
    refine (catch_idle ⟨w.heap.size, 0, none⟩ _).mono ?_
    rintro e u' w'' ⟨rfl, rfl, rfl⟩
    show ∃ v, (results Tryd.f63 _).run Tryd.prog _ = .ok v _ ∧ _
    exact ⟨.nilIface, by simp [results, Tryd.results63, go_sem, c3], rfl, ⟨_, hlw1, HL3.out⟩, HB3.out, HI3.out⟩
end Go.Proofs.YtbpacibfboldcaaDoor
