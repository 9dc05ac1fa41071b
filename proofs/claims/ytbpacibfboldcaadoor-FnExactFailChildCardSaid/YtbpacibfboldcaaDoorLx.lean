
/- Children are stopped: the program. No conditions but those written. -/
import Derived.Test.YtbpacibfboldcaaDoorLw
namespace Go.Proofs.YtbpacibfboldcaaDoor
open Go.RowKit

/-- Keepers that can be worked on, from keeper k on. -/
structure GoodS (n : Nat) (s : St) (k : Nat) : Prop where
  tree : TreeP s.1
  kl : k < s.1.length
  fuel : s.1.length ≤ n + k
  len : s.1.length ≤ 8
  runs : ∀ j, (runsP (el s.1 j)).length ≤ 10
  told : s.2.length + cntR s.1 ≤ 4000000
theorem GoodS.keep {n k : Nat} {s s' : St} (h : GoodS n s k) (hs : StopK k s s') : GoodS n s' k :=
  ⟨h.tree.sh hs.sh, by rw [hs.sh.1]; exact h.kl, by rw [hs.sh.1]; exact h.fuel, by rw [hs.sh.1]; exact h.len, fun j => by rw [(hs.sh.2 j).2.2]; exact h.runs j, Nat.le_trans hs.told h.told⟩
theorem run_lt {l : List Bool} {c : Nat} (h : el l c = true) : c < l.length := by
  rcases Nat.lt_or_ge c l.length with h1 | h1
  · exact h1
  · simp [el, h1] at h
theorem keeperFor_len {ao : Option Addr} {cap n : Nat} {ts : List LKeeper} {ps : List PKeeper} (hv : ts.map valKeeper = ps) (hn : ts.length = n) (u c : Int) (w : World) (hl : n ≤ 1048576) (hz : hKeeper.In w.heap.size w ao ts) :
    Calls Tryd.prog 48 #[.slice ao n cap, .int .i64 u, .int .i64 c] w fun e w' => e = .returned (.tuple #[.int .i64 (placeR (placeP ps u c)).1, .bool (placeR (placeP ps u c)).2]) ∧ Below w.heap.size w w' := by
  subst hn hv; exact keeperFor_any ao cap ts u c w hl hz
/-- reverse, of a row of its own. -/
theorem reverse_own (lo : Nat) (v : Value) (xs : List Int) (w : World) (hl : xs.length ≤ 1048576) (ho : kI.Own lo w v xs) :
    Calls Tryd.prog 84 #[v] w fun e w' => e = .returned (.tuple #[]) ∧ kI.Own lo w' v xs.reverse ∧ Below lo w w' ∧ SameTy kI.ty w w' := by
  obtain ⟨qo, qc, rfl, hn, hF⟩ := ho.fresh
  refine (reverse_any lo w.heap.size qo qc xs w hl hF).mono ?_
  rintro e w' ⟨rfl, hF', hB, hK⟩
  refine ⟨rfl, ?_, hB, fun b cur ty he hty => hK b fun g hg e2 => ?_⟩
  · rcases Nat.eq_zero_or_pos xs.length with h0 | h0
    · obtain rfl : xs = [] := List.length_eq_zero_iff.1 h0
      rcases ho.2 with ⟨e, h1⟩ | ⟨g, cap, cur, e, hb, hh, r⟩
      · exact ⟨rfl, .inl ⟨e, rfl⟩⟩
      · simp at e
        obtain ⟨rfl, rfl⟩ := e
        refine ⟨rfl, .inr ⟨g, qc, cur, rfl, hb, ?_, r⟩⟩
        rw [hK g (fun g2 e2 => by simp [eff] at e2)]; exact hh
    · rcases hF' with h | ⟨g, e, hg, ho'⟩
      · have : xs = [] := by simpa using h
        subst this; simp at h0
      · have := ho'
        rw [List.length_reverse] at this
        rw [e]; exact ⟨this.1.trans (by simp), by rw [List.length_reverse]; exact this.2⟩
  · subst e2
    unfold eff at hg
    split at hg
    · cases hg
    · rename_i h0
      obtain ⟨g2, e2, _, _, _, ho2⟩ := hF.at (by omega)
      rw [hg] at e2; simp at e2; subst e2
      obtain ⟨cur2, hc2⟩ := owns_type ho2
      rw [he] at hc2; simp at hc2
      exact hty hc2.2
/-- What stop does. -/
def StopC (n : Nat) : Prop := ∀ (lo hi p : Nat) (ra : List (Option Addr × Nat)) (s : St) (k c : Nat) (w : World), LiveW 62 lo hi w p ra s → lo ≤ w.heap.size → GoodS n s k → el (runsP (el s.1 k)) c = true →
    Calls Tryd.prog 83 #[.pointer (some ⟨p, 0, none⟩), .int .i64 k, .int .i64 c] w fun e w' => AnsW 62 lo hi w p ra (stopF n s k c) e w'
/-- What stopFrom does. -/
def FromC (n : Nat) : Prop := ∀ (lo hi p : Nat) (ra : List (Option Addr × Nat)) (s : St) (u first : Nat) (w : World), LiveW 62 lo hi w p ra s → lo ≤ w.heap.size → GoodS n s u → first ≤ (runsP (el s.1 u)).length →
    Calls Tryd.prog 74 #[.pointer (some ⟨p, 0, none⟩), .int .i64 u, .int .i64 first] w fun e w' => (∃ v, e = .returned v ∧ kI.Own w.heap.size w' v (fromF (fun s m => stopF n s u m) s u first).2.reverse) ∧ LiveW 62 lo hi w' p ra (fromF (fun s m => stopF n s u m) s u first).1 ∧ Below lo w w' ∧ IntsKept w w'
theorem ra_at {ls : List LKeeper} {ra : List (Option Addr × Nat)} (hr : ls.map radr = ra) {u : Nat} (hu : u < ls.length) : el ra u = radr (el ls u) := by rw [← hr]; exact el_map _ hu
set_option maxRecDepth 10000 in
set_option maxHeartbeats 8000000 in
theorem fromC_of (n : Nat) (hS : StopC n) : FromC n := by
  intro lo hi p ra s u first w hL hlo hG hfi
  obtain ⟨FF, hFF⟩ : ∃ FF, FF = (fun (s : St) (m : Nat) => stopF n s u m) := ⟨_, rfl⟩
  obtain ⟨Z, hZ⟩ : ∃ Z, Z = fromF FF s u first := ⟨_, rfl⟩
  rw [← hFF, ← hZ]
  have HFF := hid hFF
  have HS := hid hS
  have HL := hid hL
  have HH : Hid (hi ≤ w.heap.size) := by obtain ⟨_, _, _, _, _, _, _, _, _, _, h⟩ := hL; exact h
  have HG := hid hG
  have hN := hG.len
  have hul := hG.kl
  have hrl := hG.runs u
  obtain ⟨N, hNN⟩ : ∃ N, N = (runsP (el s.1 u)).length := ⟨_, rfl⟩
  rw [← hNN] at hfi hrl
  have HZ : Hid (downF FF u first (N - first) (s, []) = Z) := by rw [Hid, hZ, fromF, hNN]
  have HNN := hid hNN
  obtain ⟨g, kc, av, ls, hp, hD, hO, hv, hr, hlp, hhi⟩ := hL
  have hlen := len_ls hv
  have c0 : w.cell? ⟨p, 0, none⟩ = some (.slice (some ⟨g, 0, none⟩) s.1.length kc) := by rw [Go.Joins.cell_of_block hp]; rfl
  have hra := ra_at hr (u := u) (by omega)
  have hev := el_map_val hv (k := u) (by omega)
  obtain ⟨⟨kd, mr, wi, up, ch, ⟨ro, rc, r⟩, ⟨fo, fc, f⟩, ov⟩, ex⟩ : ∃ v, v = el ls u := ⟨_, rfl⟩
  obtain ⟨⟨_, _, _, _, _, h5, _, _⟩, _, hg1, _, hg3⟩ := hK_at hD.1 (k := u) (by omega) ex.symm
  rw [← ex] at hra hev
  have HRA : Hid (el ra u = (ro, rc)) := hra
  have hrN : r.length = N := by rw [hNN, hev]; rfl
  rw [hrN] at h5
  clear hS hG hp hD hO hv hr ex hra hev hFF hZ hNN hrN
  go_enter Tryd.func74, Tryd.ntmps74
  go_wp2
  clear c0 h5
  go_loopw [8, 9] (fun a b wr => ∃ (m : Nat) (x : St × List Int) (v : Value), v = a ∧ b = .int .i64 ((first : Int) + m - 1) ∧ first + m ≤ N ∧ Hid (downF FF u first m x = Z) ∧ Hid (LiveW 62 lo hi wr p ra x.1) ∧ Hid (StopK u s x.1) ∧ Hid (kI.Own w.heap.size wr v x.2) ∧ x.2.length + m ≤ N ∧ Below lo w wr ∧ Hid (IntsKept w wr)) (fun _ b _ => ((intOf b) - first + 1).toNat)
  case atStart => exact ⟨N - first, (s, []), _, rfl, by go_num, by omega, HZ, HL, StopK.refl _ _, Kind.Own.nil _ _ _, by simp, Below.refl _ _, IntsKept.refl _⟩
  case round =>
    obtain ⟨m, x, v, rfl, rfl, hm, hX, hLr, hKr, hOr, hxl, hB, hI⟩ := hrel
    have hs := hB.size
    cases m with
    | zero =>
      have hX2 : Hid (x = Z) := hX.out
      have hE : ((first : Int) + ((0 : Nat) : Int) - 1) = (first : Int) - 1 := by omega
      rw [hE]
      have hle : ¬ ((first : Int) ≤ (first : Int) - 1) := by omega
      go_wp2_with fail
      refine (reverse_own w.heap.size v x.2 _ (by omega) hOr.out).mono ?_
      rintro e w2 ⟨rfl, hO2, hB2, hT2⟩
      have hL2 := hid (LiveW.intW ownT_w hLr.out hT2 (lo2 := w.heap.size) (fun b hb => hB2.block b hb) HH.out hB2.size)
      have hI2 : Hid (IntsKept w w2) := fun b cur ty e hn => by
        have hbl := (Array.getElem?_eq_some_iff.1 e).1
        rw [hB2.block b hbl]; exact hI.out b cur ty e hn
      have HO2 := hid hO2
      have hB3 := hB.trans (hB2.mono hlo)
      clear hO2 hB2 hT2
      go_wp2
      go_ret
      rw [← hX2.out]
      exact ⟨⟨_, rfl, HO2.out⟩, hL2.out, hB3, hI2.out⟩
    | succ m =>
      have hE : ((first : Int) + ((m + 1 : Nat) : Int) - 1) = ((first + m : Nat) : Int) := by push_cast; omega
      rw [hE]
      obtain ⟨j, hj⟩ : ∃ j, j = first + m := ⟨_, rfl⟩
      rw [← hj]
      have hjN : j < N := by omega
      have hfj : (first : Int) ≤ (j : Int) := by omega
      have hXs : Hid (downF FF u first m (if el (runsP (el x.1.1 u)) j then (FF x.1 j, x.2 ++ [(j : Int)]) else x) = Z) := by rw [Hid, hj]; exact hX.out
      have HJ := hid hj
      clear hX hE hj
      have hG2 := HG.out.keep hKr.out
      have hrn : (runsP (el x.1.1 u)).length = N := by rw [(hKr.out.sh.2 u).2.2]; exact HNN.out.symm
      obtain ⟨g2, kc2, av2, ls2, hp2, hD2, hO2, hv2, hr2, hlp2, hhi2⟩ := hLr.out
      have hlen2 := len_ls hv2
      have hlx := hG2.kl
      have hra2 := ra_at hr2 (u := u) (by omega)
      rw [HRA.out] at hra2
      have hev2 := el_map_val hv2 (k := u) (by omega)
      obtain ⟨⟨kd2, mr2, wi2, up2, ch2, ⟨ro2, rc2, r2⟩, ⟨fo2, fc2, f2⟩, ov2⟩, ex2⟩ : ∃ v, v = el ls2 u := ⟨_, rfl⟩
      rw [← ex2] at hra2 hev2
      obtain ⟨rfl, rfl⟩ : ro = ro2 ∧ rc = rc2 := by simpa [radr] using hra2
      have hr2N : r2.length = N := by rw [← hrn, hev2]; rfl
      have hFr := hD2.2.1 u (by omega)
      rw [← ex2] at hFr
      have hIn : kB.In wr.heap.size wr ro r2 := Kind.Fresh.in hFr.1
      obtain ⟨b1, off1, hro, hb1, hc1⟩ := bools_at hIn (k := j) (by omega)
      have cj := hc1 j (by omega)
      have her : el (runsP (el x.1.1 u)) j = el r2 j := by rw [hev2]; rfl
      have HEX : Hid (ro = some ⟨b1, off1, none⟩) := hro
      clear hp2 hD2 hO2 hv2 hr2 ex2 hra2 hev2 hFr hc1 hIn
      subst hro
      cases hy : el r2 j
      · have hXn : Hid (downF FF u first m x = Z) := by have := hXs.out; rwa [her, hy] at this
        rw [hy] at cj
        clear her hXs hy hG2
        go_wp2
        go_roundw
        case rel => exact ⟨m, x, v, rfl, by have := HJ.out; go_num, by omega, hXn, hLr, hKr, hOr, by omega, hB, hI⟩
        case measure => have := HJ.out; simp [intOf]; omega
      · have hrun : Hid (el (runsP (el x.1.1 u)) j = true) := her.trans hy
        have hXn : Hid (downF FF u first m (FF x.1 j, x.2 ++ [(j : Int)]) = Z) := by have := hXs.out; rwa [her, hy] at this
        rw [hy] at cj
        have HG2 := hid hG2
        clear her hXs hy hG2
        go_wp2_with fail
        refine (HS.out lo hi p ra x.1 u j wr hLr.out (by omega) HG2.out hrun.out).mono ?_
        rintro e w3 ⟨rfl, hL3, hB3, hI3⟩
        have L3 := hid hL3
        have hBw := hB.trans hB3
        have O3 := hid (hI3.own hOr.out)
        have I3 := hid (hI.out.trans hI3)
        have K3 : Hid (StopK u s (FF x.1 j)) := by rw [Hid, HFF.out]; exact hKr.out.trans (stopF_keeps n x.1 u j HG2.out.tree HG2.out.kl HG2.out.fuel hrun.out)
        have hs3 := hBw.size
        have hbV := below1 w3 (.cells #[.int .i64 (j : Int)] 3)
        have HA := hid (O3.out.below hbV)
        have HN : Hid (kI.In (w3.heap.size + 1) (w3.alloc (.cells #[.int .i64 (j : Int)] 3)) (some ⟨w3.heap.size, 0, none⟩) [(j : Int)]) := int_one (by omega) (by simp)
        have hll : x.2.length + 1 ≤ 4194304 := by omega
        have HS3 : Hid (w.heap.size ≤ w3.heap.size) := Nat.le_trans hs (by have := hB3.size; omega)
        clear hL3 hB3 hI3 cj
        go_wp2_with (at_builtin; refine Kind.app kI_ok (w3.alloc (.cells #[.int .i64 (j : Int)] 3)) rfl (.tmp 34) (.tmp 36) rfl w.heap.size v x.2 rfl HA.out (by have := HS3.out; simp; omega) (some ⟨w3.heap.size, 0, none⟩) [(j : Int)] 1 1 rfl rfl (by simp) _ HN.out hll ?_; intro v' w' hO' hB' hG' hn'; have HL' : Hid (LiveW 62 lo hi w' p ra (FF x.1 j)) := (by rw [HFF.out]; exact LiveW.intW ownT_w (L3.out.later hbV) (SameTy.grown HA.out hG') (lo2 := w.heap.size) (fun b hb => hB'.block b hb) HH.out hB'.size); have HI' : Hid (IntsKept w w') := (fun b cur ty e hn => by have hbl := (Array.getElem?_eq_some_iff.1 e).1; rw [hB'.block b hbl]; exact (I3.out.trans (IntsKept.later hbV)) b cur ty e hn); have hBn : Below lo w w' := (hBw.trans (hbV.mono (by have := HS3.out; omega))).trans (hB'.mono hlo); have HO' := hid hO'; clear hO' hB' hG' hn')
        go_roundw
        case rel => exact ⟨m, (FF x.1 j, x.2 ++ [(j : Int)]), v', rfl, by have := HJ.out; go_num, by omega, hXn, HL', K3, HO', by simp; omega, hBn, HI'⟩
        case measure => have := HJ.out; simp [intOf]; omega
set_option maxRecDepth 10000 in
set_option maxHeartbeats 8000000 in
theorem stopC_succ (n : Nat) (hF : FromC n) : StopC (n + 1) := by
  intro lo hi p ra s k c w hL hlo hG hrun
  have HL := hid hL
  have HF := hid hF
  have HG := hid hG
  have hN := hG.len
  have hkl := hG.kl
  have HRUN := hid hrun
  have hcl := run_lt hrun
  have htold := hG.told
  have hpos : 1 ≤ cntR s.1 := by have := cntR_off hkl hrun; omega
  obtain ⟨g, kc, av, ls, hp, hD, hO, hv, hr, hlp, hhi⟩ := hL
  have hlen := len_ls hv
  have c0 : w.cell? ⟨p, 0, none⟩ = some (.slice (some ⟨g, 0, none⟩) s.1.length kc) := by rw [Go.Joins.cell_of_block hp]; rfl
  have HIN : Hid (hKeeper.In w.heap.size w (some ⟨g, 0, none⟩) ls) := Kind.Fresh.in hD.1
  have HV := hid hv
  have hcap : s.1.length ≤ kc := by rw [← hlen]; exact Kind.Fresh.cap (show hKeeper.Fresh _ _ _ _ _ _ from hD.1)
  clear hF hG hp hD hO hr hv hrun
  cases hpl : placeP s.1 k c with
  | none =>
    have HPL := hid hpl
    have HR : Hid (stopF (n + 1) s k c = (setRun s.1 k c false, s.2 ++ [((k : Int), 1, (c : Int))])) := by rw [Hid, stopF, hpl]
    clear hpl
    go_enter Tryd.func83, Tryd.ntmps83
    go_wp2_with fail
    refine (keeperFor_len HV.out hlen k c _ (by omega) HIN.out).mono ?_
    rw [HPL.out]
    rintro e w2 ⟨rfl, hb2⟩
    have L2 := hid (HL.out.later hb2)
    have I2 := hid (IntsKept.later hb2)
    have hB2 := hb2.mono hlo
    have HC : Hid (c < (runsP (el s.1 k)).length) := hcl
    have HT : Hid (s.2.length + 1 ≤ 4194304) := by simp only [Hid]; omega
    have hbs := hb2.size
    clear hb2 c0 HIN
    dsimp only [placeR]
    have hlenX := hkl
    obtain ⟨g3, kc3, av3, ls3, hp3, hD3, hO3, hv3, hr3, hlp3, hhi3⟩ := L2.out
    have hlen3 : ls3.length = (s.1).length := len_ls hv3
    have e0 : w2.cell? ⟨p, 0, none⟩ = some (.slice (some ⟨g3, 0, none⟩) (s.1).length kc3) := by rw [Go.Joins.cell_of_block hp3]; rfl
    have hev3 : el (s.1) k = valKeeper (el ls3 k) := el_map_val hv3 (k := k) (by omega)
    obtain ⟨⟨kd3, mr3, wi3, up3, ch3, ⟨ro3, rc3, r3⟩, ⟨fo3, fc3, f3⟩, ov3⟩, ex3⟩ : ∃ v, v = el ls3 k := ⟨_, rfl⟩
    obtain ⟨⟨_, _, _, _, _, h5, _, _⟩, _, hg31, _, hg33⟩ := hK_at hD3.1 (k := k) (by omega) ex3.symm
    rw [← ex3] at hev3
    have hr3c : c < r3.length := by rw [show r3 = runsP (el (s.1) k) by rw [hev3]; rfl]; exact HC.out
    have hFr3 := hD3.2.1 k (by omega)
    rw [← ex3] at hFr3
    have hFq : kB.Fresh lo hi w2 ro3 rc3 r3 := hFr3.1
    obtain ⟨b3, rfl, hb31, hb32, hb33, _⟩ := hFq.at (show 0 < r3.length by omega)
    obtain ⟨hL4, hI4, hlb, hcb, hfb⟩ := LiveW.putRun (show 62 ≠ kB.ty by decide) hp3 hD3 hO3 hv3 hr3 hlp3 hhi3 (k := k) (by omega) ex3.symm hr3c false
    have L4 := hid hL4
    have I4 := hid (I2.out.trans hI4)
    have hB4 := hB2.setCell (p := ⟨b3, c, none⟩) hlb (.bool false)
    clear hp3 hD3 hO3 hv3 hr3 ex3 hev3 hFr3 hFq hL4 hI4
    obtain ⟨W4, hW4⟩ : ∃ W4, W4 = w2.setCell ⟨b3, c, none⟩ (.bool false) := ⟨_, rfl⟩
    rw [← hW4] at L4 I4 hB4
    have HW4 := hid hW4
    clear hW4
    go_wp2_with fail
    rw [← HW4.out]
    refine (tell_any lo hi p ra _ k 1 c W4 L4.out (by have := hB4.size; omega) (by have := HT.out; exact this)).mono ?_
    rintro e w5 ⟨rfl, hL5, hB5, hI5⟩
    have L5 := hid hL5
    have I5 := hid (I4.out.trans hI5)
    have hB6 := hB4.trans hB5
    clear hL5 hB5 hI5
    go_wp2
    first | refine bodyPost_ret (results_none rfl _ _ _) rfl ?_ | refine bodyPost_end (results_none rfl _ _ _) rfl ?_
    rw [HR.out]
    exact ⟨rfl, L5.out, hB6, I5.out⟩

  | some u =>
    have HPL := hid hpl
    obtain ⟨Tt, hTt⟩ : ∃ Tt, Tt = fromF (fun s m => stopF n s u m) s u 0 := ⟨_, rfl⟩
    have HR : Hid (stopF (n + 1) s k c = (setRun (endP Tt.1.1 u) k c false, Tt.1.2 ++ [((k : Int), 1, (c : Int))])) := by rw [Hid, stopF, hpl, hTt]
    obtain ⟨hku, hul⟩ := place_gt HG.out.tree hpl
    have hGu : GoodS n s u := ⟨HG.out.tree, hul, by have := HG.out.fuel; omega, HG.out.len, HG.out.runs, HG.out.told⟩
    have HGU := hid hGu
    have hK := fromF_keeps (n := n) (u := u) 0 HG.out.tree hul hGu.fuel
    rw [← hTt] at hK
    have hlT := hK.sh.1
    have hlu : u < Tt.1.1.length := by rw [hlT]; exact hul
    have hek : el (endP Tt.1.1 u) k = el s.1 k := (el_set_other (by omega)).trans (hK.ahead k hku)
    have HC : Hid (c < (runsP (el (endP Tt.1.1 u) k)).length) := by rw [Hid, hek]; exact hcl
    have HT : Hid (Tt.1.2.length + 1 ≤ 4194304) := by
      have h1 := hK.told
      simp only [Hid]; omega
    have hlE : (endP Tt.1.1 u).length = s.1.length := by rw [(Sh.end hlu).1]; exact hlT
    have HTT := hid hTt
    clear hpl hGu hK hek hTt
    go_enter Tryd.func83, Tryd.ntmps83
    go_wp2_with fail
    refine (keeperFor_len HV.out hlen k c _ (by omega) HIN.out).mono ?_
    rw [HPL.out]
    rintro e w2 ⟨rfl, hb2⟩
    have L2 := hid (HL.out.later hb2)
    have I2 := hid (IntsKept.later hb2)
    have hB2 := hb2.mono hlo
    have hbs := hb2.size
    clear hb2 c0 HIN
    dsimp only [placeR]
    go_wp2_with fail
    refine (HF.out lo hi p ra s u 0 w2 L2.out (by omega) HGU.out (Nat.zero_le _)).mono ?_
    rw [← HTT.out]
    rintro e w3 ⟨⟨vx, rfl, hO3⟩, hL3, hB3, hI3⟩
    obtain ⟨qo, qc, rfl, _, _⟩ := hO3.fresh
    have L3 := hid hL3
    have I3 := hid (I2.out.trans hI3)
    have hB3' := hB2.trans hB3
    clear hO3 hL3 hB3 hI3 hB2
    go_wp2_with fail
    refine (end_any lo hi p ra Tt.1 u w3 L3.out hlu (by omega)).mono ?_
    rintro e w4 ⟨rfl, hL4, hB4, hI4⟩
    have L4x := hid hL4
    have I4x := hid (I3.out.trans hI4)
    have hB4x := hB3'.trans hB4
    have hbs4 := hB4x.size
    clear hL4 hB4 hI4 L3 I3 hB3'
    have hlenX := (show (endP Tt.1.1 u).length = s.1.length from hlE)
    obtain ⟨g3, kc3, av3, ls3, hp3, hD3, hO3, hv3, hr3, hlp3, hhi3⟩ := L4x.out
    have hlen3 : ls3.length = (endP Tt.1.1 u).length := len_ls hv3
    have e0 : w4.cell? ⟨p, 0, none⟩ = some (.slice (some ⟨g3, 0, none⟩) (endP Tt.1.1 u).length kc3) := by rw [Go.Joins.cell_of_block hp3]; rfl
    have hev3 : el (endP Tt.1.1 u) k = valKeeper (el ls3 k) := el_map_val hv3 (k := k) (by omega)
    obtain ⟨⟨kd3, mr3, wi3, up3, ch3, ⟨ro3, rc3, r3⟩, ⟨fo3, fc3, f3⟩, ov3⟩, ex3⟩ : ∃ v, v = el ls3 k := ⟨_, rfl⟩
    obtain ⟨⟨_, _, _, _, _, h5, _, _⟩, _, hg31, _, hg33⟩ := hK_at hD3.1 (k := k) (by omega) ex3.symm
    rw [← ex3] at hev3
    have hr3c : c < r3.length := by rw [show r3 = runsP (el (endP Tt.1.1 u) k) by rw [hev3]; rfl]; exact HC.out
    have hFr3 := hD3.2.1 k (by omega)
    rw [← ex3] at hFr3
    have hFq : kB.Fresh lo hi w4 ro3 rc3 r3 := hFr3.1
    obtain ⟨b3, rfl, hb31, hb32, hb33, _⟩ := hFq.at (show 0 < r3.length by omega)
    obtain ⟨hL4, hI4, hlb, hcb, hfb⟩ := LiveW.putRun (show 62 ≠ kB.ty by decide) hp3 hD3 hO3 hv3 hr3 hlp3 hhi3 (k := k) (by omega) ex3.symm hr3c false
    have L4 := hid hL4
    have I4 := hid (I4x.out.trans hI4)
    have hB4 := hB4x.setCell (p := ⟨b3, c, none⟩) hlb (.bool false)
    clear hp3 hD3 hO3 hv3 hr3 ex3 hev3 hFr3 hFq hL4 hI4
    obtain ⟨W4, hW4⟩ : ∃ W4, W4 = w4.setCell ⟨b3, c, none⟩ (.bool false) := ⟨_, rfl⟩
    rw [← hW4] at L4 I4 hB4
    have HW4 := hid hW4
    clear hW4
    go_wp2_with fail
    rw [← HW4.out]
    refine (tell_any lo hi p ra _ k 1 c W4 L4.out (by have := hB4.size; omega) (by have := HT.out; exact this)).mono ?_
    rintro e w5 ⟨rfl, hL5, hB5, hI5⟩
    have L5 := hid hL5
    have I5 := hid (I4.out.trans hI5)
    have hB6 := hB4.trans hB5
    clear hL5 hB5 hI5
    go_wp2
    first | refine bodyPost_ret (results_none rfl _ _ _) rfl ?_ | refine bodyPost_end (results_none rfl _ _ _) rfl ?_
    rw [HR.out]
    exact ⟨rfl, L5.out, hB6, I5.out⟩

theorem stopC_all : ∀ n, StopC n
  | 0 => fun lo hi p ra s k c w _ _ hG _ => absurd hG.fuel (by have := hG.kl; omega)
  | n + 1 => stopC_succ n (fromC_of n (stopC_all n))
theorem fromC_all (n : Nat) : FromC n := fromC_of n (stopC_all n)
end Go.Proofs.YtbpacibfboldcaaDoor
