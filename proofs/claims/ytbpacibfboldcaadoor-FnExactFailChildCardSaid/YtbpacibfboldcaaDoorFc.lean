
/- Children begin anew, and a keeper gives up: the program, where no keeper stands for a child of it. No conditions but those written. -/
import Derived.Test.YtbpacibfboldcaaDoorFa
namespace Go.Proofs.YtbpacibfboldcaaDoor
open Go.RowKit

/-- A child begins. -/
def startP (s : St) (k c : Nat) : St := (setRun s.1 k c true, s.2 ++ [((k : Int), 2, (c : Int))])
def startAll (s : St) (k : Nat) (l : List Int) : St := l.foldl (fun s j => startP s k j.toNat) s
/-- No keeper stands for a child of k. -/
def Bare (ps : List PKeeper) (k : Nat) : Prop := ∀ c : Int, placeP ps k c = none
theorem Bare.sh {ps ps' : List PKeeper} {k : Nat} (h : Bare ps k) (hs : Sh ps ps') : Bare ps' k := fun c => by rw [hs.place]; exact h c
/-- What a child that failed, and those behind it, come to. -/
def restartP (s : St) (k c : Nat) : St :=
  if (el s.1 k).1 == 1 then startP s k c else startAll (startP (fromF (fun s m => stopF 8 s k m) s k (c + 1)).1 k c) k (fromF (fun s m => stopF 8 s k m) s k (c + 1)).2.reverse
/-- A keeper gives up. -/
def giveP (s : St) (k c : Nat) : St :=
  (endP (fromF (fun s m => stopF 8 s k m) (setRun s.1 k c false, s.2) k 0).1.1 k, (fromF (fun s m => stopF 8 s k m) (setRun s.1 k c false, s.2) k 0).1.2 ++ [((k : Int), 3, 0)])
set_option maxRecDepth 10000 in
set_option maxHeartbeats 4000000 in
theorem start_any (lo hi p : Nat) (ra : List (Option Addr × Nat)) (s : St) (k c : Nat) (w : World) (hL : LiveW 62 lo hi w p ra s) (_hlo : lo ≤ w.heap.size) (hk : k < s.1.length) (hl : s.1.length ≤ 8) (hc : c < (runsP (el s.1 k)).length) (hN : placeP s.1 k c = none) (hn : s.2.length + 1 ≤ 4194304) :
    Calls Tryd.prog 82 #[.pointer (some ⟨p, 0, none⟩), .int .i64 k, .int .i64 c] w fun e w' => AnsW 62 lo hi w p ra (startP s k c) e w' := by
  have HL := hid hL
  have HC := hid hc
  have hSh := Sh.run hk c true
  have HPN : Hid (placeP (setRun s.1 k c true) k c = none) := by rw [Hid, hSh.place]; exact hN
  have HLS : Hid ((setRun s.1 k c true).length = s.1.length) := hSh.1
  have hB0 : Below lo w w := Below.refl _ _
  clear hL hN hSh
  obtain ⟨g3, kc3, av3, ls3, hp3, hD3, hO3, hv3, hr3, hlp3, hhi3⟩ := HL.out
  have hlen3 : ls3.length = (s.1).length := len_ls hv3
  have hkl3 : k < (s.1).length := hk
  have e0 : w.cell? ⟨p, 0, none⟩ = some (.slice (some ⟨g3, 0, none⟩) (s.1).length kc3) := by rw [Go.Joins.cell_of_block hp3]; rfl
  have hev3 : el (s.1) k = valKeeper (el ls3 k) := el_map_val hv3 (k := k) (by omega)
  obtain ⟨⟨kd3, mr3, wi3, up3, ch3, ⟨ro3, rc3, r3⟩, ⟨fo3, fc3, f3⟩, ov3⟩, ex3⟩ : ∃ v, v = el ls3 k := ⟨_, rfl⟩
  obtain ⟨⟨_, _, _, _, _, h5, _, _⟩, _, hg31, _, hg33⟩ := hK_at hD3.1 (k := k) (by omega) ex3.symm
  rw [← ex3] at hev3
  have hr3c : c < r3.length := by rw [show r3 = runsP (el (s.1) k) by rw [hev3]; rfl]; exact HC.out
  have hFr3 := hD3.2.1 k (by omega)
  rw [← ex3] at hFr3
  have hFq : kB.Fresh lo hi w ro3 rc3 r3 := hFr3.1
  obtain ⟨b3, rfl, hb31, hb32, hb33, _⟩ := hFq.at (show 0 < r3.length by omega)
  obtain ⟨hL4, hI4, hlb, hcb, hfb⟩ := LiveW.putRun (show 62 ≠ kB.ty by decide) hp3 hD3 hO3 hv3 hr3 hlp3 hhi3 (k := k) (by omega) ex3.symm hr3c true
  have L4 := hid hL4
  have I4 := hid hI4
  have hB4 := hB0.setCell (p := ⟨b3, c, none⟩) hlb (.bool true)
  clear hp3 hD3 hO3 hv3 hr3 ex3 hev3 hFr3 hFq hL4 hI4 hlen3
  obtain ⟨W4, hW4⟩ : ∃ W4, W4 = w.setCell ⟨b3, c, none⟩ (.bool true) := ⟨_, rfl⟩
  rw [← hW4] at L4 I4 hB4
  have HW4 := hid hW4
  clear hW4
  go_enter Tryd.func82, Tryd.ntmps82
  go_wp2_with fail
  rw [← HW4.out]
  refine (tell_any lo hi p ra _ k 2 c W4 L4.out (by have := hB4.size; omega) hn).mono ?_
  rintro e w5 ⟨rfl, hL5, hB5, hI5⟩
  have L5 := hid hL5
  have I5 := hid (I4.out.trans hI5)
  have hB6 := hB4.trans hB5
  have hs6 := hB6.size
  clear hL5 hB5 hI5
  obtain ⟨g7, kc7, av7, ls7, hp7, hD7, hO7, hv7, hr7, hlp7, hhi7⟩ := L5.out
  have hlen7 : ls7.length = (setRun s.1 k c true).length := len_ls hv7
  have e7 : w5.cell? ⟨p, 0, none⟩ = some (.slice (some ⟨g7, 0, none⟩) (setRun s.1 k c true).length kc7) := by rw [Go.Joins.cell_of_block hp7]; rfl
  rw [HLS.out] at e7 hlen7
  have HIN : Hid (hKeeper.In w5.heap.size w5 (some ⟨g7, 0, none⟩) ls7) := Kind.Fresh.in hD7.1
  have HV7 : Hid (ls7.map valKeeper = setRun s.1 k c true) := hv7
  have HLN := hid hlen7
  clear hp7 hD7 hO7 hv7 hr7 hlen7
  go_wp2_with fail
  refine (keeperFor_len HV7.out HLN.out k c _ (by omega) HIN.out).mono ?_
  rw [HPN.out]
  rintro e w8 ⟨rfl, hb8⟩
  have L8 := hid (L5.out.later hb8)
  have I8 := hid (I5.out.trans (IntsKept.later hb8))
  have hB8 := hB6.trans (hb8.mono (by omega))
  clear hb8
  dsimp only [placeR]
  go_wp2
  first | refine bodyPost_ret (results_none rfl _ _ _) rfl ?_ | refine bodyPost_end (results_none rfl _ _ _) rfl ?_
  exact ⟨rfl, L8.out, hB8, I8.out⟩
theorem downF_mem {F : St → Nat → St} {u lo : Nat} : ∀ (m : Nat) (x : St × List Int) (j : Int), j ∈ (downF F u lo m x).2 → j ∈ x.2 ∨ ((lo : Int) ≤ j ∧ j < ((lo + m : Nat) : Int))
  | 0, x, j, h => .inl h
  | m + 1, x, j, h => by
    rw [downF] at h
    rcases downF_mem m _ j h with h1 | h1
    · split at h1
      · rcases List.mem_append.1 h1 with h2 | h2
        · exact .inl h2
        · have : j = ((lo + m : Nat) : Int) := by simpa using h2
          exact .inr (by omega)
      · exact .inl h1
    · exact .inr (by omega)
theorem downF_len2 {F : St → Nat → St} {u lo : Nat} : ∀ (m : Nat) (x : St × List Int), (downF F u lo m x).2.length ≤ x.2.length + m
  | 0, x => Nat.le_refl _
  | m + 1, x => by
    rw [downF]
    refine Nat.le_trans (downF_len2 m _) ?_
    split
    · simp; omega
    · omega
theorem startP_sh {s : St} {k : Nat} (hk : k < s.1.length) (c : Nat) : Sh s.1 (startP s k c).1 := Sh.run hk c true
theorem startAll_sh {k : Nat} : ∀ (l : List Int) (s : St), k < s.1.length → Sh s.1 (startAll s k l).1 ∧ (startAll s k l).2.length = s.2.length + l.length
  | [], s, _ => ⟨Sh.refl _, rfl⟩
  | j :: r, s, hk => by
    have h1 := startP_sh hk j.toNat
    have h2 := startAll_sh r (startP s k j.toNat) (by rw [h1.1]; exact hk)
    refine ⟨h1.trans h2.1, ?_⟩
    show (startAll (startP s k j.toNat) k r).2.length = _
    rw [h2.2]; simp [startP]; omega
theorem startAll_succ {k : Nat} {l : List Int} {m : Nat} (h : m < l.length) (s : St) : startAll s k (l.take (m + 1)) = startP (startAll s k (l.take m)) k (el l m).toNat := by
  rw [take_succ_el h, startAll, startAll, List.foldl_append]; rfl
set_option maxRecDepth 10000 in
set_option maxHeartbeats 8000000 in
theorem restart_any (lo hi p : Nat) (ra : List (Option Addr × Nat)) (s : St) (k c : Nat) (w : World) (hL : LiveW 62 lo hi w p ra s) (hlo : lo ≤ w.heap.size) (hG : GoodS 8 s k) (hc : c < (runsP (el s.1 k)).length) (hN : Bare s.1 k) :
    Calls Tryd.prog 73 #[.pointer (some ⟨p, 0, none⟩), .int .i64 k, .int .i64 c] w fun e w' => e = .returned (.tuple #[]) ∧ LiveW 62 lo hi w' p ra (restartP s k c) ∧ Below lo w w' ∧ IntsKept w w' := by
  have HL := hid hL
  have HG := hid hG
  have HC := hid hc
  have HB := hid hN
  have hkl := hG.kl
  have hl8 := hG.len
  have htold := hG.told
  have hr10 := hG.runs k
  obtain ⟨g, kc, av, ls, hp, hD, hO, hv, hr, hlp, hhi⟩ := hL
  have hlen := len_ls hv
  have c0 : w.cell? ⟨p, 0, none⟩ = some (.slice (some ⟨g, 0, none⟩) s.1.length kc) := by rw [Go.Joins.cell_of_block hp]; rfl
  have hev := el_map_val hv (k := k) (by omega)
  obtain ⟨⟨kd, mr, wi, up, ch, ⟨ro, rc, r⟩, ⟨fo, fc, f⟩, ov⟩, ex⟩ : ∃ v, v = el ls k := ⟨_, rfl⟩
  obtain ⟨⟨i0, _, _, _, _, _, _, _⟩, _, hg1, _, hg3⟩ := hK_at hD.1 (k := k) (by omega) ex.symm
  rw [← ex] at hev
  have HKD : Hid ((el s.1 k).1 = kd) := by rw [Hid, hev]; rfl
  clear hp hD hO hv hr ex hev hG hN
  cases h1 : (kd == 1)
  · have HR : Hid (restartP s k c = startAll (startP (fromF (fun s m => stopF 8 s k m) s k (c + 1)).1 k c) k (fromF (fun s m => stopF 8 s k m) s k (c + 1)).2.reverse) := by rw [Hid, restartP, HKD.out, h1]; rfl
    obtain ⟨Tt, hTt⟩ : ∃ Tt, Tt = fromF (fun s m => stopF 8 s k m) s k (c + 1) := ⟨_, rfl⟩
    rw [← hTt] at HR
    have hK := fromF_keeps (n := 8) (u := k) (c + 1) HG.out.tree HG.out.kl HG.out.fuel
    have hmem : ∀ j ∈ Tt.2, 0 ≤ j ∧ j < ((runsP (el s.1 k)).length : Int) := fun j hj => by
      rw [hTt] at hj
      rcases downF_mem _ _ j hj with h | h
      · simp at h
      · omega
    have hLl : Tt.2.length ≤ 10 := by
      rw [hTt]
      refine Nat.le_trans (downF_len2 _ _) ?_
      simp; omega
    rw [← hTt] at hK
    have hT2 : Tt.1.2.length ≤ 4000000 := by have := hK.told; omega
    have HTT := hid hTt
    have HK := hid hK
    have HMEM := hid hmem
    have HLT : Hid (Tt.1.1.length = s.1.length) := hK.sh.1
    have HRT : Hid ((runsP (el Tt.1.1 k)).length = (runsP (el s.1 k)).length) := (hK.sh.2 k).2.2
    have hkT : k < Tt.1.1.length := by rw [HLT.out]; exact hkl
    have hl8T : Tt.1.1.length ≤ 8 := by rw [HLT.out]; exact hl8
    have HBT := hid (HB.out.sh hK.sh)
    clear hK hmem hTt
    go_enter Tryd.func73, Tryd.ntmps73
    go_wp2_with fail
    refine (fromC_all 8 lo hi p ra s k (c + 1) w HL.out hlo HG.out (by have := HC.out; omega)).mono ?_
    rw [← HTT.out]
    rintro e w2 ⟨⟨v2, rfl, hO2⟩, hL2, hB2, hI2⟩
    obtain ⟨qo, qc, rfl, _, hF2⟩ := hO2.fresh
    have F2 := hid hF2.in
    have O2 := hid hO2
    have L2 := hid hL2
    have I2 := hid hI2
    have hs2 := hB2.size
    clear hO2 hL2 hI2 hF2 c0 i0
    go_wp2_with fail
    refine (start_any lo hi p ra Tt.1 k c w2 L2.out (by omega) hkT hl8T (by rw [HRT.out]; exact HC.out) (HBT.out c) (by omega)).mono ?_
    rintro e w3 ⟨rfl, hL3, hB3, hI3⟩
    have L3 := hid hL3
    have hB3' := hB2.trans hB3
    have I3 := hid (I2.out.trans hI3)
    have O3 := hid (hI3.own O2.out)
    obtain ⟨RR, hRR⟩ : ∃ RR, RR = Tt.2.reverse := ⟨_, rfl⟩
    have hlr : RR.length = Tt.2.length := by rw [hRR]; simp
    rw [← hRR] at HR O3
    rw [← hlr]
    have HMR : Hid (∀ m, m < RR.length → 0 ≤ el RR m ∧ el RR m < ((runsP (el s.1 k)).length : Int)) := fun m hm => HMEM.out _ (by have := el_mem hm; rw [hRR] at this ⊢; simpa using this)
    have hRl : RR.length ≤ 10 := by omega
    clear hL3 hB3 hI3 hRR hlr
    go_wp2
    go_loopw [33] (fun i wr => ∃ m : Nat, m ≤ RR.length ∧ i = .int .i64 m ∧ Hid (LiveW 62 lo hi wr p ra (startAll (startP Tt.1 k c) k (RR.take m))) ∧ Below lo w wr ∧ Hid (kI.Own w.heap.size wr (.slice qo RR.length qc) RR) ∧ Hid (IntsKept w wr)) (fun i _ => RR.length - (intOf i).toNat)
    case atStart => exact ⟨0, Nat.zero_le _, rfl, L3, hB3', O3, I3⟩
    case round =>
      obtain ⟨m, hm, rfl, hLr, hBr, hOr, hIr⟩ := hrel
      have hsr := hBr.size
      by_cases hlt : m < RR.length
      · obtain ⟨qo', qc', e1, _, hF4⟩ := hOr.out.fresh
        simp at e1
        obtain ⟨rfl, rfl⟩ := e1
        obtain ⟨b0, off, rfl, hb, hcc⟩ := ints_at hF4.in hlt
        have hck := hcc m hlt
        obtain ⟨hx0, hx1⟩ := HMR.out m hlt
        obtain ⟨j, hj⟩ : ∃ j : Nat, (j : Int) = el RR m := ⟨(el RR m).toNat, by omega⟩
        rw [← hj] at hck hx0 hx1
        obtain ⟨hsA, hsB⟩ := startAll_sh (k := k) (RR.take m) (startP Tt.1 k c) (by rw [(startP_sh (s := Tt.1) hkT c).1]; exact hkT)
        have hsC := (startP_sh (s := Tt.1) (k := k) hkT c).trans hsA
        have hS1 : Hid (startAll (startP Tt.1 k c) k (RR.take (m + 1)) = startP (startAll (startP Tt.1 k c) k (RR.take m)) k j) := by rw [Hid, startAll_succ hlt, ← hj]; simp
        have h2l : (startAll (startP Tt.1 k c) k (RR.take m)).2.length + 1 ≤ 4194304 := by rw [hsB]; simp [startP]; omega
        have HNP := hid ((HBT.out.sh hsC) j)
        have hk4 : k < (startAll (startP Tt.1 k c) k (RR.take m)).1.length := by rw [hsC.1]; omega
        have hl4 : (startAll (startP Tt.1 k c) k (RR.take m)).1.length ≤ 8 := by rw [hsC.1]; omega
        have hj4 : j < (runsP (el (startAll (startP Tt.1 k c) k (RR.take m)).1 k)).length := by rw [(hsC.2 k).2.2, HRT.out]; omega
        clear hsA hsB hsC hcc hF4 hj
        go_wp2_with fail
        refine (start_any lo hi p ra _ k j wr hLr.out (by omega) hk4 hl4 hj4 HNP.out h2l).mono ?_
        rintro e w6 ⟨rfl, hL6, hB6, hI6⟩
        have L6 : Hid (LiveW 62 lo hi w6 p ra (startAll (startP Tt.1 k c) k (RR.take (m + 1)))) := by rw [Hid, hS1.out]; exact hL6
        have O6 := hid (hI6.own hOr.out)
        have hB7 := hBr.trans hB6
        have I6 := hid (hIr.out.trans hI6)
        clear hL6 hB6 hI6
        go_wp2
        go_roundw
        case rel => exact ⟨m + 1, by omega, by go_num, L6, hB7, O6, I6⟩
        case measure => simp [intOf] <;> omega
      · obtain rfl : m = RR.length := by omega
        rw [List.take_length] at hLr
        go_wp2
        first | refine bodyPost_ret (results_none rfl _ _ _) rfl ?_ | refine bodyPost_end (results_none rfl _ _ _) rfl ?_
        rw [HR.out]
        exact ⟨rfl, hLr.out, hBr, hIr.out⟩
  · have HR : Hid (restartP s k c = startP s k c) := by rw [Hid, restartP, HKD.out, h1]; rfl
    go_enter Tryd.func73, Tryd.ntmps73
    go_wp2_with fail
    refine (start_any lo hi p ra s k c w HL.out hlo hkl hl8 HC.out (HB.out c) (by omega)).mono ?_
    rintro e w2 ⟨rfl, hL2, hB2, hI2⟩
    go_wp2
    first | refine bodyPost_ret (results_none rfl _ _ _) rfl ?_ | refine bodyPost_end (results_none rfl _ _ _) rfl ?_
    rw [HR.out]
    exact ⟨rfl, hL2, hB2, hI2⟩
end Go.Proofs.YtbpacibfboldcaaDoor
