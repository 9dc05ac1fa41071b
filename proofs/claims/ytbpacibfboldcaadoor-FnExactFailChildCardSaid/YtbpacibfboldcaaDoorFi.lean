
/- All children of a keeper alone are stopped: the specification. No conditions but those written. -/
import Derived.Test.YtbpacibfboldcaaDoorFh
namespace Go.Proofs.YtbpacibfboldcaaDoor
open Go.RowKit

/-- A keeper alone, N children, and room to tell of m more. -/
def One (u N m : Nat) (s : St) : Prop := s.1.length = 1 ∧ (runsP (el s.1 u)).length = N ∧ s.2.length + m ≤ 4000000
theorem One.off {u N m c : Nat} {s : St} (h : One u N (m + 1) s) (hu : u < s.1.length) : One u N m (offP s u c) := by
  obtain ⟨h1, h2, h3⟩ := h
  have hS := Sh.run hu c false
  exact ⟨hS.1.trans h1, (hS.2 u).2.2.trans h2, by show (s.2 ++ [_]).length + m ≤ _; simp; omega⟩
set_option maxRecDepth 10000 in
set_option maxHeartbeats 8000000 in
theorem allS_one (lo hi p : Nat) (ra : List (Option Addr × Nat)) (s : St) (u : Nat) (w : World) (hL : LiveW 54 lo hi w p ra s) (hlo : lo ≤ w.heap.size) (hul : u < s.1.length) (h1 : s.1.length = 1) (hrl : (runsP (el s.1 u)).length ≤ 10) (htold : s.2.length ≤ 3000000) :
    Calls Tryd.prog 53 #[.pointer (some ⟨p, 0, none⟩), .int .i64 u] w fun e w' => AnsW 54 lo hi w p ra (endP (fromF (fun s m => offP s u m) s u 0).1.1 u, (fromF (fun s m => offP s u m) s u 0).1.2) e w' := by
  obtain ⟨FF, hFF⟩ : ∃ FF, FF = (fun (s : St) (m : Nat) => offP s u m) := ⟨_, rfl⟩
  obtain ⟨Z, hZ⟩ : ∃ Z, Z = fromF FF s u 0 := ⟨_, rfl⟩
  rw [← hFF, ← hZ]
  have HFF := hid hFF
  have HL := hid hL
  have hN : s.1.length ≤ 8 := by omega
  obtain ⟨N, hNN⟩ : ∃ N, N = (runsP (el s.1 u)).length := ⟨_, rfl⟩
  rw [← hNN] at hrl
  have HZ : Hid (downF FF u 0 N (s, []) = Z) := by rw [Hid, hZ, fromF, hNN]; rfl
  have HNN := hid hNN
  obtain ⟨g, kc, av, ls, hp, hD, hO, hv, hr, hlp, hhi⟩ := hL
  have hlen := len_ls hv
  have c0 : w.cell? ⟨p, 0, none⟩ = some (.slice (some ⟨g, 0, none⟩) s.1.length kc) := by rw [Go.Joins.cell_of_block hp]; rfl
  have hev := el_map_val hv (k := u) (by omega)
  obtain ⟨⟨kd, mr, wi, up, ch, ⟨ro, rc, r⟩, ⟨fo, fc, f⟩, ov⟩, ex⟩ : ∃ v, v = el ls u := ⟨_, rfl⟩
  obtain ⟨⟨_, _, _, _, _, h5, _, _⟩, _, hg1, _, hg3⟩ := hK_at hD.1 (k := u) (by omega) ex.symm
  rw [← ex] at hev
  have hrN : r.length = N := by rw [hNN, hev]; rfl
  rw [hrN] at h5
  have HONE : Hid (One u N N s) := ⟨h1, hNN.symm, by omega⟩
  clear hp hD hO hv hr ex hev hFF hZ hNN hrN
  go_enter Tryd.func53, Tryd.ntmps53
  go_wp2
  clear c0 h5
  go_loopw [4] (fun b wr => ∃ (m : Nat) (x : St × List Int), b = .int .i64 ((m : Int) - 1) ∧ m ≤ N ∧ Hid (downF FF u 0 m x = Z) ∧ Hid (LiveW 54 lo hi wr p ra x.1) ∧ Hid (One u N m x.1) ∧ Below lo w wr ∧ Hid (IntsKept w wr)) (fun b _ => ((intOf b) + 1).toNat)
  case atStart => exact ⟨N, (s, []), by go_num, by omega, HZ, HL, HONE, Below.refl _ _, IntsKept.refl _⟩
  case round =>
    obtain ⟨m, x, rfl, hm, hX, hLr, hKr, hB, hI⟩ := hrel
    have hs := hB.size
    obtain ⟨hx1, hrn, htx⟩ := hKr.out
    have hlx : u < x.1.1.length := by omega
    obtain ⟨g2, kc2, av2, ls2, hp2, hD2, hO2, hv2, hr2, hlp2, hhi2⟩ := hLr.out
    have hlen2 := len_ls hv2
    have e0 : wr.cell? ⟨p, 0, none⟩ = some (.slice (some ⟨g2, 0, none⟩) x.1.1.length kc2) := by rw [Go.Joins.cell_of_block hp2]; rfl
    have hev2 := el_map_val hv2 (k := u) (by omega)
    obtain ⟨⟨kd2, mr2, wi2, up2, ch2, ⟨ro2, rc2, r2⟩, ⟨fo2, fc2, f2⟩, ov2⟩, ex2⟩ : ∃ v, v = el ls2 u := ⟨_, rfl⟩
    obtain ⟨⟨_, _, _, _, _, i5, i6, i7⟩, hfz, hg21, _, hg23⟩ := hK_at hD2.1 (k := u) (by omega) ex2.symm
    cases m with
    | zero =>
      have hX2 : Hid (x = Z) := hX.out
      have hE : (((0 : Nat) : Int) - 1) = (-1 : Int) := by omega
      rw [hE]
      have z7 := hfz 7
      have z6 := hfz 6
      have hgp : p ≠ g2 := fun e => by
        subst e
        obtain ⟨g3, e3, _, _, _, ho⟩ := (show hKeeper.Fresh _ _ _ _ _ _ from hD2.1).at (show 0 < ls2.length by omega)
        simp at e3; subst e3
        obtain ⟨cur, hcur⟩ := owns_type ho
        rw [hp2] at hcur; simp at hcur
        exact absurd hcur.2 (by decide)
      have HE := hid (LiveW.putEnd ownT_s hp2 hD2 hO2 hv2 hr2 hlp2 hhi2 (k := u) (by omega) ex2.symm)
      clear hp2 hD2 hO2 hv2 hr2 ex2 hev2 hfz hX
      go_wp2
      first | refine bodyPost_ret (results_none rfl _ _ _) rfl ?_ | refine bodyPost_end (results_none rfl _ _ _) rfl ?_
      rw [← hX2.out]
      exact ⟨rfl, HE.out.1, (hB.setCell (p := ⟨g2, u * 8 + 7, none⟩) hg21 _).setCell (p := ⟨g2, u * 8 + 6, none⟩) hg21 _, hI.out.trans HE.out.2.1⟩
    | succ m =>
      have hE : (((m + 1 : Nat) : Int) - 1) = (m : Int) := by push_cast; omega
      rw [hE]
      have hXs : Hid (downF FF u 0 m (if el (runsP (el x.1.1 u)) m then (FF x.1 m, x.2 ++ [(m : Int)]) else x) = Z) := by have := hX.out; rw [downF, Nat.zero_add] at this; exact this
      rw [← ex2] at hev2
      have hr2N : r2.length = N := by rw [← hrn, hev2]; rfl
      rw [hr2N] at i5
      have hFr := hD2.2.1 u (by omega)
      rw [← ex2] at hFr
      have hIn : kB.In wr.heap.size wr ro2 r2 := Kind.Fresh.in hFr.1
      obtain ⟨b1, off1, hro, hb1, hc1⟩ := bools_at hIn (k := m) (by omega)
      have cj := hc1 m (by omega)
      have her : el (runsP (el x.1.1 u)) m = el r2 m := by rw [hev2]; rfl
      clear hp2 hD2 hO2 hv2 hr2 ex2 hev2 hFr hc1 hIn hfz hX hE
      subst hro
      cases hy : el r2 m
      · have hXn : Hid (downF FF u 0 m x = Z) := by have := hXs.out; rwa [her, hy] at this
        rw [hy] at cj
        clear her hXs hy
        go_wp2
        go_roundw
        case rel => exact ⟨m, x, by go_num, by omega, hXn, hLr, ⟨hx1, hrn, by omega⟩, hB, hI⟩
        case measure => simp [intOf] <;> omega
      · have hXn : Hid (downF FF u 0 m (FF x.1 m, x.2 ++ [(m : Int)]) = Z) := by have := hXs.out; rwa [her, hy] at this
        rw [hy] at cj
        clear her hXs hy
        go_wp2_with fail
        refine (stopS_one lo hi p ra x.1 u m wr hLr.out (by omega) hlx hx1 (by omega) (by omega)).mono ?_
        rintro e w3 ⟨rfl, hL3, hB3, hI3⟩
        have L3 : Hid (LiveW 54 lo hi w3 p ra (FF x.1 m)) := by rw [Hid, HFF.out]; exact hL3
        have hBw := hB.trans hB3
        have I3 := hid (hI.out.trans hI3)
        have K3 : Hid (One u N m (FF x.1 m)) := by rw [Hid, HFF.out]; exact (show One u N (m + 1) x.1 from ⟨hx1, hrn, htx⟩).off hlx
        clear hL3 hB3 hI3 cj e0 i5 i6 i7
        go_wp2
        go_roundw
        case rel => exact ⟨m, (FF x.1 m, x.2 ++ [(m : Int)]), by go_num, by omega, hXn, L3, K3, hBw, I3⟩
        case measure => simp [intOf] <;> omega
end Go.Proofs.YtbpacibfboldcaaDoor
