
/- StopOrder: both sides. No conditions but those written. -/
import Derived.Test.YthhamfgclhiagaaLy
import Derived.Test.YthhamfgclhiagaaLgr
namespace Go.Proofs.Ythhamfgclhiagaa
open Go.RowKit

theorem goodL_len {ps : List PKeeper} (h : goodL ps = true) : 1 ≤ ps.length ∧ ps.length ≤ 8 := by
  simp only [goodL, Bool.and_eq_true, decide_eq_true_eq] at h; exact ⟨h.1, h.2.1⟩
theorem goodL_at {ps : List PKeeper} (h : goodL ps = true) {k : Nat} (hk : k < ps.length) : okAt ps k = true := by
  simp only [goodL, Bool.and_eq_true, List.all_eq_true] at h; exact h.2.2 k (List.mem_range.2 hk)
theorem okAt_good {ps : List PKeeper} {k : Nat} (h : okAt ps k = true) : goodP (el ps k) = true := by
  simp only [okAt, Bool.and_eq_true] at h; exact h.1
theorem goodL_tree {ps : List PKeeper} (h : goodL ps = true) : TreeP ps := by
  intro j hj
  have h1 := goodL_at h hj
  rcases Nat.eq_zero_or_pos j with rfl | h0
  · simp only [okAt, Bool.and_eq_true, if_true, decide_eq_true_eq] at h1
    rw [h1.2]; omega
  · rw [okAt_pos h0 (okAt_good h1)] at h1
    simp only [standB, Bool.and_eq_true, decide_eq_true_eq] at h1
    have h2 := h1.1.2
    have h3 : (ps.take j).length ≤ j := by simp; omega
    omega
theorem goodP_runs {p : PKeeper} (h : goodP p = true) : 1 ≤ (runsP p).length ∧ (runsP p).length ≤ 10 := by
  simp only [goodP, keeperB, Bool.and_eq_true, decide_eq_true_eq] at h
  have := h.2.2.2.1
  omega
theorem goodL_runs {ps : List PKeeper} (h : goodL ps = true) (j : Nat) : (runsP (el ps j)).length ≤ 10 := by
  rcases Nat.lt_or_ge j ps.length with hj | hj
  · exact (goodP_runs (okAt_good (goodL_at h hj))).2
  · have : el ps j = default := by simp [el, hj]
    rw [this]; exact Nat.zero_le _
theorem sum_le {f : PKeeper → Nat} {b : Nat} : ∀ {ps : List PKeeper}, (∀ p ∈ ps, f p ≤ b) → (ps.map f).sum ≤ b * ps.length
  | [], _ => by simp
  | x :: r, h => by
    have h1 := sum_le (ps := r) fun p hp => h p (List.mem_cons_of_mem _ hp)
    have h2 := h x List.mem_cons_self
    simp only [List.map_cons, List.sum_cons, List.length_cons, Nat.mul_add, Nat.mul_one]; omega
theorem goodL_cnt {ps : List PKeeper} (h : goodL ps = true) : cntR ps ≤ 80 := by
  have h1 : cntR ps ≤ 10 * ps.length := sum_le fun p hp => by
    obtain ⟨j, hj, rfl⟩ := mem_el hp
    exact Nat.le_trans List.count_le_length (goodL_runs h j)
  have := (goodL_len h).2
  omega
theorem goodL_S {ps : List PKeeper} (h : goodL ps = true) : GoodS 8 (ps, []) 0 :=
  ⟨goodL_tree h, (goodL_len h).1, by have := (goodL_len h).2; exact this, (goodL_len h).2, goodL_runs h, by have := goodL_cnt h; simp; omega⟩
/-- What StopOrder tells. -/
def stopR (ps : List PKeeper) : List (Int × Int × Int) × Bool := if goodL ps = true then ((fromF (fun s m => stopF 8 s 0 m) (ps, []) 0 0).1.2, true) else ([], false)
theorem stopR_bad {ps : List PKeeper} (h : goodL ps = false) : stopR ps = ([], false) := by rw [stopR, if_neg]; rw [h]; simp
theorem stopR_ok {ps : List PKeeper} (h : goodL ps = true) : stopR ps = ((fromF (fun s m => stopF 8 s 0 m) (ps, []) 0 0).1.2, true) := by rw [stopR, if_pos h]
theorem stopR_len (ps : List PKeeper) : (stopR ps).1.length ≤ 80 := by
  cases h : goodL ps
  · rw [stopR_bad h]; simp
  · rw [stopR_ok h]
    have hG := goodL_S h
    have := (fromF_keeps (n := 8) (u := 0) 0 hG.tree hG.kl hG.fuel).told
    have := goodL_cnt h
    simp only [List.length_nil] at *
    omega
/-- Acts and a bool, in memory of their own. -/
def AnsA (w : World) (R : List (Int × Int × Int) × Bool) (e : Ending) (w' : World) : Prop := (∃ o c, e = .returned (.tuple #[.slice o R.1.length c, .bool R.2]) ∧ kA.Fresh w.heap.size w'.heap.size w' o c R.1) ∧ Below w.heap.size w w'
theorem alloc_new (w : World) (o : Obj) : (w.alloc o).heap[w.heap.size]? = some o := by
  show (w.heap.push o)[w.heap.size]? = some o
  simp
/-- Keepers that were copied, and a box for them. -/
theorem live_new {t : TypeId} {w w1 : World} {o : Option Addr} {c : Nat} {us : List LKeeper} {ps : List PKeeper} (hv : us.map valKeeper = ps) (hF : DFr dKeeper w.heap.size w1.heap.size w1 o c us) (hb : Below w.heap.size w w1) (h1 : 1 ≤ ps.length) :
    LiveW t w.heap.size w1.heap.size (w1.alloc (.cells #[.slice o ps.length c, .slice none 0 0] t)) w1.heap.size (us.map radr) (ps, []) := by
  have hl := len_ls hv
  obtain ⟨g, rfl, _, _, _, _⟩ := (show hKeeper.Fresh _ _ _ _ _ _ from hF.1).at (show 0 < us.length by omega)
  exact ⟨g, c, .slice none 0 0, us, alloc_new _ _, hF.later dKeeper_ok (below1 _ _), Kind.Own.nil _ _ _, hv, rfl, hb.size, by simp⟩
set_option maxRecDepth 10000 in
set_option maxHeartbeats 4000000 in
theorem watchOf_any (ao : Option Addr) (cap : Nat) (ts : List LKeeper) (w : World) (hl : ts.length ≤ 1048576) (h1 : 1 ≤ ts.length) (hle : Fits ts) (hz : DIn dKeeper w.heap.size w ao ts) :
    Calls Try.prog 44 #[.slice ao ts.length cap] w fun e w' => (∃ p hi ra, e = .returned (.pointer (some ⟨p, 0, none⟩)) ∧ LiveW 70 w.heap.size hi w' p ra (ts.map valKeeper, [])) ∧ Below w.heap.size w w' := by
  go_enter Try.func44, Try.ntmps44
  go_wp2_with fail
  refine (copyKs_any ao cap ts _ hl hle hz).mono ?_
  rintro e w1 ⟨⟨o, c, us, rfl, hv, hF⟩, hb⟩
  have HL := hid (live_new (t := 70) hv hF hb (by simpa using h1))
  have hBa := Below.allocS hb (.cells #[.slice o (ts.map valKeeper).length c, .slice none 0 0] 70)
  have hlm : (ts.map valKeeper).length = ts.length := by simp
  rw [hlm] at HL hBa ⊢
  clear hF hv hlm
  go_wp2
  go_ret
  exact ⟨⟨_, _, _, rfl, HL.out⟩, hBa⟩
set_option maxRecDepth 10000 in
set_option maxHeartbeats 4000000 in
theorem implStopO_any (ao : Option Addr) (cap : Nat) (ts : List LKeeper) (w : World) (hl : ts.length ≤ 1048576) (hcap : ts.length ≤ cap) (hle : Fits ts) (hz : DIn dKeeper w.heap.size w ao ts) :
    Calls Try.prog 19 #[.slice ao ts.length cap] w fun e w' => AnsA w (stopR (ts.map valKeeper)) e w' := by
  have HZ := hid hz
  have HF := hid hle
  clear hz hle
  cases hg : goodL (ts.map valKeeper)
  · have HG := hid hg
    have HR := hid (stopR_bad hg)
    clear hg
    go_enter Try.func19, Try.ntmps19
    go_wp2_with fail
    refine (implGoodL_is ao cap ts _ false hl hcap HF.out HZ.out HG.out).mono ?_
    rintro e w1 ⟨rfl, hB1⟩
    go_wp2
    refine bodyPost_ret (v := .tuple #[.slice none 0 0, .bool false]) (by simp [results, Try.results19, go_sem]) rfl ?_
    rw [HR.out]
    exact ⟨⟨none, 0, rfl, .inl rfl⟩, hB1⟩
  · have HG := hid hg
    have HR := hid (stopR_ok hg)
    have hGS := goodL_S hg
    have h1 : 1 ≤ ts.length := by have := (goodL_len hg).1; simpa using this
    have HGS := hid hGS
    obtain ⟨Tt, hTt⟩ : ∃ Tt, Tt = fromF (fun s m => stopF 8 s 0 m) (ts.map valKeeper, []) 0 0 := ⟨_, rfl⟩
    have HTT := hid hTt
    rw [← hTt] at HR
    clear hg hGS hTt
    go_enter Try.func19, Try.ntmps19
    go_wp2_with fail
    refine (implGoodL_is ao cap ts _ true hl hcap HF.out HZ.out HG.out).mono ?_
    rintro e w1 ⟨rfl, hB1⟩
    have hs1 := hB1.size
    go_wp2_with fail
    refine (watchOf_any ao cap ts _ hl h1 HF.out (HZ.out.later dKeeper_ok hB1)).mono ?_
    rintro e w2 ⟨⟨p, hi, ra, rfl, hL2⟩, hb2⟩
    have L2 := hid hL2
    have hB2 := hB1.trans (hb2.mono hs1)
    have hs2 := hb2.size
    clear hL2 hb2
    go_wp2_with fail
    refine (fromC_all 8 _ hi p ra _ 0 0 w2 L2.out hs2 HGS.out (Nat.zero_le _)).mono ?_
    rw [← HTT.out]
    rintro e w3 ⟨⟨vx, rfl, hO3⟩, hL3, hb3, hI3⟩
    obtain ⟨q0, q1, rfl, _, _⟩ := hO3.fresh
    have L3 := hid hL3
    have hB3 := hB2.trans (hb3.mono hs1)
    clear hO3 hL3 hb3 hI3
    obtain ⟨g, kc, av, ls, hp, hD, hO, hv, hr, hlp, hhi⟩ := L3.out
    obtain ⟨qo, qc, rfl, _, hFq⟩ := hO.fresh
    have c1 := Go.Joins.cell_of_block hp 1
    have c1' : w3.cell? ⟨p, 1, none⟩ = some (.slice qo Tt.1.2.length qc) := c1
    have HFQ : Hid (kA.Fresh w.heap.size w3.heap.size w3 qo qc Tt.1.2) := hFq.wide (by omega) (Nat.le_refl _)
    clear hp hD hO hv hr c1 hFq
    go_wp2
    refine bodyPost_ret (v := .tuple #[.slice qo Tt.1.2.length qc, .bool true]) (by simp [results, Try.results19, go_sem]) rfl ?_
    rw [HR.out]
    exact ⟨⟨qo, qc, rfl, HFQ.out⟩, hB3⟩
set_option maxRecDepth 10000 in
set_option maxHeartbeats 4000000 in
theorem specStopO_any (ao : Option Addr) (cap : Nat) (ts : List LKeeper) (w : World) (hl : ts.length ≤ 1048576) (hcap : ts.length ≤ cap) (hle : Fits ts) (hz : DIn dKeeper w.heap.size w ao ts) :
    Calls Try.prog 18 #[.slice ao ts.length cap] w fun e w' => AnsA w (stopR (ts.map valKeeper)) e w' := by
  have HZ := hid hz
  have HF := hid hle
  clear hz hle
  cases hg : goodL (ts.map valKeeper)
  · have HG := hid hg
    have HR := hid (stopR_bad hg)
    clear hg
    go_enter Try.func18, Try.ntmps18
    go_wp2_with fail
    refine (specGoodL_is ao cap ts _ false hl hcap HF.out HZ.out HG.out).mono ?_
    rintro e w1 ⟨rfl, hB1⟩
    go_wp2
    refine bodyPost_ret (v := .tuple #[.slice none 0 0, .bool false]) (by simp [results, Try.results18, go_sem]) rfl ?_
    rw [HR.out]
    exact ⟨⟨none, 0, rfl, .inl rfl⟩, hB1⟩
  · have HG := hid hg
    have HR := hid (stopR_ok hg)
    have hGS := goodL_S hg
    have h1 : 1 ≤ ts.length := by have := (goodL_len hg).1; simpa using this
    have HGS := hid hGS
    obtain ⟨Tt, hTt⟩ : ∃ Tt, Tt = fromF (fun s m => stopF 8 s 0 m) (ts.map valKeeper, []) 0 0 := ⟨_, rfl⟩
    have HTT := hid hTt
    rw [← hTt] at HR
    clear hg hGS hTt
    go_enter Try.func18, Try.ntmps18
    go_wp2_with fail
    refine (specGoodL_is ao cap ts _ true hl hcap HF.out HZ.out HG.out).mono ?_
    rintro e w1 ⟨rfl, hB1⟩
    have hs1 := hB1.size
    go_wp2_with fail
    refine (ownKs_any ao cap ts _ hl HF.out (HZ.out.later dKeeper_ok hB1)).mono ?_
    rintro e w2 ⟨⟨o, c, us, rfl, hv2, hF2⟩, hb2⟩
    have L2 := hid (live_new (t := 64) hv2 hF2 hb2 (by simpa using h1))
    have hlm : (ts.map valKeeper).length = ts.length := by simp
    have hbA := Below.allocS hb2 (.cells #[.slice o (ts.map valKeeper).length c, .slice none 0 0] 64)
    have hB2 := hB1.trans (hbA.mono hs1)
    rw [hlm] at L2 hB2 hbA ⊢
    have hs2 := hbA.size
    obtain ⟨p, hp0⟩ : ∃ p, p = w2.heap.size := ⟨_, rfl⟩
    obtain ⟨W2, hW2⟩ : ∃ W2, W2 = w2.alloc (.cells #[.slice o ts.length c, .slice none 0 0] 64) := ⟨_, rfl⟩
    rw [← hW2] at L2 hB2 hs2
    rw [← hp0] at L2
    have HW2 := hid hW2
    have HP0 := hid hp0
    clear hv2 hF2 hb2 hlm hbA hW2 hp0
    go_wp2_with fail
    rw [← HW2.out, ← HP0.out]
    refine (allS_all 8 _ _ p _ _ 0 W2 L2.out hs2 HGS.out).mono ?_
    rw [← HTT.out]
    rintro e w3 ⟨rfl, hL3, hb3, hI3⟩
    have L3 := hid hL3
    have hB3 := hB2.trans (hb3.mono hs1)
    clear hL3 hb3 hI3
    obtain ⟨g, kc, av, ls, hp, hD, hO, hv, hr, hlp, hhi⟩ := L3.out
    obtain ⟨qo, qc, rfl, _, hFq⟩ := hO.fresh
    have c1 := Go.Joins.cell_of_block hp 1
    have c1' : w3.cell? ⟨p, 1, none⟩ = some (.slice qo Tt.1.2.length qc) := c1
    have HFQ : Hid (kA.Fresh w.heap.size w3.heap.size w3 qo qc Tt.1.2) := hFq.wide (by omega) (Nat.le_refl _)
    clear hp hD hO hv hr c1 hFq
    go_wp2
    refine bodyPost_ret (v := .tuple #[.slice qo Tt.1.2.length qc, .bool true]) (by simp [results, Try.results18, go_sem]) rfl ?_
    rw [HR.out]
    exact ⟨⟨qo, qc, rfl, HFQ.out⟩, hB3⟩
end Go.Proofs.Ythhamfgclhiagaa
