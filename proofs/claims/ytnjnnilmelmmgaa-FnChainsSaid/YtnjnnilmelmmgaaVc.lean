
/- Merging: the program whole. No conditions but those written. -/
import Derived.Test.YtnjnnilmelmmgaaVb
namespace Go.Proofs.Ytnjnnilmelmmgaa
open Go.RowKit

theorem ownBlock_ty {lo : Nat} {W : World} {v : Value} {xs : List Int} (h : kI.Own lo W v xs) {b : Nat} (hb : v.ownBlock = some b) : ∃ cur, W.heap[b]? = some (.cells cur 3 (0, 0)) := by
  rcases h.2 with ⟨e, _⟩ | ⟨g, cap, cur, e, _, hh, _⟩
  · subst e; simp [Value.ownBlock] at hb
  · subst e; simp [Value.ownBlock] at hb; subst hb; exact ⟨_, hh⟩
theorem head_ne {lo lo' g n c : Nat} {W : World} {v : Value} {xs : List Int} {cs : List Value} (h : kI.Own lo W v xs) (hr : W.ownsRow lo' 28 1 (.slice (some ⟨g, 0, none⟩) n c) n cs) : v.ownBlock ≠ some g := by
  intro e
  obtain ⟨cur, h1⟩ := ownBlock_ty h e
  obtain ⟨cur', h2⟩ := owns_type hr
  rw [h1] at h2
  simp at h2
theorem kR_flat_set (hs : List Hd) (k : Nat) (h : Hd) : (kR.flat hs).set k (.slice h.1 h.2.1 h.2.2) = kR.flat (hs.set k h) := by
  induction hs generalizing k with
  | nil => rfl
  | cons x r ih =>
    cases k with
    | zero => rw [List.set_cons_zero, Kind.flat_cons, Kind.flat_cons]; rfl
    | succ k =>
      rw [List.set_cons_succ, Kind.flat_cons, Kind.flat_cons, ← ih k]; rfl
theorem el_map_snd {rs : List (Hd × List Int)} {k : Nat} (h : k < rs.length) : el (rs.map Prod.snd) k = (el rs k).2 := el_map Prod.snd h
/-- One less of a row: the slice behind its first. -/
theorem in_tail {n : Nat} {W : World} {b off c : Nat} {x : List Int} (h : kI.In n W (some ⟨b, off, none⟩) x) (hc : x.length ≤ c) (_h0 : 0 < x.length) : kI.In n W (some (if c = 1 then ⟨b, off, none⟩ else ⟨b, off + 1, none⟩)) (x.drop 1) := by
  by_cases h1 : c = 1
  · refine .inl ?_
    apply List.drop_eq_nil_of_le; omega
  · rw [if_neg h1]
    have := h.drop 1
    simpa [kI] using this
def sliceLen : Value → Nat
  | .slice _ n _ => n
  | _ => 0
set_option maxHeartbeats 8000000 in
theorem mergeBy_any (dao : Option Addr) (dcap : Nat) (ds : List Int) (ao : Option Addr) (cap : Nat) (rs : List (Hd × List Int)) (w : World) (hd : kI.In w.heap.size w dao ds) (hz : kR.In w.heap.size w ao (rs.map Prod.fst)) (hR : RI w.heap.size w rs) (hl : rs.length ≤ 10) (ht : tot (rs.map Prod.snd) ≤ 100) :
    Calls Try.prog 51 #[.slice dao ds.length dcap, .slice ao rs.length cap] w fun e w' => (∃ o c, e = .returned (.slice o (mg (rs.map Prod.snd) ds).length c) ∧ (o = none → c = 0) ∧ kI.Fresh w.heap.size w'.heap.size w' o c (mg (rs.map Prod.snd) ds)) ∧ Below w.heap.size w w' := by
  obtain ⟨ls, hls⟩ : ∃ ls, ls = rs.map Prod.snd := ⟨_, rfl⟩
  have hll : ls.length ≤ 10 := by rw [hls]; simpa using hl
  have HLS := hid hls
  rw [← hls] at ht ⊢
  clear hls
  have HD := hid hd
  have HRI := hid hR
  go_enter Try.func51, Try.ntmps51
  go_wp2_with fail
  refine (those_any ao cap rs w (by omega) hz (fun r hr => (hR r hr).1)).mono ?_
  rintro e w1 ⟨⟨o1, c1, rfl, _, hF1⟩, hb1⟩
  have F1 := hid hF1
  have HS : Hid ((someR rs).map Prod.snd = (mrun ds ([], nonE ls) 0).2) := by rw [Hid, someR_snd, ← HLS.out]; rfl
  have HR1 := hid HRI.out.some
  clear hF1 hd hz hR HRI HLS
  generalize someR rs = rq at F1 HS HR1 ⊢
  go_wp2
  go_loopw [5, 6] (fun u s wr => ∃ (m : Nat) (v : Value) (o : Option Addr) (c : Nat) (rq : List (Hd × List Int)) (x : List Int), v = u ∧ s = .slice o rq.length c ∧ m ≤ tot ls ∧ sliceLen v = m ∧ Hid (kI.Own w.heap.size wr v x) ∧ Hid (kR.Fresh w.heap.size wr.heap.size wr o c (rq.map Prod.fst)) ∧ Hid (RI w.heap.size w rq) ∧ Hid ((x, rq.map Prod.snd) = mrun ds ([], nonE ls) m) ∧ Below w.heap.size w wr) (fun u _ _ => tot ls - sliceLen u)
  case atStart => exact ⟨0, _, o1, c1, rq, [], rfl, rfl, Nat.zero_le _, rfl, Kind.Own.nil _ _ _, F1, HR1, by rw [Hid, HS.out]; rfl, hb1⟩
  case round =>
    clear F1 HS HR1
    obtain ⟨m, v, o, c, rq, x, rfl, rfl, hm, hsl, hO, hF, hR, hS, hB⟩ := hrel
    obtain ⟨xo, xc, rfl, hx0, _⟩ := hO.out.fresh
    have hxm : x.length = m := by have := congrArg (fun s => s.1.length) hS.out; simp only [mrun_len] at this; exact this
    subst hxm
    clear hsl hx0
    have hshort : rq.length ≤ 10 := by
      have h1 := mrun_short ds ls x.length
      rw [← hS.out] at h1
      simp at h1; omega
    by_cases hlt : 0 < rq.length
    · have hgt : decide ((0 : Int) < (rq.length : Int)) = true := by simpa using hlt
      have hne : ¬ rq = [] := fun e => by rw [e] at hlt; simp at hlt
      have hplt : mplace ds (x, rq.map Prod.snd) < rq.length := by
        have := mplace_lt (ds := ds) (s := (x, rq.map Prod.snd)) (by simpa using hlt)
        simpa using this
      have hpc : ((mplace ds (x, rq.map Prod.snd) : Nat) : Int) = dr ds x.length % (rq.length : Int) := by
        have := mplace_cast (ds := ds) (s := (x, rq.map Prod.snd)) (by simpa using hlt)
        simpa using this
      have hall : 0 < (el rq (mplace ds (x, rq.map Prod.snd))).2.length := by
        have h1 := mrun_all ds ls x.length
        rw [← hS.out] at h1
        rw [← el_map_snd hplt]
        exact h1 _ (el_mem (by simpa using hplt))
      have hmt : x.length < tot ls := by
        have h1 := mrun_tot ds ls x.length hm
        rw [← hS.out] at h1
        have h2 : 0 < tot (rq.map Prod.snd) := by
          have := tot_el (ls := rq.map Prod.snd) (k := mplace ds (x, rq.map Prod.snd)) (by simpa using hplt)
          rw [el_map_snd hplt] at this; omega
        dsimp only at h1; omega
      have HN : Hid (mrun ds ([], nonE ls) (x.length + 1) = (x ++ [el (el rq (mplace ds (x, rq.map Prod.snd))).2 0], nonE ((rq.map Prod.snd).set (mplace ds (x, rq.map Prod.snd)) ((el rq (mplace ds (x, rq.map Prod.snd))).2.drop 1)))) := by
        rw [Hid, mrun, ← hS.out, mstep]; dsimp only; rw [el_map_snd hplt]
      obtain ⟨hr1, hr2, hr3⟩ := hR.out _ (el_mem hplt)
      generalize hP : mplace ds (x, rq.map Prod.snd) = p at hplt hpc hall HN hr1 hr2 hr3
      clear hP
      obtain ⟨⟨⟨ro, rn, rc⟩, y⟩, hy⟩ : ∃ r, r = el rq p := ⟨_, rfl⟩
      rw [← hy] at hall HN hr1 hr2 hr3
      dsimp only at hall HN hr1 hr2 hr3
      subst hr1
      obtain ⟨yb, yoff, rfl, hyb, hyc⟩ := ints_at hr3 hall
      have dy := (hB.cell (p := ⟨yb, yoff, none⟩) hyb).trans (by simpa using hyc 0 hall)
      have HY := hid hy
      have HR3 := hid hr3
      obtain ⟨z, hzz⟩ : ∃ z, z = el y 0 := ⟨_, rfl⟩
      rw [← hzz] at dy HN
      clear hy hyc hzz hr3
      obtain ⟨g, rfl, hg1, hg2, hg3, hown⟩ := hF.out.at (by simpa using hlt)
      rw [List.length_map] at hown
      have hpc1 : (kR.flat (rq.map Prod.fst))[p]? = some (.slice (some ⟨yb, yoff, none⟩) y.length rc) := by
        have := kR.flat_at (rq.map Prod.fst) p (by simpa using hplt) 0 (by decide)
        rw [el_map Prod.fst hplt, ← HY.out] at this
        simpa [kR] using this
      have dl : wr.cell? ⟨g, p, none⟩ = some (.slice (some ⟨yb, yoff, none⟩) y.length rc) := (hown.cellAt p (by show p < rq.length * 1; omega)).trans hpc1
      have HOWN := hid hown
      have hHO := hid (hown.alloc (.cells #[.int .i64 z] 3))
      have HOA := hid (hO.out.below (below1 wr (.cells #[.int .i64 z] 3)))
      have HIA : Hid (kI.In (wr.heap.size + 1) (wr.alloc (.cells #[.int .i64 z] 3)) (some ⟨wr.heap.size, 0, none⟩) [z]) := int_one (by omega) (by simp)
      have hBa := Below.allocS hB (.cells #[.int .i64 z] 3)
      have hsw := hB.size
      have HDW := hid (HD.out.later hB)
      have hy1 : (1 : Nat) ≤ y.length := hall
      clear hown hF
      go_wp2_with fail
      refine (drawAt_is dao dcap ds x.length wr _ rfl HDW.out).mono ?_
      rintro e w2 ⟨rfl, hw2⟩
      rw [hw2]; clear hw2 w2
      go_wp2_with fail
      refine (modulo_is (dr ds x.length) (rq.length : Int) wr _ hpc.symm (by omega) (by omega)).mono ?_
      rintro e w2 ⟨rfl, hw2⟩
      rw [hw2]; clear hw2 w2 hpc
      obtain ⟨z2, hz2⟩ : ∃ z2, z2 = x ++ [z] := ⟨_, rfl⟩
      have HZ2 := hid hz2
      clear hz2
      have HTL := hid (in_tail HR3.out hr2 hall)
      by_cases hrc : rc = 1
      · rw [if_pos hrc] at HTL
        subst hrc
        go_wp2_with (at_builtin; refine Kind.app kI_ok (wr.alloc (.cells #[.int .i64 z] 3)) rfl (.tmp 22) (.tmp 29) rfl w.heap.size (.slice xo x.length xc) x rfl HOA.out (by simp; omega) (some ⟨wr.heap.size, 0, none⟩) [z] 1 1 rfl rfl (by simp) _ HIA.out (by simp; omega) ?_; intro v' w2 hO' hB' hG' hn'; have hB2 : Below w.heap.size w w2 := hBa.trans hB'; rw [← HZ2.out] at hO'; obtain ⟨qo, qc, rfl, _, _⟩ := hO'.fresh; have HO2 := hid hO'; have hHO2 := hid (owns_block hHO.out (hG'.block g (by simp; omega) (fun e => head_ne HOA.out hHO.out e.symm))); have dl2 : w2.cell? ⟨g, p, none⟩ = some (.slice (some ⟨yb, yoff, none⟩) y.length 1) := (hHO2.out.cellAt p (by show p < rq.length * 1; omega)).trans hpc1; have df2 : w2.frozen? ⟨g, p, none⟩ = false := hHO2.out.frozenAt p; clear hO' hB' hG' hn')
        obtain ⟨V, hV⟩ : ∃ V, V = w2.setCell ⟨g, p, none⟩ (.slice (some ⟨yb, yoff, none⟩) 0 0) := ⟨_, rfl⟩
        rw [← hV]
        have hB3 : Below w.heap.size w V := by rw [hV]; exact hB2.setCell (p := ⟨g, p, none⟩) hg1 _
        obtain ⟨rz, hrz⟩ : ∃ rz, rz = rq.set p ((some ⟨yb, yoff, none⟩, 0, 0), y.drop 1) := ⟨_, rfl⟩
        have hrl : rz.length = rq.length := by rw [hrz]; simp
        have HH : Hid (kR.Fresh w.heap.size V.heap.size V (some ⟨g, 0, none⟩) c (rz.map Prod.fst)) := by
          have h1 := (hHO2.out.stored p (.slice (some ⟨yb, yoff, none⟩) 0 0)).1
          rw [← hV, kR_flat_set (rq.map Prod.fst) p (some ⟨yb, yoff, none⟩, 0, 0)] at h1
          have h2 : rz.map Prod.fst = (rq.map Prod.fst).set p (some ⟨yb, yoff, none⟩, 0, 0) := by rw [hrz, List.map_set]
          refine .inr ⟨g, rfl, (owns_lt h1).2, ?_⟩
          rw [h2, List.length_set, List.length_map]
          exact h1
        have HRZ : Hid (RI w.heap.size w rz) := by
          intro r hr
          rw [hrz] at hr
          rcases List.mem_or_eq_of_mem_set hr with h | h
          · exact hR.out r h
          · rw [h]
            exact ⟨by simp <;> omega, by dsimp only; omega, HTL.out⟩
        have HOV : Hid (kI.Own w.heap.size V (.slice qo z2.length qc) z2) := by
          rw [Hid, hV]
          refine own_keep HO2.out fun b hb => Below.heap_setCell _ _ _ _ ?_
          intro e
          subst e
          exact head_ne HO2.out hHO2.out hb
        have HSZ : Hid ((someR rz).map Prod.snd = (mrun ds ([], nonE ls) (x.length + 1)).2) := by
          rw [Hid, someR_snd, hrz, List.map_set, HN.out]
        have HSX : Hid (z2 = (mrun ds ([], nonE ls) (x.length + 1)).1) := by rw [Hid, HN.out]; exact HZ2.out
        have HLZ := hid hrz
        have HVV := hid hV
        clear hV hrz HVV HO2 hHO2 HOWN hHO HOA HIA
        rw [← hrl]
        refine (those_any (some ⟨g, 0, none⟩) c rz V (by omega) HH.out.in (fun r hr => (HRZ.out r hr).1)).mono ?_
        rintro e w3 ⟨⟨o3, c3, rfl, _, hF3⟩, hb3⟩
        have hB4 := hB3.trans (hb3.mono hB3.size)
        have HF3 := hid (hF3.wide (lo' := w.heap.size) hB3.size (Nat.le_refl _))
        have HO3 := hid (HOV.out.below hb3)
        have HR3 := hid HRZ.out.some
        clear hF3 hb3 HOV HH HRZ hB3
        generalize someR rz = rk at HF3 HR3 HSZ ⊢
        have hz2 : z2.length = x.length + 1 := by rw [HZ2.out]; simp
        have HL2 := hid hz2
        clear hz2
        go_wp2
        go_roundw
        case rel => exact ⟨x.length + 1, _, o3, c3, rk, z2, rfl, rfl, by omega, HL2.out, HO3, HF3, HR3, by rw [Hid, HSZ.out, HSX.out], hB4⟩
        case measure => simp only [sliceLen]; rw [HL2.out]; omega
      · rw [if_neg hrc] at HTL
        go_wp2_with (at_builtin; refine Kind.app kI_ok (wr.alloc (.cells #[.int .i64 z] 3)) rfl (.tmp 22) (.tmp 29) rfl w.heap.size (.slice xo x.length xc) x rfl HOA.out (by simp; omega) (some ⟨wr.heap.size, 0, none⟩) [z] 1 1 rfl rfl (by simp) _ HIA.out (by simp; omega) ?_; intro v' w2 hO' hB' hG' hn'; have hB2 : Below w.heap.size w w2 := hBa.trans hB'; rw [← HZ2.out] at hO'; obtain ⟨qo, qc, rfl, _, _⟩ := hO'.fresh; have HO2 := hid hO'; have hHO2 := hid (owns_block hHO.out (hG'.block g (by simp; omega) (fun e => head_ne HOA.out hHO.out e.symm))); have dl2 : w2.cell? ⟨g, p, none⟩ = some (.slice (some ⟨yb, yoff, none⟩) y.length rc) := (hHO2.out.cellAt p (by show p < rq.length * 1; omega)).trans hpc1; have df2 : w2.frozen? ⟨g, p, none⟩ = false := hHO2.out.frozenAt p; clear hO' hB' hG' hn')
        obtain ⟨V, hV⟩ : ∃ V, V = w2.setCell ⟨g, p, none⟩ (.slice (some ⟨yb, yoff + 1, none⟩) (y.length - 1) (rc - 1)) := ⟨_, rfl⟩
        rw [← hV]
        have hB3 : Below w.heap.size w V := by rw [hV]; exact hB2.setCell (p := ⟨g, p, none⟩) hg1 _
        obtain ⟨rz, hrz⟩ : ∃ rz, rz = rq.set p ((some ⟨yb, yoff + 1, none⟩, (y.length - 1), (rc - 1)), y.drop 1) := ⟨_, rfl⟩
        have hrl : rz.length = rq.length := by rw [hrz]; simp
        have HH : Hid (kR.Fresh w.heap.size V.heap.size V (some ⟨g, 0, none⟩) c (rz.map Prod.fst)) := by
          have h1 := (hHO2.out.stored p (.slice (some ⟨yb, yoff + 1, none⟩) (y.length - 1) (rc - 1))).1
          rw [← hV, kR_flat_set (rq.map Prod.fst) p (some ⟨yb, yoff + 1, none⟩, (y.length - 1), (rc - 1))] at h1
          have h2 : rz.map Prod.fst = (rq.map Prod.fst).set p (some ⟨yb, yoff + 1, none⟩, (y.length - 1), (rc - 1)) := by rw [hrz, List.map_set]
          refine .inr ⟨g, rfl, (owns_lt h1).2, ?_⟩
          rw [h2, List.length_set, List.length_map]
          exact h1
        have HRZ : Hid (RI w.heap.size w rz) := by
          intro r hr
          rw [hrz] at hr
          rcases List.mem_or_eq_of_mem_set hr with h | h
          · exact hR.out r h
          · rw [h]
            exact ⟨by simp <;> omega, by dsimp only; omega, HTL.out⟩
        have HOV : Hid (kI.Own w.heap.size V (.slice qo z2.length qc) z2) := by
          rw [Hid, hV]
          refine own_keep HO2.out fun b hb => Below.heap_setCell _ _ _ _ ?_
          intro e
          subst e
          exact head_ne HO2.out hHO2.out hb
        have HSZ : Hid ((someR rz).map Prod.snd = (mrun ds ([], nonE ls) (x.length + 1)).2) := by
          rw [Hid, someR_snd, hrz, List.map_set, HN.out]
        have HSX : Hid (z2 = (mrun ds ([], nonE ls) (x.length + 1)).1) := by rw [Hid, HN.out]; exact HZ2.out
        have HLZ := hid hrz
        have HVV := hid hV
        clear hV hrz HVV HO2 hHO2 HOWN hHO HOA HIA
        rw [← hrl]
        refine (those_any (some ⟨g, 0, none⟩) c rz V (by omega) HH.out.in (fun r hr => (HRZ.out r hr).1)).mono ?_
        rintro e w3 ⟨⟨o3, c3, rfl, _, hF3⟩, hb3⟩
        have hB4 := hB3.trans (hb3.mono hB3.size)
        have HF3 := hid (hF3.wide (lo' := w.heap.size) hB3.size (Nat.le_refl _))
        have HO3 := hid (HOV.out.below hb3)
        have HR3 := hid HRZ.out.some
        clear hF3 hb3 HOV HH HRZ hB3
        generalize someR rz = rk at HF3 HR3 HSZ ⊢
        have hz2 : z2.length = x.length + 1 := by rw [HZ2.out]; simp
        have HL2 := hid hz2
        clear hz2
        go_wp2
        go_roundw
        case rel => exact ⟨x.length + 1, _, o3, c3, rk, z2, rfl, rfl, by omega, HL2.out, HO3, HF3, HR3, by rw [Hid, HSZ.out, HSX.out], hB4⟩
        case measure => simp only [sliceLen]; rw [HL2.out]; omega
    · have hgt : decide ((0 : Int) < (rq.length : Int)) = false := by simpa using hlt
      have hend : x.length = tot ls := by
        have h1 := mrun_tot ds ls x.length hm
        rw [← hS.out] at h1
        have h2 := tot_zero (ls := rq.map Prod.snd) (by simp; exact List.length_eq_zero_iff.1 (by omega))
        dsimp only at h1; omega
      have HX : Hid (x = mg ls ds) := by
        have := congrArg Prod.fst hS.out
        rw [hend] at this
        exact this
      obtain ⟨yo, yc, hyy, hy0, hFy⟩ := hO.out.fresh
      simp at hyy
      obtain ⟨rfl, rfl⟩ := hyy
      have HFY := hid hFy
      have HY0 := hid hy0
      clear hFy hy0 hO hF hR hS
      go_wp2
      go_ret
      rw [← HX.out]
      exact ⟨⟨_, _, rfl, HY0.out, HFY.out⟩, hB⟩
end Go.Proofs.Ytnjnnilmelmmgaa
