
/- MergeFair of the specification. No conditions but those written. -/
import Derived.Test.YtnjnnilmelmmgaaVd
import Derived.Deep.RegionLaw
import Derived.Deep.Cut
namespace Go.Proofs.Ytnjnnilmelmmgaa
open Go.RowKit

theorem kI_flat_set (xs : List Int) (k : Nat) (z : Int) : (kI.flat xs).set k (.int .i64 z) = kI.flat (xs.set k z) := by
  rw [kI_flat, kI_flat, List.map_set]
theorem kI_flat_at {xs : List Int} {k : Nat} (h : k < xs.length) : (kI.flat xs)[k]? = some (.int .i64 (el xs k)) := by
  rw [kI_flat]; simp [el, h]
/-- A row of ints that was made: noughts. -/
theorem ints_made {w : World} {lo g n : Nat} (h : w.ownsRow lo 3 1 (.slice (some ⟨g, 0, none⟩) n n) n (madeCells (Value.int .i64 0).cells (n * 1)).toList) : w.ownsRow lo 3 1 (.slice (some ⟨g, 0, none⟩) n n) n (kI.flat (ints (List.replicate n 0))) := by
  have e : (madeCells (Value.int .i64 0).cells (n * 1)).toList = List.replicate (n * 1) (.int .i64 0) := toList_madeCells_one _ _
  rw [e, Nat.mul_one] at h
  rw [kI_flat]
  simpa [ints] using h
set_option maxRecDepth 100000 in
set_option maxHeartbeats 16000000 in
theorem specMerge_any (ao : Option Addr) (cap : Nat) (hs : List Hd) (ls : List (List Int)) (dao : Option Addr) (dcap : Nat) (ds : List Int) (w : World) (hl : ls.length ≤ 1048576) (hle : tot ls ≤ 1048576) (hz : InRR w.heap.size w ao hs ls) (hd : kI.In w.heap.size w dao ds) :
    Calls Try.prog 33 #[.slice ao ls.length cap, .slice dao ds.length dcap] w (AnsA w (mgR ls ds)) := by
  have HZ := hid hz
  have HD := hid hd
  clear hz hd
  go_enter Try.func33, Try.ntmps33
  go_wp2
  go_loop [6, 18] (fun v i => ∃ k : Nat, k ≤ ls.length ∧ i = .int .i64 k ∧ v = .int .i64 (tot (ls.take k) : Int)) (fun _ i => ls.length - (intOf i).toNat)
  case atStart => exact ⟨0, Nat.zero_le _, rfl, by simp [tot]⟩
  case round =>
    obtain ⟨k, hk, rfl, rfl⟩ := hrel
    by_cases hlt : k < ls.length
    · obtain ⟨b, off, o, c, rfl, hb, hc, _, _⟩ := HZ.out.at hlt
      have ht := tot_take hlt
      have htl := tot_el hlt
      generalize (el ls k).length = x at hc ht htl
      go_wp2
      go_round
      case rel => exact ⟨k + 1, by omega, by go_num, by rw [ht]; go_num⟩
      case measure => simp [intOf]; omega
    · obtain rfl : k = ls.length := by omega
      rw [List.take_length]
      clear hlt hk
      by_cases h10 : 10 < ls.length
      · have h' : decide ((10 : Int) < (ls.length : Int)) = true := by simp; omega
        have HN := hid (mgR_no (ls := ls) (ds := ds) (mgOk_not (by omega)))
        clear h10
        go_wp2
        refine bodyPost_ret (v := .tuple #[.slice none 0 0, .bool false]) (by simp [results, Try.results33, go_sem]) rfl ?_
        rw [HN.out]
        exact ansA_nil (Below.refl _ _)
      · have h' : decide ((10 : Int) < (ls.length : Int)) = false := by simp; omega
        by_cases h100 : 100 < tot ls
        · have h'' : decide ((100 : Int) < (tot ls : Int)) = true := by simp; omega
          have HN := hid (mgR_no (ls := ls) (ds := ds) (mgOk_not (by omega)))
          clear h100
          go_wp2
          refine bodyPost_ret (v := .tuple #[.slice none 0 0, .bool false]) (by simp [results, Try.results33, go_sem]) rfl ?_
          rw [HN.out]
          exact ansA_nil (Below.refl _ _)
        · have h'' : decide ((100 : Int) < (tot ls : Int)) = false := by simp; omega
          have hn10 : ls.length ≤ 10 := by omega
          have ht100 : tot ls ≤ 100 := by omega
          have HY := hid (mgR_yes (ls := ls) (ds := ds) (mgOk_of hn10 ht100))
          clear h10 h100
          obtain ⟨i0, hi, hz0, hz1, hz2⟩ := info_parts Try.info3
          go_wp2_with (at_make; refine wpList_make_full _ rfl _ _ 28 rfl w.heap.size 3 i0 (.int .i64 0) 1 Try.underlying28 hi hz0 hz1 .i64 .i64 _ _ ls.length rfl rfl rfl rfl (by rw [hz2]; omega) (by unfold maxLen; omega) (Nat.le_refl _) ?_; intro w1 hown hgrow; have hB1 : Below w.heap.size w w1 := (Below.refl _ _).grown hgrow (Nat.le_refl _) (fun k e => by cases e); have hs1 : w.heap.size + 1 ≤ w1.heap.size := (owns_lt hown).2; have HA := hid (ints_made hown); clear hown hgrow)
          clear hi hz0 hz1 hz2 i0
          go_loopw [10] (fun u wr => ∃ (m : Nat) (v : Value) (ats : List Nat) (x : List Int), v = u ∧ m ≤ tot ls ∧ sliceLen v = m ∧ Hid (kI.Own (w.heap.size + 1) wr v x) ∧ Hid (wr.ownsRow w.heap.size 3 1 (.slice (some ⟨w.heap.size, 0, none⟩) ls.length ls.length) ls.length (kI.flat (ints ats))) ∧ Hid (ats.length = ls.length) ∧ Hid ((x, nonE (rems ls ats)) = mrun ds ([], nonE ls) m) ∧ Below w.heap.size w wr ∧ w.heap.size + 1 ≤ wr.heap.size) (fun u _ => tot ls - sliceLen u)
          case atStart => exact ⟨0, _, List.replicate ls.length 0, [], rfl, Nat.zero_le _, rfl, Kind.Own.nil _ _ _, HA, by simp [Hid], by rw [Hid, rems_zero]; rfl, hB1, hs1⟩
          case round =>
            clear HA hB1 hs1
            obtain ⟨m, v, ats, x, rfl, hm, hsl, hO, hA, hal, hS, hB, hsw⟩ := hrel
            obtain ⟨xo, xc, rfl, hx0, _⟩ := hO.out.fresh
            have hxm : x.length = m := by have := congrArg (fun s => s.1.length) hS.out; simp only [mrun_len] at this; exact this
            subst hxm
            clear hsl hx0
            by_cases hlt : x.length < tot ls
            · have h0 : 0 < (nonE (rems ls ats)).length := by
                have h1 := mrun_tot ds ls x.length hm
                rw [← hS.out] at h1
                exact tot_pos (by dsimp only at h1; omega)
              obtain ⟨k, hk1, hk2, hk3, hk4, hk5⟩ := turn_is hal.out hS.out h0
              have hpc := mplace_cast (ds := ds) (s := (x, nonE (rems ls ats))) h0
              have hil := (idxN_at (rems ls ats)).1
              rw [rems_len] at hil
              generalize mplace ds (x, nonE (rems ls ats)) = p at hk3 hk4 hpc
              dsimp only at hpc
              rw [← hil] at hpc h0
              have hix : (idxN (rems ls ats) ls.length).length ≤ 10 := by
                have := nonE_le (rems ls ats)
                rw [rems_len] at this; omega
              have HS5 := hid hk5
              have HP := hid hpc
              have HK4 := hid hk4
              clear hil hS hk5 hpc hk4
              obtain ⟨V0, hV0⟩ : ∃ V0, V0 = wr := ⟨_, rfl⟩
              rw [← hV0] at hB hO hA hsw
              go_wp2
              rw [← hV0]
              clear hV0
              go_loopw [11, 43] (fun u i wq => ∃ (j : Nat) (v' : Value), v' = u ∧ j ≤ ls.length ∧ i = .int .i64 j ∧ Hid (kI.Own V0.heap.size wq v' (ints (idxN (rems ls ats) j))) ∧ Hid (Below V0.heap.size V0 wq)) (fun _ i _ => ls.length - (intOf i).toNat)
              case atStart => exact ⟨0, _, rfl, Nat.zero_le _, rfl, Kind.Own.nil _ _ _, Below.refl _ _⟩
              case round =>
                obtain ⟨j, u, rfl, hj, rfl, hL, hQ⟩ := hrel
                by_cases hjt : j < ls.length
                · obtain ⟨b, off, o, c, rfl, hb, hc, _, _⟩ := HZ.out.at hjt
                  have d1 := ((hB.trans (hQ.out.mono hB.size)).cell (p := ⟨b, off + j, none⟩) hb).trans hc
                  have d2 := (hQ.out.cell (p := ⟨w.heap.size, j, none⟩) hsw).trans ((hA.out.cellAt j (by show j < ls.length * 1; omega)).trans (kI_flat_at (by rw [ints_len, hal.out]; exact hjt)))
                  rw [ints_el (by rw [hal.out]; exact hjt)] at d2
                  have HI := hid (idxN_succ (rems ls ats) j)
                  have hsm := rems_some ls ats hjt
                  by_cases hc2 : el ats j < (el ls j).length
                  · rw [if_pos (hsm.2 hc2)] at HI
                    have hc3 : decide (((el ats j : Nat) : Int) < ((el ls j).length : Int)) = true := by simpa using hc2
                    have HLA : Hid (kI.Own V0.heap.size (wr.alloc (.cells #[.int .i64 j] 3)) u (ints (idxN (rems ls ats) j))) := hL.out.below (below1 _ _)
                    have HN : Hid (kI.In (wr.heap.size + 1) (wr.alloc (.cells #[.int .i64 j] 3)) (some ⟨wr.heap.size, 0, none⟩) [(j : Int)]) := int_one (by omega) (by simp)
                    have hll : (ints (idxN (rems ls ats) j)).length + 1 ≤ 4194304 := by
                      rw [ints_len]
                      have : (idxN (rems ls ats) j).length ≤ (List.range j).length := List.length_filter_le _ _
                      simp at this; omega
                    have hsq := hQ.out.size
                    generalize hta : el ats j = ta at d2 hc2 hc3
                    generalize htb : (el ls j).length = tb at d1 hc2 hc3
                    clear hta htb hsm hc
                    go_wp2_with (at_builtin; refine Kind.app kI_ok (wr.alloc (.cells #[.int .i64 j] 3)) rfl (.tmp 55) (.tmp 57) rfl V0.heap.size u (ints (idxN (rems ls ats) j)) rfl HLA.out (by simp; omega) (some ⟨wr.heap.size, 0, none⟩) [(j : Int)] 1 1 rfl rfl (by simp) _ HN.out hll ?_; intro v' w' hO' hB' hG' hn'; have hQ2 := hid ((hQ.out.trans ((below1 wr (.cells #[.int .i64 j] 3)).mono hQ.out.size)).trans hB'); have HO' : Hid (kI.Own V0.heap.size w' v' (ints (idxN (rems ls ats) (j + 1)))) := (by rw [Hid, HI.out, ints_app]; exact hO'); clear hO' hB' hG' hn')
                    go_roundw
                    case rel => exact ⟨j + 1, v', rfl, by omega, by go_num, HO', hQ2⟩
                    case measure => simp [intOf]; omega
                  · rw [if_neg (fun h => hc2 (hsm.1 h)), List.append_nil] at HI
                    have hc3 : decide (((el ats j : Nat) : Int) < ((el ls j).length : Int)) = false := by simpa using hc2
                    generalize hta : el ats j = ta at d2 hc2 hc3
                    generalize htb : (el ls j).length = tb at d1 hc2 hc3
                    clear hta htb hsm hc
                    go_wp2
                    go_roundw
                    case rel => exact ⟨j + 1, _, rfl, by omega, by go_num, by rw [HI.out]; exact hL, hQ⟩
                    case measure => simp [intOf]; omega
                · obtain rfl : j = ls.length := by omega
                  obtain ⟨q, hq⟩ : ∃ q, q = ints (idxN (rems ls ats) ls.length) := ⟨_, rfl⟩
                  have hql : q.length = (idxN (rems ls ats) ls.length).length := by rw [hq, ints_len]
                  have hqp : el q p = (k : Int) := by rw [hq, ints_el hk3, HK4.out]
                  rw [← hq] at hL
                  rw [← hql] at h0 hix hk3 HP
                  have HQL := hid hql
                  have HQP := hid hqp
                  clear hq hql hqp HK4 HQL hjt hj
                  obtain ⟨qo, qc, rfl, _, hFq⟩ := hL.out.fresh
                  obtain ⟨g2, rfl, hg21, hg22, hg23, hown2⟩ := hFq.at h0
                  have dq : wr.cell? ⟨g2, p, none⟩ = some (.int .i64 k) := (hown2.cellAt p (by show p < q.length * 1; omega)).trans (by rw [kI_flat_at hk3, HQP.out])
                  have hBw := hB.trans (hQ.out.mono hB.size)
                  have hsW : V0.heap.size ≤ wr.heap.size := hQ.out.size
                  obtain ⟨b, off, o, c, rfl, hb, hc, _, hI⟩ := HZ.out.at hk1
                  obtain ⟨b2, off2, rfl, hb2, hc2⟩ := ints_at hI hk2
                  have d1 := (hBw.cell (p := ⟨b, off + k, none⟩) hb).trans hc
                  have d3 := (hBw.cell (p := ⟨b2, off2 + el ats k, none⟩) hb2).trans (hc2 _ hk2)
                  have hA2 := hid (ownsRow_below hA.out hQ.out)
                  have hat : (kI.flat (ints ats))[k]? = some (.int .i64 ((el ats k : Nat) : Int)) := by
                    rw [kI_flat_at (by rw [ints_len, hal.out]; exact hk1), ints_el (by rw [hal.out]; exact hk1)]
                  have d2 : wr.cell? ⟨w.heap.size, k, none⟩ = some (.int .i64 ((el ats k : Nat) : Int)) := (hA2.out.cellAt k (by show k < ls.length * 1; omega)).trans hat
                  have HOX := hid (hO.out.below hQ.out)
                  have hta : el ats k ≤ 1048576 := by have := tot_el hk1; omega
                  obtain ⟨ta, hta0⟩ : ∃ ta, ta = el ats k := ⟨_, rfl⟩
                  rw [← hta0] at d2 d3 hat hk2 HS5 hta
                  obtain ⟨z, hzz⟩ : ∃ z, z = el (el ls k) ta := ⟨_, rfl⟩
                  rw [← hzz] at d3 HS5
                  obtain ⟨tb, htb⟩ : ∃ tb, tb = (el ls k).length := ⟨_, rfl⟩
                  rw [← htb] at d1 hk2
                  have HTA := hid hta0
                  have HDW := hid (HD.out.later hBw)
                  clear hta0 hzz htb hc hc2 hI hFq hL hown2 hA hO hQ
                  by_cases hds : x.length < ds.length
                  · have hdd : decide ((x.length : Int) < (ds.length : Int)) = true := by simpa using hds
                    obtain ⟨db, doff, rfl, hdb, hdc⟩ := ints_at HDW.out hds
                    have d4 := hdc _ hds
                    have HDR : Hid (dr ds x.length = el ds x.length) := by rw [Hid, dr, if_pos hds]
                    generalize el ds x.length = dz at d4 HDR
                    clear hdc
                    go_wp2_with fail
                    refine (l1Mod_is dz (q.length : Int) wr p (by rw [HP.out, HDR.out]) (by omega) (by omega)).mono ?_
                    rintro e w2 ⟨rfl, hw2⟩
                    rw [hw2]; clear hw2 w2
                    go_wp2
                    have PD : wr.drew.cell? ⟨b, off + k, none⟩ = some (.slice (some ⟨b2, off2, none⟩) tb c) ∧ wr.drew.cell? ⟨w.heap.size, k, none⟩ = some (.int .i64 (ta : Int)) ∧ wr.drew.cell? ⟨b2, off2 + ta, none⟩ = some (.int .i64 z) := ⟨d1, d2, d3⟩
                    obtain ⟨WD, hWD⟩ : ∃ WD, WD = (wr.alloc (.cells #[.int .i64 z] 3)).drew := ⟨_, rfl⟩
                    have hbD : Below wr.heap.size wr WD := by rw [hWD]; exact (below1 _ _).drew
                    have hsD : wr.heap.size + 1 ≤ WD.heap.size := by rw [hWD]; simp
                    have HOA := hid (HOX.out.below hbD)
                    have hA3 := hid (ownsRow_below hA2.out hbD)
                    have HIA : Hid (kI.In (wr.heap.size + 1) WD (some ⟨wr.heap.size, 0, none⟩) [z]) := by rw [hWD]; exact (int_one (W := wr.alloc (.cells #[.int .i64 z] 3)) (by omega) (by simp))
                    have PA : WD.cell? ⟨b, off + k, none⟩ = some (.slice (some ⟨b2, off2, none⟩) tb c) ∧ WD.cell? ⟨w.heap.size, k, none⟩ = some (.int .i64 (ta : Int)) ∧ WD.cell? ⟨b2, off2 + ta, none⟩ = some (.int .i64 z) := ⟨(hbD.cell (p := ⟨b, off + k, none⟩) (by show b < wr.heap.size; omega)).trans d1, (hbD.cell (p := ⟨w.heap.size, k, none⟩) (by show w.heap.size < wr.heap.size; omega)).trans d2, (hbD.cell (p := ⟨b2, off2 + ta, none⟩) (by show b2 < wr.heap.size; omega)).trans d3⟩
                    have hBD := hBw.trans (hbD.mono (by omega))
                    obtain ⟨x2, hx2⟩ : ∃ x2, x2 = x ++ [z] := ⟨_, rfl⟩
                    have HX2 := hid hx2
                    have HL2 : Hid (x2.length = x.length + 1) := by rw [Hid, hx2]; simp
                    have HWD := hid hWD
                    clear hx2 hWD
                    rw [HWD.out] at PA
                    go_region_held3 (fun Y => Y.cell? ⟨b, off + k, none⟩ = some (.slice (some ⟨b2, off2, none⟩) tb c) ∧ Y.cell? ⟨w.heap.size, k, none⟩ = some (.int .i64 (ta : Int)) ∧ Y.cell? ⟨b2, off2 + ta, none⟩ = some (.int .i64 z))
                      (first | (with_reducible exact ⟨d1, d2, d3⟩) | (with_reducible exact PD) | (with_reducible exact PA) | (with_reducible exact P2))
                      (first | (rw [← HWD.out]; refine Kind.appS kI_ok WD (by rfl) (.tmp 77) (.tmp 88) (by rfl) (w.heap.size + 1) (.slice xo x.length xc) x (by rfl) HOA.out (by omega) (some ⟨wr.heap.size, 0, none⟩) [z] 1 1 (by rfl) rfl (by simp) _ HIA.out (by simp; omega) ?_; intro v' w2 hO' hB' hG' hn'; rw [← HX2.out] at hO'; obtain ⟨po, pc, rfl, _, _⟩ := hO'.fresh; have HO2 := hid hO'; have hB2 : Below w.heap.size w w2 := hBD.trans (hB'.mono (by omega)); have hA4 := hid (owns_block hA3.out (hB'.block w.heap.size (by omega))); have P2 := (⟨(hB'.cell (p := ⟨b, off + k, none⟩) (by show b < w.heap.size + 1; omega)).trans (by rw [HWD.out]; exact PA.1), (hB'.cell (p := ⟨w.heap.size, k, none⟩) (by show w.heap.size < w.heap.size + 1; omega)).trans (by rw [HWD.out]; exact PA.2.1), (hB'.cell (p := ⟨b2, off2 + ta, none⟩) (by show b2 < w.heap.size + 1; omega)).trans (by rw [HWD.out]; exact PA.2.2)⟩ : w2.cell? ⟨b, off + k, none⟩ = some (.slice (some ⟨b2, off2, none⟩) tb c) ∧ w2.cell? ⟨w.heap.size, k, none⟩ = some (.int .i64 (ta : Int)) ∧ w2.cell? ⟨b2, off2 + ta, none⟩ = some (.int .i64 z)); have df := hA4.out.frozenAt k; have dc := P2.2.1; have hs2 : w.heap.size + 1 ≤ w2.heap.size := (by have := hB'.size; omega); clear hO' hB' hG' hn'))
                    all_goals
                      clear d1 d2 d3 PD PA P2 HIA HOA hA3
                      go_wp2
                      go_roundw
                      case rel => exact ⟨x.length + 1, _, ats.set k (ta + 1), x2, rfl, by omega, HL2.out, HO2.out.setBelow (a := ⟨w.heap.size, k, none⟩) (by show w.heap.size < w.heap.size + 1; omega) _, by
                          rw [Hid, ← ints_set, ← kI_flat_set]
                          have h := (hA4.out.stored k (.int .i64 ((ta : Int) + 1))).1
                          exact h, by rw [Hid, List.length_set]; exact hal.out, by rw [Hid, HX2.out]; exact HS5.out, hB2.setCell (p := ⟨w.heap.size, k, none⟩) (Nat.le_refl _) _, by simpa [World.setCell] using hs2⟩
                      case measure => simp only [sliceLen]; rw [HL2.out]; omega
                  · have hdd : decide ((x.length : Int) < (ds.length : Int)) = false := by simpa using hds
                    have HDR : Hid (dr ds x.length = 0) := by rw [Hid, dr, if_neg hds]
                    go_wp2_with fail
                    refine (l1Mod_is 0 (q.length : Int) wr p (by rw [HP.out, HDR.out]) (by omega) (by omega)).mono ?_
                    rintro e w2 ⟨rfl, hw2⟩
                    rw [hw2]; clear hw2 w2
                    go_wp2
                    have PD : wr.drew.cell? ⟨b, off + k, none⟩ = some (.slice (some ⟨b2, off2, none⟩) tb c) ∧ wr.drew.cell? ⟨w.heap.size, k, none⟩ = some (.int .i64 (ta : Int)) ∧ wr.drew.cell? ⟨b2, off2 + ta, none⟩ = some (.int .i64 z) := ⟨d1, d2, d3⟩
                    obtain ⟨WD, hWD⟩ : ∃ WD, WD = (wr.alloc (.cells #[.int .i64 z] 3)).drew := ⟨_, rfl⟩
                    have hbD : Below wr.heap.size wr WD := by rw [hWD]; exact (below1 _ _).drew
                    have hsD : wr.heap.size + 1 ≤ WD.heap.size := by rw [hWD]; simp
                    have HOA := hid (HOX.out.below hbD)
                    have hA3 := hid (ownsRow_below hA2.out hbD)
                    have HIA : Hid (kI.In (wr.heap.size + 1) WD (some ⟨wr.heap.size, 0, none⟩) [z]) := by rw [hWD]; exact (int_one (W := wr.alloc (.cells #[.int .i64 z] 3)) (by omega) (by simp))
                    have PA : WD.cell? ⟨b, off + k, none⟩ = some (.slice (some ⟨b2, off2, none⟩) tb c) ∧ WD.cell? ⟨w.heap.size, k, none⟩ = some (.int .i64 (ta : Int)) ∧ WD.cell? ⟨b2, off2 + ta, none⟩ = some (.int .i64 z) := ⟨(hbD.cell (p := ⟨b, off + k, none⟩) (by show b < wr.heap.size; omega)).trans d1, (hbD.cell (p := ⟨w.heap.size, k, none⟩) (by show w.heap.size < wr.heap.size; omega)).trans d2, (hbD.cell (p := ⟨b2, off2 + ta, none⟩) (by show b2 < wr.heap.size; omega)).trans d3⟩
                    have hBD := hBw.trans (hbD.mono (by omega))
                    obtain ⟨x2, hx2⟩ : ∃ x2, x2 = x ++ [z] := ⟨_, rfl⟩
                    have HX2 := hid hx2
                    have HL2 : Hid (x2.length = x.length + 1) := by rw [Hid, hx2]; simp
                    have HWD := hid hWD
                    clear hx2 hWD
                    rw [HWD.out] at PA
                    go_region_held3 (fun Y => Y.cell? ⟨b, off + k, none⟩ = some (.slice (some ⟨b2, off2, none⟩) tb c) ∧ Y.cell? ⟨w.heap.size, k, none⟩ = some (.int .i64 (ta : Int)) ∧ Y.cell? ⟨b2, off2 + ta, none⟩ = some (.int .i64 z))
                      (first | (with_reducible exact ⟨d1, d2, d3⟩) | (with_reducible exact PD) | (with_reducible exact PA) | (with_reducible exact P2))
                      (first | (rw [← HWD.out]; refine Kind.appS kI_ok WD (by rfl) (.tmp 77) (.tmp 88) (by rfl) (w.heap.size + 1) (.slice xo x.length xc) x (by rfl) HOA.out (by omega) (some ⟨wr.heap.size, 0, none⟩) [z] 1 1 (by rfl) rfl (by simp) _ HIA.out (by simp; omega) ?_; intro v' w2 hO' hB' hG' hn'; rw [← HX2.out] at hO'; obtain ⟨po, pc, rfl, _, _⟩ := hO'.fresh; have HO2 := hid hO'; have hB2 : Below w.heap.size w w2 := hBD.trans (hB'.mono (by omega)); have hA4 := hid (owns_block hA3.out (hB'.block w.heap.size (by omega))); have P2 := (⟨(hB'.cell (p := ⟨b, off + k, none⟩) (by show b < w.heap.size + 1; omega)).trans (by rw [HWD.out]; exact PA.1), (hB'.cell (p := ⟨w.heap.size, k, none⟩) (by show w.heap.size < w.heap.size + 1; omega)).trans (by rw [HWD.out]; exact PA.2.1), (hB'.cell (p := ⟨b2, off2 + ta, none⟩) (by show b2 < w.heap.size + 1; omega)).trans (by rw [HWD.out]; exact PA.2.2)⟩ : w2.cell? ⟨b, off + k, none⟩ = some (.slice (some ⟨b2, off2, none⟩) tb c) ∧ w2.cell? ⟨w.heap.size, k, none⟩ = some (.int .i64 (ta : Int)) ∧ w2.cell? ⟨b2, off2 + ta, none⟩ = some (.int .i64 z)); have df := hA4.out.frozenAt k; have dc := P2.2.1; have hs2 : w.heap.size + 1 ≤ w2.heap.size := (by have := hB'.size; omega); clear hO' hB' hG' hn'))
                    all_goals
                      clear d1 d2 d3 PD PA P2 HIA HOA hA3
                      go_wp2
                      go_roundw
                      case rel => exact ⟨x.length + 1, _, ats.set k (ta + 1), x2, rfl, by omega, HL2.out, HO2.out.setBelow (a := ⟨w.heap.size, k, none⟩) (by show w.heap.size < w.heap.size + 1; omega) _, by
                          rw [Hid, ← ints_set, ← kI_flat_set]
                          have h := (hA4.out.stored k (.int .i64 ((ta : Int) + 1))).1
                          exact h, by rw [Hid, List.length_set]; exact hal.out, by rw [Hid, HX2.out]; exact HS5.out, hB2.setCell (p := ⟨w.heap.size, k, none⟩) (Nat.le_refl _) _, by simpa [World.setCell] using hs2⟩
                      case measure => simp only [sliceLen]; rw [HL2.out]; omega
            · have hend : x.length = tot ls := by omega
              have HX : Hid (x = mg ls ds) := by
                have := congrArg Prod.fst hS.out
                rw [hend] at this
                exact this
              obtain ⟨yo, yc, hyy, hy0, hFy⟩ := hO.out.fresh
              simp at hyy
              obtain ⟨rfl, rfl⟩ := hyy
              have HFY := hid (hFy.wide (lo' := w.heap.size) (by omega) (Nat.le_refl _))
              have HY0 := hid hy0
              clear hFy hy0 hO hA hS
              go_wp2
              refine bodyPost_ret (v := .tuple #[.slice xo x.length xc, .bool true]) (by simp [results, Try.results33, go_sem]) rfl ?_
              rw [HY.out, ← HX.out]
              exact ⟨⟨_, _, rfl, HY0.out, HFY.out⟩, hB⟩
end Go.Proofs.Ytnjnnilmelmmgaa
