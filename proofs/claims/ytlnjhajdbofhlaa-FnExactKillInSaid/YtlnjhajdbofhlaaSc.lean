
/- Which cases are ready: the program. No conditions but those written. -/
import Derived.Test.YtlnjhajdbofhlaaSa
import Derived.WalkMore
import Derived.Deep.LoopGhost
namespace Go.Proofs.Ytlnjhajdbofhlaa
open Go.RowKit

set_option maxRecDepth 100000 in
set_option maxHeartbeats 16000000 in
theorem readyIn_any (ao : Option Addr) (cap : Nat) (ts : List LChan) (qo : Option Addr) (qc : Nat) (l : List (Int × Bool × Int)) (w : World) (hl : ts.length ≤ 1048576) (ht : totChan ts ≤ 1048576) (hq : l.length ≤ 1048576) (hz : DIn dChan w.heap.size w ao ts) (hzq : kQ.In w.heap.size w qo l) (hg : goodQB (ts.map valChan) l = true) :
    Calls Try.prog 90 #[.agg #[.slice ao ts.length cap], .slice qo l.length qc] w fun e w' => AnsI w (readyT (ts.map valChan) l l.length) e w' := by
  have HZ := hid hz
  have HQ := hid hzq
  have HTT := hid ht
  obtain ⟨⟨h8, hgp⟩, h6, hgk⟩ := goodQB_all hg
  have HGP := hid hgp
  have HGK := hid hgk
  have h8' : ts.length ≤ 8 := by simpa using h8
  clear hz hzq ht hg hgp hgk h8
  have hB0 := below1 w (.cells #[.slice ao ts.length cap] 56)
  have X0 := hid (Bx.new (w := w) (p := w.heap.size) [.slice ao ts.length cap] 56 rfl)
  go_enter Try.func90, Try.ntmps90
  go_wp2
  go_step3
  go_wp2
  go_step3
  go_wp2
  go_loopw [5, 12] (fun u i wr => ∃ (k : Nat) (v : Value), v = u ∧ k ≤ l.length ∧ i = .int .i64 k ∧ Hid (kI.Own (w.heap.size + 1) wr v (readyT (ts.map valChan) l k)) ∧ Hid (Bx wr w.heap.size [.slice ao ts.length cap]) ∧ Below w.heap.size w wr ∧ w.heap.size + 1 ≤ wr.heap.size) (fun _ i _ => l.length - (intOf i).toNat)
  case atStart => exact ⟨0, _, rfl, Nat.zero_le _, rfl, Kind.Own.nil _ _ _, X0, hB0, by simp⟩
  case round =>
    obtain ⟨k, v, rfl, hk, rfl, hO, hX, hB, hs⟩ := hrel
    have hpX := hX.out.size
    by_cases hlt : k < l.length
    · have HLT := hid hlt
      obtain ⟨qb, qoff, rfl, hqb, hqc⟩ := kQ_at HQ.out hlt
      have d1 := (hB.cell (p := ⟨qb, qoff + k * 3, none⟩) hqb).trans (hqc k hlt).1
      have d2 := (hB.cell (p := ⟨qb, qoff + k * 3 + 1, none⟩) hqb).trans (hqc k hlt).2.1
      have d3 := (hB.cell (p := ⟨qb, qoff + k * 3 + 2, none⟩) hqb).trans (hqc k hlt).2.2
      have hgk := HGK.out k hlt
      obtain ⟨⟨y1, y2, y3⟩, ey⟩ : ∃ v, v = el l k := ⟨_, rfl⟩
      rw [← ey] at d1 d2 d3 hgk
      have HE := hid ey
      clear ey hqc
      dsimp only at d1 d2 d3 hgk
      have x0 := hX.out.c 0 rfl
      have hBa := Below.allocS hB (.cells #[.int .i64 y1, .bool y2, .int .i64 y3] 117)
      have XA := hid (hX.out.alloc (.cells #[.int .i64 y1, .bool y2, .int .i64 y3] 117))
      have OA := hid (hO.out.below (below1 wr (.cells #[.int .i64 y1, .bool y2, .int .i64 y3] 117)))
      obtain ⟨p, hp⟩ : ∃ p, p = wr.heap.size := ⟨_, rfl⟩
      have YA : Hid (Bx (wr.alloc (.cells #[.int .i64 y1, .bool y2, .int .i64 y3] 117)) p [.int .i64 y1, .bool y2, .int .i64 y3]) := Bx.new [.int .i64 y1, .bool y2, .int .i64 y3] 117 hp.symm
      have hsp : w.heap.size + 1 ≤ p := by omega
      have hpp : p ≤ wr.heap.size := by omega
      go_wp2
      rw [← hp]
      clear x0 d1 d2 d3 hp
      go_loopw [5, 20] (fun u i wn => ∃ j : Nat, v = u ∧ j ≤ ts.length ∧ i = .int .i64 j ∧ Hid (∀ q, q < j → (q : Int) ≠ y1) ∧ Hid (kI.Own (w.heap.size + 1) wn v (readyT (ts.map valChan) l k)) ∧ Hid (Bx wn w.heap.size [.slice ao ts.length cap]) ∧ Hid (Bx wn p [.int .i64 y1, .bool y2, .int .i64 y3]) ∧ Below w.heap.size w wn ∧ p + 1 ≤ wn.heap.size) (fun _ i _ => ts.length - (intOf i).toNat)
      case atStart => exact ⟨0, rfl, Nat.zero_le _, rfl, fun q hq => by omega, OA, XA, YA, hBa, by simp; omega⟩
      case round =>
        obtain ⟨j, rfl, hj, rfl, hno, hO2, hX2, hY2, hB2, hs2⟩ := hrel
        by_cases hjt : j < ts.length
        · obtain ⟨b0, off, rfl, hb, hc⟩ := hChan_at HZ.out.1 hjt
          have e1 := (hB2.cell (p := ⟨b0, off + j * 5, none⟩) hb).trans (hc j hjt).1
          have e2 := (hB2.cell (p := ⟨b0, off + j * 5 + 1, none⟩) hb).trans (hc j hjt).2.1
          have e3 := (hB2.cell (p := ⟨b0, off + j * 5 + 2, none⟩) hb).trans (hc j hjt).2.2.1
          have e4 := (hB2.cell (p := ⟨b0, off + j * 5 + 3, none⟩) hb).trans (hc j hjt).2.2.2.1
          have e5 := (hB2.cell (p := ⟨b0, off + j * 5 + 4, none⟩) hb).trans (hc j hjt).2.2.2.2
          have hI := HZ.out.2 j hjt
          have hgd := HGP.out _ (el_val hjt)
          have hsz := totChan_el hjt
          have hmv := el_map_val hjt
          obtain ⟨⟨kap, cl, ⟨bo, bc, b⟩, ⟨so, sc, s⟩, ⟨ro, rc, r⟩⟩, ex⟩ : ∃ v, v = el ts j := ⟨_, rfl⟩
          rw [← ex] at e1 e2 e3 e4 e5 hI hgd hsz hmv
          have HI : Hid (InChan w.heap.size w bo b so s ro r) := hI
          have HGD : Hid (goodP (kap, cl, b, s, r) = true) := hgd
          have HMV : Hid (el (ts.map valChan) j = (kap, cl, b, s, r)) := hmv
          have hsz3 : b.length + s.length + r.length ≤ 1048576 := by have := HTT.out; simp [sizeChan] at hsz; omega
          clear ex hc hI hgd hsz hmv
          dsimp only at e1 e2 e3 e4 e5
          have yy0 := hY2.out.c 0 rfl
          have yz := hY2.out.size
          by_cases hy : (j : Int) = y1
          · subst hy
            have hy' : ((j : Int) != (j : Int)) = false := by simp
            have yy1 := hY2.out.c 1 rfl
            obtain ⟨VV, hVV⟩ : ∃ VV, VV = wr.alloc (.cells #[.int .i64 kap, .bool cl, .slice bo b.length bc, .slice so s.length sc, .slice ro r.length rc] 26) := ⟨_, rfl⟩
            have hbV : Below wr.heap.size wr VV := by rw [hVV]; exact below1 _ _
            have hBW := hB2.trans (hbV.mono hB2.size)
            have XW := hid (hX2.out.later hbV)
            have OW := hid (hO2.out.below hbV)
            have YW := hid (hY2.out.later hbV)
            have hsW : w.heap.size + 1 ≤ VV.heap.size := by have := hbV.size; omega
            have HVV := hid hVV
            clear hbV hVV hX2 hO2
            rcases y2 with _ | _
            · rcases hm : mayRB cl b s with _ | _
              · have HM := hid hm
                clear hm
                go_wp2_with fail
                rw [← HVV.out]
                refine (implMayR_is kap cl bo bc b so sc s ro rc r _ false (by omega) (by omega) (by omega) ((HI.out.below hBW).up hBW.size) HGD.out HM.out).mono ?_
                rintro e w4 ⟨rfl, hb4⟩
                have hB4 := hBW.trans (hb4.mono hBW.size)
                have X4 := hid (XW.out.later hb4)
                have O4 := hid (OW.out.below hb4)
                have hs4 : w.heap.size + 1 ≤ w4.heap.size := Nat.le_trans hsW hb4.size
                have y41 := (YW.out.later hb4).c 1 rfl
                clear hb4
                have HN : Hid (kI.Own (w.heap.size + 1) w4 v (readyT (ts.map valChan) l (k + 1))) := by rw [Hid, readyT_out (by rw [← HE.out]; rw [readyQ, decide_eq_true (by dsimp only; omega)]; dsimp only; rw [Int.toNat_natCast, HMV.out, Bool.true_and]; exact HM.out)]; exact O4.out
                go_wp2
                go_roundw
                case rel => exact ⟨k + 1, v, rfl, by omega, by go_num, HN, X4, hB4, hs4⟩
                case measure => simp [intOf]; omega
              · have HM := hid hm
                clear hm
                go_wp2_with fail
                rw [← HVV.out]
                refine (implMayR_is kap cl bo bc b so sc s ro rc r _ true (by omega) (by omega) (by omega) ((HI.out.below hBW).up hBW.size) HGD.out HM.out).mono ?_
                rintro e w4 ⟨rfl, hb4⟩
                have hB4 := hBW.trans (hb4.mono hBW.size)
                have X4 := hid (XW.out.later hb4)
                have O4 := hid (OW.out.below hb4)
                have hs4 : w.heap.size + 1 ≤ w4.heap.size := Nat.le_trans hsW hb4.size
                have y41 := (YW.out.later hb4).c 1 rfl
                clear hb4
                have HA := hid (O4.out.below (below1 w4 (.cells #[.int .i64 (k : Int)] 3)))
                have HN : Hid (kI.In (w4.heap.size + 1) (w4.alloc (.cells #[.int .i64 (k : Int)] 3)) (some ⟨w4.heap.size, 0, none⟩) [(k : Int)]) := int_one (by omega) (by simp)
                have hll : (readyT (ts.map valChan) l k).length + 1 ≤ 4194304 := by have := readyT_len (ts.map valChan) l k; omega
                have hBa := Below.allocS hB4 (.cells #[.int .i64 (k : Int)] 3)
                have XA := hid (X4.out.alloc (.cells #[.int .i64 (k : Int)] 3))
                go_wp2_with (at_builtin; refine Kind.app kI_ok (w4.alloc (.cells #[.int .i64 (k : Int)] 3)) rfl (.tmp 44) (.tmp 46) rfl (w.heap.size + 1) v (readyT (ts.map valChan) l k) rfl HA.out (by simp; omega) (some ⟨w4.heap.size, 0, none⟩) [(k : Int)] 1 1 rfl rfl (by simp) _ HN.out hll ?_; intro v' w' hO' hB' hG' hn'; have hB5 : Below w.heap.size w w' := hBa.trans (hB'.mono (by omega)); have hs5 : w.heap.size + 1 ≤ w'.heap.size := (by have := hB'.size; simp at this; omega); have X5 := hid (XA.out.below hB' (by omega)); have O5 : Hid (kI.Own (w.heap.size + 1) w' v' (readyT (ts.map valChan) l (k + 1))) := (by rw [Hid, readyT_in (by rw [← HE.out]; rw [readyQ, decide_eq_true (by dsimp only; omega)]; dsimp only; rw [Int.toNat_natCast, HMV.out, Bool.true_and]; exact HM.out)]; exact hO'); clear hO' hB' hG' hn')
                go_roundw
                case rel => exact ⟨k + 1, v', rfl, by omega, by go_num, O5, X5, hB5, hs5⟩
                case measure => simp [intOf]; omega
            · rcases hm : maySB kap cl b r with _ | _
              · have HM := hid hm
                clear hm
                go_wp2_with fail
                rw [← HVV.out]
                refine (implMayS_is kap cl bo bc b so sc s ro rc r _ false (by omega) (by omega) (by omega) ((HI.out.below hBW).up hBW.size) HGD.out HM.out).mono ?_
                rintro e w4 ⟨rfl, hb4⟩
                have hB4 := hBW.trans (hb4.mono hBW.size)
                have X4 := hid (XW.out.later hb4)
                have O4 := hid (OW.out.below hb4)
                have hs4 : w.heap.size + 1 ≤ w4.heap.size := Nat.le_trans hsW hb4.size
                have y41 := (YW.out.later hb4).c 1 rfl
                clear hb4
                have HN : Hid (kI.Own (w.heap.size + 1) w4 v (readyT (ts.map valChan) l (k + 1))) := by rw [Hid, readyT_out (by rw [← HE.out]; rw [readyQ, decide_eq_true (by dsimp only; omega)]; dsimp only; rw [Int.toNat_natCast, HMV.out, Bool.true_and]; exact HM.out)]; exact O4.out
                go_wp2
                go_roundw
                case rel => exact ⟨k + 1, v, rfl, by omega, by go_num, HN, X4, hB4, hs4⟩
                case measure => simp [intOf]; omega
              · have HM := hid hm
                clear hm
                go_wp2_with fail
                rw [← HVV.out]
                refine (implMayS_is kap cl bo bc b so sc s ro rc r _ true (by omega) (by omega) (by omega) ((HI.out.below hBW).up hBW.size) HGD.out HM.out).mono ?_
                rintro e w4 ⟨rfl, hb4⟩
                have hB4 := hBW.trans (hb4.mono hBW.size)
                have X4 := hid (XW.out.later hb4)
                have O4 := hid (OW.out.below hb4)
                have hs4 : w.heap.size + 1 ≤ w4.heap.size := Nat.le_trans hsW hb4.size
                have y41 := (YW.out.later hb4).c 1 rfl
                clear hb4
                have HA := hid (O4.out.below (below1 w4 (.cells #[.int .i64 (k : Int)] 3)))
                have HN : Hid (kI.In (w4.heap.size + 1) (w4.alloc (.cells #[.int .i64 (k : Int)] 3)) (some ⟨w4.heap.size, 0, none⟩) [(k : Int)]) := int_one (by omega) (by simp)
                have hll : (readyT (ts.map valChan) l k).length + 1 ≤ 4194304 := by have := readyT_len (ts.map valChan) l k; omega
                have hBa := Below.allocS hB4 (.cells #[.int .i64 (k : Int)] 3)
                have XA := hid (X4.out.alloc (.cells #[.int .i64 (k : Int)] 3))
                go_wp2_with (at_builtin; refine Kind.app kI_ok (w4.alloc (.cells #[.int .i64 (k : Int)] 3)) rfl (.tmp 44) (.tmp 46) rfl (w.heap.size + 1) v (readyT (ts.map valChan) l k) rfl HA.out (by simp; omega) (some ⟨w4.heap.size, 0, none⟩) [(k : Int)] 1 1 rfl rfl (by simp) _ HN.out hll ?_; intro v' w' hO' hB' hG' hn'; have hB5 : Below w.heap.size w w' := hBa.trans (hB'.mono (by omega)); have hs5 : w.heap.size + 1 ≤ w'.heap.size := (by have := hB'.size; simp at this; omega); have X5 := hid (XA.out.below hB' (by omega)); have O5 : Hid (kI.Own (w.heap.size + 1) w' v' (readyT (ts.map valChan) l (k + 1))) := (by rw [Hid, readyT_in (by rw [← HE.out]; rw [readyQ, decide_eq_true (by dsimp only; omega)]; dsimp only; rw [Int.toNat_natCast, HMV.out, Bool.true_and]; exact HM.out)]; exact hO'); clear hO' hB' hG' hn')
                go_roundw
                case rel => exact ⟨k + 1, v', rfl, by omega, by go_num, O5, X5, hB5, hs5⟩
                case measure => simp [intOf]; omega
          · have hy' : ((j : Int) != y1) = true := by simpa using hy
            have HNE := hid hy
            have hB3 := Below.allocS hB2 (.cells #[.int .i64 kap, .bool cl, .slice bo b.length bc, .slice so s.length sc, .slice ro r.length rc] 26)
            have O3 := hid (hO2.out.below (below1 wr (.cells #[.int .i64 kap, .bool cl, .slice bo b.length bc, .slice so s.length sc, .slice ro r.length rc] 26)))
            have X3 := hid (hX2.out.alloc (.cells #[.int .i64 kap, .bool cl, .slice bo b.length bc, .slice so s.length sc, .slice ro r.length rc] 26))
            have Y3 := hid (hY2.out.alloc (.cells #[.int .i64 kap, .bool cl, .slice bo b.length bc, .slice so s.length sc, .slice ro r.length rc] 26))
            clear hy
            go_wp2
            go_roundw
            case rel => exact ⟨j + 1, rfl, by omega, by go_num, fun q hq => by
              rcases Nat.lt_succ_iff_lt_or_eq.1 hq with h | rfl
              · exact hno.out q h
              · exact HNE.out, O3, X3, Y3, hB3, by simp; omega⟩
            case measure => simp [intOf]; omega
        · obtain rfl : j = ts.length := by omega
          have hy : y1 < 0 := by
            by_cases h : y1 < 0
            · exact h
            · exfalso
              have h2 := hgk.2
              simp at h2
              exact hno.out y1.toNat (by omega) (by omega)
          have HN : Hid (kI.Own (w.heap.size + 1) wr v (readyT (ts.map valChan) l (k + 1))) := by rw [Hid, readyT_out (by rw [← HE.out, readyQ, decide_eq_false (by dsimp only; omega)]; rfl)]; exact hO2.out
          clear hno
          go_wp2
          go_roundw
          case rel => exact ⟨k + 1, v, rfl, by omega, by go_num, HN, hX2, hB2, by omega⟩
          case measure => simp [intOf]; omega
    · obtain rfl : k = l.length := by omega
      obtain ⟨qo', qc', rfl, hq0, hF⟩ := hO.out.fresh
      have HF : Hid (kI.Fresh w.heap.size wr.heap.size wr qo' qc' (readyT (ts.map valChan) l l.length)) := hF.wide (by omega) (Nat.le_refl _)
      have HQ0 := hid hq0
      clear hF hO hq0
      go_wp2
      go_ret
      exact ⟨⟨_, _, rfl, HQ0.out, HF.out⟩, hB⟩
end Go.Proofs.Ytlnjhajdbofhlaa
