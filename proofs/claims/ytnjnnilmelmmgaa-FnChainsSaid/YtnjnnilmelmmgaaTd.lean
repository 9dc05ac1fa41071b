
/- ApplyChain of the specification. No conditions but those written. -/
import Derived.Test.YtnjnnilmelmmgaaTc
namespace Go.Proofs.Ytnjnnilmelmmgaa
open Go.RowKit

set_option maxHeartbeats 8000000 in
theorem specChain_any (ao : Option Addr) (cap : Nat) (l : List (Int × Int × Int)) (v : Int) (w : World) (hl : l.length ≤ 1048576) (hz : kG.In w.heap.size w ao l) :
    Calls Try.prog 19 #[.slice ao l.length cap, .int .i64 v] w (AnsB w (chR l v)) := by
  by_cases h8 : 8 < l.length
  · rw [chR_no1 (chGood_long h8)]
    have h8' : decide ((8 : Int) < (l.length : Int)) = true := by simp; omega
    clear h8
    go_enter Try.func19, Try.ntmps19
    go_wp2
    exact bodyPost_ret (v := .tuple #[.slice none 0 0, .bool false, .bool false]) (by simp [results, Try.results19, go_sem]) rfl (ansB_nil (Below.refl _ _))
  · have h8' : decide ((8 : Int) < (l.length : Int)) = false := by simp; omega
    have h88 : l.length ≤ 8 := by omega
    clear h8
    rcases hv : valB v with _ | _
    · rw [chR_no2 hv]
      have HV := hid hv
      clear hv
      go_enter Try.func19, Try.ntmps19
      go_wp2_with fail
      refine (l7Value_is v _ _ HV.out).mono ?_
      rintro e w2 ⟨rfl, hw2⟩
      rw [hw2]; clear hw2 w2
      go_wp2
      exact bodyPost_ret (v := .tuple #[.slice none 0 0, .bool false, .bool false]) (by simp [results, Try.results19, go_sem]) rfl (ansB_nil (Below.refl _ _))
    · have HV := hid hv
      clear hv
      go_enter Try.func19, Try.ntmps19
      go_wp2_with fail
      refine (l7Value_is v _ _ HV.out).mono ?_
      rintro e w2 ⟨rfl, hw2⟩
      rw [hw2]; clear hw2 w2
      go_wp2
      go_loopw [27] (fun i wr => ∃ k : Nat, k ≤ l.length ∧ i = .int .i64 k ∧ Below w.heap.size w wr ∧ Hid (∀ j, j < k → goodG (el l j) = true)) (fun i _ => l.length - (intOf i).toNat)
      case atStart => exact ⟨0, Nat.zero_le _, rfl, Below.refl _ _, fun j hj => by omega⟩
      case round =>
        obtain ⟨k, hk, rfl, hB, hno⟩ := hrel
        by_cases hlt : k < l.length
        · obtain ⟨bb, off, rfl, hbb, hc⟩ := kG_at hz hlt
          have d1 := (hB.cell (p := ⟨bb, off + k * 3, none⟩) hbb).trans (hc k hlt).1
          have d2 := (hB.cell (p := ⟨bb, off + k * 3 + 1, none⟩) hbb).trans (hc k hlt).2.1
          have d3 := (hB.cell (p := ⟨bb, off + k * 3 + 2, none⟩) hbb).trans (hc k hlt).2.2
          obtain ⟨⟨y1, y2, y3⟩, ey⟩ : ∃ v, v = el l k := ⟨_, rfl⟩
          rw [← ey] at d1 d2 d3
          have HY : Hid (el l k = (y1, y2, y3)) := ey.symm
          clear ey hc
          dsimp only at d1 d2 d3
          have hBa := Below.allocS (Below.allocS hB (.cells #[.int .i64 y1, .int .i64 y2, .int .i64 y3] 25)) (.cells #[.int .i64 y1, .int .i64 y2, .int .i64 y3] 25)
          rcases hg : goodSt y1 y2 y3 with _ | _
          · have HG := hid hg
            clear hg
            go_wp2_with fail
            refine (specGood_is y1 y2 y3 _ _ HG.out).mono ?_
            rintro e w1 ⟨rfl, hw1⟩
            rw [hw1]; clear hw1 w1
            go_wp2
            refine bodyPost_ret (v := .tuple #[.slice none 0 0, .bool false, .bool false]) (by simp [results, Try.results19, go_sem]) rfl ?_
            rw [chR_no1 (chGood_bad hlt (by rw [HY.out]; exact HG.out))]
            exact ansB_nil hBa
          · have HG := hid hg
            clear hg
            go_wp2_with fail
            refine (specGood_is y1 y2 y3 _ _ HG.out).mono ?_
            rintro e w1 ⟨rfl, hw1⟩
            rw [hw1]; clear hw1 w1
            go_wp2
            go_roundw
            case rel => exact ⟨k + 1, by omega, by go_num, hBa, fun j hj => by
              rcases Nat.lt_succ_iff_lt_or_eq.1 hj with h | rfl
              · exact hno.out j h
              · rw [HY.out]; exact HG.out⟩
            case measure => simp [intOf]; omega
        · obtain rfl : k = l.length := by omega
          have HG := hid (chGood_yes h88 hno.out)
          have hB1 := Below.allocS hB (.cells #[.int .i64 v] 3)
          have F1 := hid (fresh_one (lo := w.heap.size) (W := wr) (z := v) hB.size)
          clear hno hB hk
          go_wp2
          go_loopw [9, 39] (fun u i wr => ∃ (k : Nat) (o : Option Addr) (c : Nat) (x : List Int), u = .slice o x.length c ∧ k ≤ l.length ∧ i = .int .i64 k ∧ Hid (kI.Fresh w.heap.size wr.heap.size wr o c x) ∧ Below w.heap.size w wr ∧ Hid (o = none → c = 0) ∧ Hid (chainL (l.take k) [v] = some x)) (fun _ i _ => l.length - (intOf i).toNat)
          case atStart => exact ⟨0, _, _, [v], rfl, Nat.zero_le _, rfl, F1, hB1, (fun h => by cases h), rfl⟩
          case round =>
            clear hB1 F1
            obtain ⟨k, o, c, x, rfl, hk, rfl, hF, hB, h0, hch⟩ := hrel
            by_cases hlt : k < l.length
            · obtain ⟨bb, off, rfl, hbb, hc⟩ := kG_at hz hlt
              have d1 := (hB.cell (p := ⟨bb, off + k * 3, none⟩) hbb).trans (hc k hlt).1
              have d2 := (hB.cell (p := ⟨bb, off + k * 3 + 1, none⟩) hbb).trans (hc k hlt).2.1
              have d3 := (hB.cell (p := ⟨bb, off + k * 3 + 2, none⟩) hbb).trans (hc k hlt).2.2
              obtain ⟨⟨y1, y2, y3⟩, ey⟩ : ∃ v, v = el l k := ⟨_, rfl⟩
              rw [← ey] at d1 d2 d3
              have HY : Hid (el l k = (y1, y2, y3)) := ey.symm
              clear ey hc
              dsimp only at d1 d2 d3
              have hgy : Hid (goodSt y1 y2 y3 = true) := by
                have := (chGood_all HG.out).2 _ (el_mem hlt)
                rw [HY.out] at this; exact this
              have hx6 := chain_small HG.out hch.out
              have HVX := hid (chain_vals HG.out HV.out hch.out)
              have hF1 := hid (hF.out.later (below1 wr (.cells #[.int .i64 y1, .int .i64 y2, .int .i64 y3] 25)))
              have hBa := Below.allocS hB (.cells #[.int .i64 y1, .int .i64 y2, .int .i64 y3] 25)
              have XS := hid (Bx.new (w := wr) (p := wr.heap.size) [.int .i64 y1, .int .i64 y2, .int .i64 y3] 25 rfl)
              have HN := hid (chain_take hlt hch.out)
              rw [HY.out] at HN
              have hsw := hB.size
              have hzx := hid hF1.out.in
              obtain ⟨V, hV⟩ : ∃ V, V = wr.alloc (.cells #[.int .i64 y1, .int .i64 y2, .int .i64 y3] 25) := ⟨_, rfl⟩
              have hsV : wr.heap.size + 1 = V.heap.size := by rw [hV]; simp
              have HSV := hid hsV
              rw [← hV] at hzx XS hBa
              have HVV := hid hV
              clear hF hch h0 hB hF1 hV hsV
              go_wp2
              rw [← HVV.out]
              go_loopw [12, 45] (fun u i wq => ∃ (m : Nat) (v' : Value), v' = u ∧ m ≤ x.length ∧ i = .int .i64 m ∧ Hid (kI.Own V.heap.size wq v' (outs (y1, y2, y3) (x.take m))) ∧ Hid (Bx wq wr.heap.size [.int .i64 y1, .int .i64 y2, .int .i64 y3]) ∧ Hid (Below V.heap.size V wq) ∧ Hid (∀ j, j < m → (appSt y1 y2 y3 (el x j)).2 = false)) (fun _ i _ => x.length - (intOf i).toNat)
              case atStart => exact ⟨0, _, rfl, Nat.zero_le _, rfl, Kind.Own.nil _ _ _, XS, Below.refl _ _, fun j hj => by omega⟩
              case round =>
                obtain ⟨m, u, rfl, hm, rfl, hO, hS, hBq, hno⟩ := hrel
                by_cases hmt : m < x.length
                · obtain ⟨b2, off2, rfl, hb2, hc2⟩ := ints_at hzx.out hmt
                  have e1 := (hBq.out.cell (p := ⟨b2, off2 + m, none⟩) hb2).trans (hc2 m hmt)
                  clear hc2
                  obtain ⟨z, hz⟩ : ∃ z, z = el x m := ⟨_, rfl⟩
                  rw [← hz] at e1
                  have HZ := hid hz
                  have hvz : Hid (valB z = true) := (by rw [Hid, hz]; exact HVX.out _ (el_mem hmt))
                  clear hz
                  have s0 := hS.out.c 0 rfl
                  have s1 := hS.out.c 1 rfl
                  have s2 := hS.out.c 2 rfl
                  go_wp2_with fail
                  clear s0 s1 s2
                  refine (l7Apply_any y1 y2 y3 z _ hgy.out hvz.out).mono ?_
                  rintro e w2 ⟨⟨o2, c2, rfl, h0, hF2⟩, hbb2⟩
                  have hll3 : (appSt y1 y2 y3 z).1.length ≤ 3 := appSt_len hgy.out
                  generalize hr : appSt y1 y2 y3 z = r at hF2 hll3
                  have HR := hid hr
                  clear hr
                  obtain ⟨r0, r1⟩ := r
                  dsimp only at hF2 hll3 ⊢
                  have hBq2 := hid (hBq.out.trans (hbb2.mono hBq.out.size))
                  have hS2 := hid (hS.out.later hbb2)
                  have hO2 := hid (hO.out.below hbb2)
                  have HF := hid hF2.in
                  have H0 := hid h0
                  clear hF2 hbb2 h0 hO hS hBq
                  cases r1 with
                  | true =>
                    go_wp2
                    refine bodyPost_ret (v := .tuple #[.slice none 0 0, .bool true, .bool true]) (by simp [results, Try.results19, go_sem]) rfl ?_
                    have hfl := fails_yes (s := (y1, y2, y3)) hmt (by dsimp only; rw [← HZ.out, HR.out])
                    have HN2 : chainL l [v] = none := chain_fail (k := k + 1) (by rw [HN.out, hfl]; rfl)
                    rw [chR_fail HG.out HV.out HN2]
                    exact ansB_nil (hBa.trans (hBq2.out.mono hBa.size))
                  | false =>
                    have hll : (outs (y1, y2, y3) (x.take m)).length + r0.length ≤ 4194304 := by
                      have := outs_len (s := (y1, y2, y3)) hgy.out (x.take m)
                      simp at this; omega
                    go_wp2_with (at_builtin; refine Kind.app kI_ok w2 rfl (.tmp 56) (.tmp 57) rfl V.heap.size u (outs (y1, y2, y3) (x.take m)) rfl hO2.out hBq2.out.size o2 r0 r0.length c2 rfl rfl H0.out _ HF.out hll ?_; intro v' w' hO' hB' hG' hn'; have hBq3 := hid (hBq2.out.trans hB'); have HS3 := hid (hS2.out.below hB' (by have := HSV.out; omega)); have HO' : Hid (kI.Own V.heap.size w' v' (outs (y1, y2, y3) (x.take (m + 1)))) := (by rw [Hid, outs_take _ hmt, ← HZ.out]; dsimp only; rw [HR.out]; exact hO'); clear hO' hB' hG' hn')
                    go_roundw
                    case rel => exact ⟨m + 1, v', rfl, by omega, by go_num, HO', HS3, hBq3, fun j hj => by
                      rcases Nat.lt_succ_iff_lt_or_eq.1 hj with h | rfl
                      · exact hno.out j h
                      · rw [← HZ.out, HR.out]⟩
                    case measure => simp [intOf]; omega
                · obtain rfl : m = x.length := by omega
                  rw [List.take_length] at hO
                  have hfl := hid (fails_no (s := (y1, y2, y3)) hno.out)
                  have HN2 : Hid (chainL (l.take (k + 1)) [v] = some (outs (y1, y2, y3) x)) := by rw [Hid, HN.out, hfl.out]; rfl
                  obtain ⟨qo, qc, rfl, hq0, hFq⟩ := hO.out.fresh
                  have HFq : Hid (kI.Fresh w.heap.size wr.heap.size wr qo qc (outs (y1, y2, y3) x)) := hFq.wide hBa.size (Nat.le_refl _)
                  have HQ := hid hq0
                  have hBw := hBa.trans (hBq.out.mono hBa.size)
                  clear hFq hO hq0 hm hno hfl hBq hS
                  generalize outs (y1, y2, y3) x = x2 at HN2 HFq ⊢
                  go_wp2
                  go_roundw
                  case rel => exact ⟨k + 1, qo, qc, x2, rfl, by omega, by go_num, HFq, hBw, HQ, HN2⟩
                  case measure => simp [intOf]; omega
            · obtain rfl : k = l.length := by omega
              rw [List.take_length] at hch
              go_wp2
              refine bodyPost_ret (v := .tuple #[.slice o x.length c, .bool false, .bool true]) (by simp [results, Try.results19, go_sem]) rfl ?_
              rw [chR_some HG.out HV.out hch.out]
              exact ⟨⟨_, _, rfl, h0.out, hF.out⟩, hB⟩
end Go.Proofs.Ytnjnnilmelmmgaa
