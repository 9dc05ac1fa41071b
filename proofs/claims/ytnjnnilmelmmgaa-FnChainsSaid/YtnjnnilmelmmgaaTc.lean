
/- ApplyChain on both sides. No conditions but those written. -/
import Derived.Test.YtnjnnilmelmmgaaTb
namespace Go.Proofs.Ytnjnnilmelmmgaa
open Go.RowKit

set_option maxHeartbeats 8000000 in
theorem implChain_any (ao : Option Addr) (cap : Nat) (l : List (Int × Int × Int)) (v : Int) (w : World) (hl : l.length ≤ 1048576) (hz : kG.In w.heap.size w ao l) :
    Calls Try.prog 21 #[.slice ao l.length cap, .int .i64 v] w (AnsB w (chR l v)) := by
  rcases hg : chGood l with _ | _
  · rw [chR_no1 hg]
    have HG := hid hg
    clear hg
    go_enter Try.func21, Try.ntmps21
    go_wp2_with fail
    refine (goodChain_is ao cap l w _ hl hz HG.out).mono ?_
    rintro e w1 ⟨rfl, hb1⟩
    go_wp2
    exact bodyPost_ret (v := .tuple #[.slice none 0 0, .bool false, .bool false]) (by simp [results, Try.results21, go_sem]) rfl (ansB_nil hb1)
  · rcases hv : valB v with _ | _
    · rw [chR_no2 hv]
      have HG := hid hg
      have HV := hid hv
      clear hg hv
      go_enter Try.func21, Try.ntmps21
      go_wp2_with fail
      refine (goodChain_is ao cap l w _ hl hz HG.out).mono ?_
      rintro e w1 ⟨rfl, hb1⟩
      go_wp2_with fail
      refine (isValue_is v _ _ HV.out).mono ?_
      rintro e w2 ⟨rfl, hw2⟩
      rw [hw2]; clear hw2 w2
      go_wp2
      exact bodyPost_ret (v := .tuple #[.slice none 0 0, .bool false, .bool false]) (by simp [results, Try.results21, go_sem]) rfl (ansB_nil hb1)
    · have HG := hid hg
      have HV := hid hv
      clear hg hv
      go_enter Try.func21, Try.ntmps21
      go_wp2_with fail
      refine (goodChain_is ao cap l w _ hl hz HG.out).mono ?_
      rintro e w1 ⟨rfl, hb1⟩
      go_wp2_with fail
      refine (isValue_is v _ _ HV.out).mono ?_
      rintro e w2 ⟨rfl, hw2⟩
      rw [hw2]; clear hw2 w2
      have hB1 := Below.allocS hb1 (.cells #[.int .i64 v] 3)
      have F1 := hid (fresh_one (lo := w.heap.size) (W := w1) (z := v) hb1.size)
      clear hb1
      go_wp2
      go_loopw [7, 23] (fun u i wr => ∃ (k : Nat) (o : Option Addr) (c : Nat) (x : List Int), u = .slice o x.length c ∧ k ≤ l.length ∧ i = .int .i64 k ∧ Hid (kI.Fresh w.heap.size wr.heap.size wr o c x) ∧ Below w.heap.size w wr ∧ Hid (o = none → c = 0) ∧ Hid (chainL (l.take k) [v] = some x)) (fun _ i _ => l.length - (intOf i).toNat)
      case atStart => exact ⟨0, _, _, [v], rfl, Nat.zero_le _, rfl, F1, hB1, (fun h => by cases h), rfl⟩
      case round =>
        obtain ⟨k, o, c, x, rfl, hk, rfl, hF, hB, h0, hch⟩ := hrel
        by_cases hlt : k < l.length
        · obtain ⟨bb, off, rfl, hbb, hc⟩ := kG_at hz hlt
          have d1 := (hB.cell (p := ⟨bb, off + k * 3, none⟩) hbb).trans (hc k hlt).1
          have d2 := (hB.cell (p := ⟨bb, off + k * 3 + 1, none⟩) hbb).trans (hc k hlt).2.1
          have d3 := (hB.cell (p := ⟨bb, off + k * 3 + 2, none⟩) hbb).trans (hc k hlt).2.2
          obtain ⟨⟨y1, y2, y3⟩, ey⟩ : ∃ v, v = el l k := ⟨_, rfl⟩
          rw [← ey] at d1 d2 d3
          have HY : Hid (el l k = (y1, y2, y3)) := ey.symm
          clear ey hc
          dsimp only at d1 d2 d3
          have hgy : Hid (goodSt y1 y2 y3 = true) := by
            have := (chGood_all HG.out).2 _ (el_mem hlt)
            rw [HY.out] at this; exact this
          have hx6 := chain_small HG.out hch.out
          have HVX := hid (chain_vals HG.out HV.out hch.out)
          have hF1 := hid (hF.out.later (below1 wr (.cells #[.int .i64 y1, .int .i64 y2, .int .i64 y3] 25)))
          have hBa := Below.allocS hB (.cells #[.int .i64 y1, .int .i64 y2, .int .i64 y3] 25)
          have HN := hid (chain_take hlt hch.out)
          rw [HY.out] at HN
          clear hF hch h0
          go_wp2_with fail
          refine (all_any y1 y2 y3 o c x _ (by omega) hF1.out.in hgy.out HVX.out).mono ?_
          rintro e w2 ⟨⟨o2, c2, rfl, h0, hF2⟩, hb2⟩
          have hB2 := hBa.trans (hb2.mono hBa.size)
          have hsz := hBa.size
          rcases hfl : failsAt (y1, y2, y3) x with _ | _
          · rw [allR_no hfl] at hF2 ⊢
            dsimp only at hF2 ⊢
            have HN2 : Hid (chainL (l.take (k + 1)) [v] = some (outs (y1, y2, y3) x)) := by rw [Hid, HN.out, hfl]; rfl
            have HF2 := hid (hF2.wide (lo' := w.heap.size) hsz (Nat.le_refl _))
            have H0 := hid h0
            clear hF2 hb2 h0 hfl hF1 hBa HN hsz
            generalize outs (y1, y2, y3) x = x2 at HN2 HF2 ⊢
            go_wp2
            go_roundw
            case rel => exact ⟨k + 1, o2, c2, x2, rfl, by omega, by go_num, HF2, hB2, H0, HN2⟩
            case measure => simp [intOf]; omega
          · rw [allR_yes hfl] at hF2 ⊢
            dsimp only at hF2 ⊢
            have HN2 : Hid (chainL l [v] = none) := chain_fail (k := k + 1) (by rw [HN.out, hfl]; rfl)
            clear hF2 hb2 h0 hfl hF1 hBa HN
            go_wp2
            refine bodyPost_ret (v := .tuple #[.slice none 0 0, .bool true, .bool true]) (by simp [results, Try.results21, go_sem]) rfl ?_
            rw [chR_fail HG.out HV.out HN2.out]
            exact ansB_nil hB2
        · obtain rfl : k = l.length := by omega
          rw [List.take_length] at hch
          go_wp2
          refine bodyPost_ret (v := .tuple #[.slice o x.length c, .bool false, .bool true]) (by simp [results, Try.results21, go_sem]) rfl ?_
          rw [chR_some HG.out HV.out hch.out]
          exact ⟨⟨_, _, rfl, h0.out, hF.out⟩, hB⟩
end Go.Proofs.Ytnjnnilmelmmgaa
