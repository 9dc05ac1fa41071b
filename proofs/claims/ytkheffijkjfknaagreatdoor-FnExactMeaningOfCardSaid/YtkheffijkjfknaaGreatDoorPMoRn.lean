
/- What a value means: both sides. No conditions but those written. Marks in rows of nodes. No conditions but those written. The walk of the law of MeaningOf: it returns true. No conditions but those written. How the arguments that come in are read. No conditions but those written. How rows that come in are read. No conditions but those written. How graphs that come in are read. No conditions but those written. -/
import Derived.Test.YtkheffijkjfknaaGreatDoorPMmEs
import Derived.Test.YtkheffijkjfknaaGreatDoorPEjWy
import Derived.Test.YtkheffijkjfknaaGreatDoorPRcLd
import Derived.Test.YtkheffijkjfknaaGreatDoorPOsQu
import Derived.Test.YtkheffijkjfknaaGreatDoorPDpFx
import Derived.Laws.BytesString
import Derived.Test.YtkheffijkjfknaaGreatDoorPGenBx
import Derived.ProofKit
import Derived.Deep.SlicePairs
import Derived.Lib.SmallJoins
namespace Go.Proofs.YtkheffijkjfknaaGreatDoor
section
open Go.RowKit

/-- What MeaningOf answers. -/
def meanR (gs : List PNode) (k v : Int) : List (Int × Int) × Bool :=
  if codeG gs = 0 ∧ 0 ≤ k ∧ k < (gs.length : Int) ∧ valB v = true ∧ widP gs ≤ 100000 then sortR (meanG gs k.toNat v) else ([], false)
theorem sortE_perm (l : List (Int × Int)) : (sortE l).Perm l := List.mergeSort_perm _ _
theorem sortE_same {l r : List (Int × Int)} (h : l.Perm r) : sortE l = sortE r := sorted_one _ _ ((sortE_perm l).trans (h.trans (sortE_perm r).symm)) (sortE_pair l) (sortE_pair r)
theorem sortR_same {l r : List (Int × Int)} (h : l.Perm r) : sortR l = sortR r := by unfold sortR; rw [h.length_eq, sortE_same h]
theorem good_sts {gs : List PNode} (h : brk gs 2 = false) : GoodSts gs := fun k hk => by
  have := brk_at h hk
  simp only [prule, Int.toNat_natCast] at this
  simpa using this
set_option maxRecDepth 10000 in
set_option maxHeartbeats 4000000 in
theorem implMean_is (ao : Option Addr) (cap : Nat) (ts : List LNode) (k v : Int) (ea : Nat → Addr) (w : World) (hC : Roomy ts cap) (hE : Errs w ea) (hz : DIn dNode w.heap.size w ao ts) :
    Calls Tryz.prog 7 #[.slice ao ts.length cap, .int .i64 k, .int .i64 v] w (AnsEB w (meanR (ts.map valNode) k v)) := by
  have hcon := goodGraph_is ao cap ts ea w hC hE hz
  have HZ := hid hz
  have HFi := hid hC.fitN
  have hgl : (ts.map valNode).length = ts.length := val_len ts
  clear hz hE hC
  by_cases h0 : codeG (ts.map valNode) = 0
  · obtain ⟨hm, hbk, hor⟩ := codeG_zero h0
    have HED := hid (edges_of (by omega) (hbk 4 (by omega)))
    have HOR := hid hor
    have HGS := hid (good_sts (hbk 2 (by omega)))
    have h1 : 1 ≤ ts.length := by rw [val_len] at hm; omega
    rw [decide_eq_true h0] at hcon
    have H0 := hid h0
    have HGL := hid hgl
    clear h0 hm hbk hor hgl
    by_cases hk1 : k < 0
    · have HV : Hid (meanR (ts.map valNode) k v = ([], false)) := if_neg (by omega)
      go_enter Tryz.func7, Tryz.ntmps7
      go_wp2_with fail
      refine hcon.mono ?_
      rintro e w1 ⟨rfl, hb1⟩
      have hB1 : Below w.heap.size w w1 := hb1
      clear hb1
      go_wp2
      rw [HV.out]
      refine bodyPost_ret (v := .tuple #[.slice none 0 0, .bool false]) (by simp [results, Tryz.results7, go_sem]) rfl ?_
      exact ⟨⟨none, 0, rfl, Kind.Fresh.nil _ _ _ _ _ _⟩, hB1⟩
    · have hk1' : 0 ≤ k := by omega
      by_cases hk2 : (ts.length : Int) ≤ k
      · have HV : Hid (meanR (ts.map valNode) k v = ([], false)) := if_neg (by have := HGL.out; omega)
        go_enter Tryz.func7, Tryz.ntmps7
        go_wp2_with fail
        refine hcon.mono ?_
        rintro e w1 ⟨rfl, hb1⟩
        have hB1 : Below w.heap.size w w1 := hb1
        clear hb1
        go_wp2
        rw [HV.out]
        refine bodyPost_ret (v := .tuple #[.slice none 0 0, .bool false]) (by simp [results, Tryz.results7, go_sem]) rfl ?_
        exact ⟨⟨none, 0, rfl, Kind.Fresh.nil _ _ _ _ _ _⟩, hB1⟩
      · have hk2' : k < (ts.length : Int) := by omega
        cases hv : valB v with
        | false =>
          have HV : Hid (meanR (ts.map valNode) k v = ([], false)) := if_neg (by rw [hv]; simp)
          go_enter Tryz.func7, Tryz.ntmps7
          go_wp2_with fail
          refine hcon.mono ?_
          rintro e w1 ⟨rfl, hb1⟩
          have hB1 : Below w.heap.size w w1 := hb1
          clear hb1
          go_wp2_with fail
          refine (isValue_is v _ false hv).mono ?_
          rintro e w2 ⟨rfl, rfl⟩
          dsimp only
          go_wp2
          rw [HV.out]
          refine bodyPost_ret (v := .tuple #[.slice none 0 0, .bool false]) (by simp [results, Tryz.results7, go_sem]) rfl ?_
          exact ⟨⟨none, 0, rfl, Kind.Fresh.nil _ _ _ _ _ _⟩, hB1⟩
        | true =>
          by_cases hw : 100000 < widP (ts.map valNode)
          · have HV : Hid (meanR (ts.map valNode) k v = ([], false)) := if_neg (by omega)
            have hw' : decide (100000 < widP (ts.map valNode)) = true := by simpa using hw
            have HVV := hid hv
            go_enter Tryz.func7, Tryz.ntmps7
            go_wp2_with fail
            refine hcon.mono ?_
            rintro e w1 ⟨rfl, hb1⟩
            have hB1 : Below w.heap.size w w1 := hb1
            clear hb1
            go_wp2_with fail
            refine (isValue_is v _ true HVV.out).mono ?_
            rintro e w2 ⟨rfl, rfl⟩
            dsimp only
            go_wp2_with fail
            refine (widestIn_is ao cap ts w2 HFi.out (by omega) HED.out (HZ.out.later dNode_ok hB1)).mono ?_
            rintro e w3 ⟨rfl, hb3⟩
            have hB3 := hB1.trans (hb3.mono hB1.size)
            clear hb3
            dsimp only
            go_wp2
            rw [HV.out]
            refine bodyPost_ret (v := .tuple #[.slice none 0 0, .bool false]) (by simp [results, Tryz.results7, go_sem]) rfl ?_
            exact ⟨⟨none, 0, rfl, Kind.Fresh.nil _ _ _ _ _ _⟩, hB3⟩
          · have HV : Hid (meanR (ts.map valNode) k v = sortR (meanG (ts.map valNode) k.toNat v)) := if_pos ⟨H0.out, hk1', by rw [HGL.out]; exact hk2', hv, by omega⟩
            have hw' : decide (100000 < widP (ts.map valNode)) = false := by simpa using hw
            have HVV := hid hv
            obtain ⟨n, rfl⟩ : ∃ n : Nat, k = (n : Int) := ⟨k.toNat, by omega⟩
            rw [Int.toNat_natCast] at HV
            have HWW : Hid (widP (ts.map valNode) ≤ 100000) := by rw [Hid]; omega
            have hnl : n < ts.length := by omega
            have HPM := hid (sortR_same (emit_perm (orderP_ordd HOR.out) HED.out (k := n) (by rw [HGL.out]; exact hnl) v))
            have HML := hid (Int.le_trans (mean_len (orderP_ordd HOR.out) HED.out HGS.out _ n v (by rw [HGL.out]; exact hnl) (Nat.le_refl _)) (Int.le_trans (wdP_le (by rw [HGL.out]; exact hnl)) HWW.out))
            have HPL := hid ((emit_perm (orderP_ordd HOR.out) HED.out (k := n) (by rw [HGL.out]; exact hnl) v).length_eq)
            rw [← HPM.out] at HV
            go_enter Tryz.func7, Tryz.ntmps7
            go_wp2_with fail
            refine hcon.mono ?_
            rintro e w1 ⟨rfl, hb1⟩
            have hB1 : Below w.heap.size w w1 := hb1
            clear hb1
            go_wp2_with fail
            refine (isValue_is v _ true HVV.out).mono ?_
            rintro e w2 ⟨rfl, rfl⟩
            dsimp only
            go_wp2_with fail
            refine (widestIn_is ao cap ts w2 HFi.out (by omega) HED.out (HZ.out.later dNode_ok hB1)).mono ?_
            rintro e w3 ⟨rfl, hb3⟩
            have hB3 := hB1.trans (hb3.mono hB1.size)
            clear hb3
            dsimp only
            go_wp2_with fail
            refine (emitsOf_is ao cap ts w3 n v HED.out HOR.out HGS.out hnl HVV.out HWW.out HFi.out (HZ.out.later dNode_ok hB3)).mono ?_
            rintro e w4 ⟨⟨go4, gc4, rfl, hno4, hF4⟩, hb4⟩
            have HF4 := hid hF4.in
            have hB4 := hB3.trans (hb4.mono hB3.size)
            have hl4 : (emitP (ts.map valNode) n v).length ≤ 1048576 := by
              have h1 := HML.out
              have h2 := HPL.out
              unfold emitP
              omega
            have HV' : Hid (meanR (ts.map valNode) (n : Int) v = sortR (emitP (ts.map valNode) n v)) := HV.out
            clear hF4 hb4 HML HPL HPM HV
            generalize emitP (ts.map valNode) n v = E at HF4 hl4 HV'
            dsimp only
            go_wp2_with fail
            refine (implSort_any go4 gc4 E w4 hl4 HF4.out).mono ?_
            rw [← HV'.out]
            rintro e w5 ⟨⟨o5, c5, rfl, hF5⟩, hb5⟩
            have hB5 := hB4.trans (hb5.mono hB4.size)
            have HF5 := hid hF5
            clear hF5 hb5
            dsimp only
            go_wp2
            refine bodyPost_ret (v := .tuple #[.slice o5 (meanR (ts.map valNode) (n : Int) v).1.length c5, .bool (meanR (ts.map valNode) (n : Int) v).2]) (by simp [results, Tryz.results7, go_sem]) rfl ?_
            exact ⟨⟨o5, c5, rfl, HF5.out.wide hB4.size (Nat.le_refl _)⟩, hB5⟩
  · have HV : Hid (meanR (ts.map valNode) k v = ([], false)) := if_neg fun h => h0 h.1
    rw [decide_eq_false h0] at hcon
    clear h0
    go_enter Tryz.func7, Tryz.ntmps7
    go_wp2_with fail
    refine hcon.mono ?_
    rintro e w1 ⟨rfl, hb1⟩
    have hB1 : Below w.heap.size w w1 := hb1
    clear hb1
    go_wp2
    rw [HV.out]
    refine bodyPost_ret (v := .tuple #[.slice none 0 0, .bool false]) (by simp [results, Tryz.results7, go_sem]) rfl ?_
    exact ⟨⟨none, 0, rfl, Kind.Fresh.nil _ _ _ _ _ _⟩, hB1⟩
set_option maxRecDepth 10000 in
set_option maxHeartbeats 4000000 in
theorem specMean_is (ao : Option Addr) (cap : Nat) (ts : List LNode) (k v : Int) (w : World) (hC : Roomy ts cap) (hz : DIn dNode w.heap.size w ao ts) :
    Calls Tryz.prog 5 #[.slice ao ts.length cap, .int .i64 k, .int .i64 v] w (AnsEB w (meanR (ts.map valNode) k v)) := by
  have hcon := specCheck_is ao cap ts w hC hz
  have HZ := hid hz
  have hgl : (ts.map valNode).length = ts.length := val_len ts
  clear hz hC
  by_cases h0 : codeG (ts.map valNode) = 0
  · obtain ⟨hm, hbk, hor⟩ := codeG_zero h0
    have HED := hid (edges_of (by omega) (hbk 4 (by omega)))
    have HOR := hid hor
    have HGS := hid (good_sts (hbk 2 (by omega)))
    have h1 : 1 ≤ ts.length := by rw [val_len] at hm; omega
    have h10 : ts.length ≤ 10 := by rw [val_len] at hm; omega
    rw [h0] at hcon
    have H0 := hid h0
    have HGL := hid hgl
    clear h0 hm hbk hor hgl
    by_cases hk : 0 ≤ k ∧ k < (ts.length : Int)
    · have HIN : Hid ((decide (0 ≤ k) && decide (k ≤ (ts.length : Int) - 1)) = true) := by rw [Hid]; simp; omega
      have HK := hid hk
      clear hk
      cases hv : valB v with
      | false =>
        have HV : Hid (meanR (ts.map valNode) k v = ([], false)) := if_neg (by rw [hv]; simp)
        have HVV := hid hv
        go_enter Tryz.func5, Tryz.ntmps5
        go_wp2_with fail
        refine hcon.mono ?_
        rintro e w1 ⟨rfl, hb1⟩
        have hB1 : Below w.heap.size w w1 := hb1
        clear hb1
        go_wp2_with fail
        refine (l1In_is k 0 ((ts.length : Int) - 1) _ true HIN.out).mono ?_
        rintro e w2 ⟨rfl, rfl⟩
        dsimp only
        go_wp2_with fail
        refine (l7Value_is v _ false HVV.out).mono ?_
        rintro e w2 ⟨rfl, rfl⟩
        dsimp only
        go_wp2
        rw [HV.out]
        refine bodyPost_ret (v := .tuple #[.slice none 0 0, .bool false]) (by simp [results, Tryz.results5, go_sem]) rfl ?_
        exact ⟨⟨none, 0, rfl, Kind.Fresh.nil _ _ _ _ _ _⟩, hB1⟩
      | true =>
        have HVV := hid hv
        by_cases hw : 100000 < widP (ts.map valNode)
        · have HV : Hid (meanR (ts.map valNode) k v = ([], false)) := if_neg (by omega)
          have hw' : decide (100000 < widP (ts.map valNode)) = true := by simpa using hw
          go_enter Tryz.func5, Tryz.ntmps5
          go_wp2_with fail
          refine hcon.mono ?_
          rintro e w1 ⟨rfl, hb1⟩
          have hB1 : Below w.heap.size w w1 := hb1
          clear hb1
          go_wp2_with fail
          refine (l1In_is k 0 ((ts.length : Int) - 1) _ true HIN.out).mono ?_
          rintro e w2 ⟨rfl, rfl⟩
          dsimp only
          go_wp2_with fail
          refine (l7Value_is v _ true HVV.out).mono ?_
          rintro e w2 ⟨rfl, rfl⟩
          dsimp only
          go_wp2_with fail
          refine (l11Widest_is ao cap ts w2 HED.out HOR.out (HZ.out.later dNode_ok hB1)).mono ?_
          rintro e w3 ⟨rfl, hb3⟩
          have hB3 := hB1.trans (hb3.mono hB1.size)
          clear hb3
          dsimp only
          go_wp2
          rw [HV.out]
          refine bodyPost_ret (v := .tuple #[.slice none 0 0, .bool false]) (by simp [results, Tryz.results5, go_sem]) rfl ?_
          exact ⟨⟨none, 0, rfl, Kind.Fresh.nil _ _ _ _ _ _⟩, hB3⟩
        · have HV : Hid (meanR (ts.map valNode) k v = sortR (meanG (ts.map valNode) k.toNat v)) := if_pos ⟨H0.out, HK.out.1, by rw [HGL.out]; exact HK.out.2, hv, by omega⟩
          have hw' : decide (100000 < widP (ts.map valNode)) = false := by simpa using hw
          obtain ⟨n, rfl⟩ : ∃ n : Nat, k = (n : Int) := ⟨k.toNat, by have := HK.out; omega⟩
          rw [Int.toNat_natCast] at HV
          have hnl : n < ts.length := by have := HK.out; omega
          go_enter Tryz.func5, Tryz.ntmps5
          go_wp2_with fail
          refine hcon.mono ?_
          rintro e w1 ⟨rfl, hb1⟩
          have hB1 : Below w.heap.size w w1 := hb1
          clear hb1
          go_wp2_with fail
          refine (l1In_is (n : Int) 0 ((ts.length : Int) - 1) _ true HIN.out).mono ?_
          rintro e w2 ⟨rfl, rfl⟩
          dsimp only
          go_wp2_with fail
          refine (l7Value_is v _ true HVV.out).mono ?_
          rintro e w2 ⟨rfl, rfl⟩
          dsimp only
          go_wp2_with fail
          refine (l11Widest_is ao cap ts w2 HED.out HOR.out (HZ.out.later dNode_ok hB1)).mono ?_
          rintro e w3 ⟨rfl, hb3⟩
          have hB3 := hB1.trans (hb3.mono hB1.size)
          clear hb3
          dsimp only
          go_wp2_with fail
          refine (l11Mean_is ao cap ts _ (orderP_ordd HOR.out) HED.out HGS.out n v w3 hnl HVV.out (HZ.out.later dNode_ok hB3)).mono ?_
          rintro e w4 ⟨go4, gc4, r, rfl, hno4, hF4, hT4, hl4, hb4⟩
          have HF4 := hid hF4.in
          have hB4 := hB3.trans (hb4.mono hB3.size)
          have HT4 := hid hT4
          clear hF4 hb4 hT4
          dsimp only
          by_cases h4 : 400 < r.length
          · have HVF : Hid (meanR (ts.map valNode) (n : Int) v = ([], false)) := by
              rw [Hid, HV.out, sortR, if_pos]
              rcases HT4.out with h | ⟨_, h⟩
              · rw [List.nil_append] at h; rw [← h]; exact h4
              · simp at h; omega
            have h4' : decide ((400 : Int) < (r.length : Int)) = true := by simp; omega
            clear h4
            go_wp2
            rw [HVF.out]
            refine bodyPost_ret (v := .tuple #[.slice none 0 0, .bool false]) (by simp [results, Tryz.results5, go_sem]) rfl ?_
            exact ⟨⟨none, 0, rfl, Kind.Fresh.nil _ _ _ _ _ _⟩, hB4⟩
          · have HVF : Hid (meanR (ts.map valNode) (n : Int) v = (sortE r, true)) := by
              rcases HT4.out with h | ⟨h, _⟩
              · rw [List.nil_append] at h; rw [Hid, HV.out, sortR, ← h, if_neg h4]
              · omega
            have h4' : decide ((400 : Int) < (r.length : Int)) = false := by simp; omega
            clear h4
            go_wp2_with fail
            refine (l11Sort_any go4 gc4 r w4 (by omega) HF4.out hno4).mono ?_
            rintro e w5 ⟨o5, c5, rfl, hF5, hb5⟩
            have hB5 := hB4.trans (hb5.mono hB4.size)
            have HF5 := hid hF5
            clear hF5 hb5
            dsimp only
            go_wp2
            rw [HVF.out]
            refine bodyPost_ret (v := .tuple #[.slice o5 (sortE r).length c5, .bool true]) (by simp [results, Tryz.results5, go_sem]) rfl ?_
            exact ⟨⟨o5, c5, rfl, HF5.out.wide hB4.size (Nat.le_refl _)⟩, hB5⟩
    · have HV : Hid (meanR (ts.map valNode) k v = ([], false)) := if_neg (by have := HGL.out; omega)
      have HIN : Hid ((decide (0 ≤ k) && decide (k ≤ (ts.length : Int) - 1)) = false) := by rw [Hid]; simp; omega
      clear hk
      go_enter Tryz.func5, Tryz.ntmps5
      go_wp2_with fail
      refine hcon.mono ?_
      rintro e w1 ⟨rfl, hb1⟩
      have hB1 : Below w.heap.size w w1 := hb1
      clear hb1
      go_wp2_with fail
      refine (l1In_is k 0 ((ts.length : Int) - 1) _ false HIN.out).mono ?_
      rintro e w2 ⟨rfl, rfl⟩
      dsimp only
      go_wp2
      rw [HV.out]
      refine bodyPost_ret (v := .tuple #[.slice none 0 0, .bool false]) (by simp [results, Tryz.results5, go_sem]) rfl ?_
      exact ⟨⟨none, 0, rfl, Kind.Fresh.nil _ _ _ _ _ _⟩, hB1⟩
  · have HV : Hid (meanR (ts.map valNode) k v = ([], false)) := if_neg fun h => h0 h.1
    have hc0 : ((codeG (ts.map valNode) : Nat) : Int) ≠ 0 := by omega
    have hc1 : (((codeG (ts.map valNode) : Nat) : Int) == 0) = false := by simp; omega
    generalize codeG (ts.map valNode) = cd at hcon hc0 hc1
    clear h0
    go_enter Tryz.func5, Tryz.ntmps5
    go_wp2_with fail
    refine hcon.mono ?_
    rintro e w1 ⟨rfl, hb1⟩
    have hB1 : Below w.heap.size w w1 := hb1
    clear hb1
    go_wp2
    rw [HV.out]
    refine bodyPost_ret (v := .tuple #[.slice none 0 0, .bool false]) (by simp [results, Tryz.results5, go_sem]) rfl ?_
    exact ⟨⟨none, 0, rfl, Kind.Fresh.nil _ _ _ _ _ _⟩, hB1⟩
end
section
open Go.RowKit

theorem conv_one (W : World) (x : Int) : ∃ s, s.size = 1 ∧ (convert 81 9 (.slice (some ⟨W.heap.size, 0, none⟩) 1 1)).run Tryz.prog (W.alloc (.cells #[.int .u8 x] 5)) = .ok (.string s) (W.alloc (.cells #[.int .u8 x] 5)) := by
  refine ⟨[x].foldl (fun r n => r.push (UInt8.ofNat n.toNat)) ByteArray.empty, rfl, ?_⟩
  rw [run_convert_bytes_string _ _ _ 5 _ _ _ Tryz.underlying81 Tryz.underlying5 Tryz.underlying9]
  exact run_bytesToString _ _ _ _ [x] (by simp [loadCells, go_sem])
set_option maxRecDepth 10000 in
set_option maxHeartbeats 2000000 in
theorem markText_any (k0 : Int) (w : World) (hk0 : 0 ≤ k0) (hk1 : k0 ≤ 1000000000) :
    Calls Tryz.prog 28 #[.int .i64 k0] w fun e w' => (∃ s, e = .returned (.string s)) ∧ Below w.heap.size w w' := by
  by_cases h0 : k0 ≤ 0
  · go_enter Tryz.func28, Tryz.ntmps28
    go_wp2
    go_ret
    exact ⟨⟨_, rfl⟩, Below.refl _ _⟩
  · have h0' : decide (k0 ≤ 0) = false := by simpa using h0
    go_enter Tryz.func28, Tryz.ntmps28
    go_wp2
    go_loopw [0, 3] (fun v u wr => ∃ (k : Int) (s : ByteArray), v = .int .i64 k ∧ u = .string s ∧ 0 ≤ k ∧ k ≤ 1000000000 ∧ s.size + k.toNat ≤ 1000000000 ∧ Below w.heap.size w wr) (fun v _ _ => (intOf v).toNat)
    case atStart => exact ⟨k0, ⟨#[]⟩, rfl, rfl, hk0, hk1, by have : (⟨#[]⟩ : ByteArray).size = 0 := rfl; omega, Below.refl _ _⟩
    case round =>
      obtain ⟨k, s, rfl, rfl, hk, hkk, hs, hB⟩ := hrel
      by_cases hp : 0 < k
      · have hp' : decide (0 < k) = true := by simpa using hp
        obtain ⟨s1, hs1, hcv⟩ := conv_one wr (48 + k % 10)
        have hB2 : Below w.heap.size w (wr.alloc (.cells #[.int .u8 (48 + k % 10)] 5)) := Below.allocS hB _
        have hq0 : 0 ≤ k / 10 := by omega
        have hq1 : k / 10 < k := by omega
        go_wp2
        trace_state
        go_roundw
        case rel => exact ⟨k / 10, _, rfl, rfl, hq0, by omega, by rw [ByteArray.size_append]; omega, hB2⟩
        case measure => simp [intOf]; omega
      · obtain rfl : k = 0 := by omega
        clear hp
        go_wp2
        trace_state
        go_ret
        exact ⟨⟨_, rfl⟩, hB⟩
/-- Nodes that are being marked: what is in them counts no more, but where they lie. -/
structure MkN (lo hi : Nat) (W : World) (g : Nat) (us : List LNode) : Prop where
  low : lo ≤ g
  top : g < hi
  lt : g < W.heap.size
  cel : ∀ i, i < us.length → ∀ q, q < 5 → ∃ v, W.cell? ⟨g, i * 6 + q, none⟩ = some v
  nxt : ∀ i, i < us.length → W.cell? ⟨g, i * 6 + 5, none⟩ = some (.slice (el us i).2.2.2.2.2.1 (el us i).2.2.2.2.2.2.2.length (el us i).2.2.2.2.2.2.1)
  fro : ∀ q, W.frozen? ⟨g, q, none⟩ = false
  row : ∀ i, i < us.length → ∃ ys : List Int, ys.length = (el us i).2.2.2.2.2.2.2.length ∧ kI.Fresh lo hi W (el us i).2.2.2.2.2.1 (el us i).2.2.2.2.2.2.1 ys
  off : ∀ i, i < us.length → ¬ rowOwn (el us i).2.2.2.2.2.1 (el us i).2.2.2.2.2.2.2 g
  par : Parted dNode us
theorem rowOwn_len {α β : Type} {o : Option Addr} {xs : List α} {ys : List β} (h : xs.length = ys.length) {b : Nat} : rowOwn o xs b ↔ rowOwn o ys b := by unfold rowOwn; rw [h]
theorem MkN.of {lo hi : Nat} {W : World} {g c : Nat} {us : List LNode} (h : DFr dNode lo hi W (some ⟨g, 0, none⟩) c us) (h0 : 0 < us.length) : MkN lo hi W g us := by
  have h1 : hNode.Fresh lo hi W (some ⟨g, 0, none⟩) c us := h.1
  obtain ⟨g2, e2, hg1, hg2, hg3, ho⟩ := h1.at h0
  simp at e2; subst e2
  have hcs : ∀ i, i < us.length → W.cell? ⟨g, i * 6, none⟩ = some (.string (el us i).1) ∧ W.cell? ⟨g, i * 6 + 1, none⟩ = some (.int .i64 (el us i).2.1) ∧ W.cell? ⟨g, i * 6 + 2, none⟩ = some (.int .i64 (el us i).2.2.1) ∧ W.cell? ⟨g, i * 6 + 3, none⟩ = some (.int .i64 (el us i).2.2.2.1) ∧ W.cell? ⟨g, i * 6 + 4, none⟩ = some (.int .i64 (el us i).2.2.2.2.1) ∧ W.cell? ⟨g, i * 6 + 5, none⟩ = some (.slice (el us i).2.2.2.2.2.1 (el us i).2.2.2.2.2.2.2.length (el us i).2.2.2.2.2.2.1) := fun i hi' => by
    obtain ⟨b0, off, eb, _, hc⟩ := hNode_at h1.in hi'
    obtain ⟨rfl, rfl⟩ : b0 = g ∧ off = 0 := by simp at eb; exact ⟨eb.1.symm, eb.2.symm⟩
    have hc' := hc i hi'
    simp only [Nat.zero_add] at hc'
    exact hc'
  refine ⟨hg1, hg2, hg3, fun i hi' q hq => ?_, fun i hi' => (hcs i hi').2.2.2.2.2, fun q => ho.frozenAt q, fun i hi' => ⟨_, rfl, h.2.1 i hi'⟩, fun i hi' hr => h.head dNode_ok hi' hr ⟨h0, rfl⟩, h.2.2⟩
  have h6 := hcs i hi'
  rcases (show q = 0 ∨ q = 1 ∨ q = 2 ∨ q = 3 ∨ q = 4 from by omega) with rfl | rfl | rfl | rfl | rfl
  · exact ⟨_, h6.1⟩
  · exact ⟨_, h6.2.1⟩
  · exact ⟨_, h6.2.2.1⟩
  · exact ⟨_, h6.2.2.2.1⟩
  · exact ⟨_, h6.2.2.2.2.1⟩
theorem MkN.later {lo hi : Nat} {W W' : World} {g : Nat} {us : List LNode} (h : MkN lo hi W g us) (hb : Below W.heap.size W W') : MkN lo hi W' g us :=
  ⟨h.low, h.top, Nat.lt_of_lt_of_le h.lt hb.size, fun i hi' q hq => by obtain ⟨v, hv⟩ := h.cel i hi' q hq; exact ⟨v, (hb.cell (p := ⟨g, i * 6 + q, none⟩) h.lt).trans hv⟩, fun i hi' => (hb.cell (p := ⟨g, i * 6 + 5, none⟩) h.lt).trans (h.nxt i hi'), fun q => (hb.frozen (p := ⟨g, q, none⟩) h.lt).trans (h.fro q), fun i hi' => by obtain ⟨ys, hy, hF⟩ := h.row i hi'; exact ⟨ys, hy, hF.later hb⟩, h.off, h.par⟩
theorem MkN.set {lo hi : Nat} {W : World} {g : Nat} {us : List LNode} (h : MkN lo hi W g us) {i q : Nat} (hi' : i < us.length) (hq : q < 5) (u : Value) : MkN lo hi (W.setCell ⟨g, i * 6 + q, none⟩ u) g us := by
  obtain ⟨v0, hv0⟩ := h.cel i hi' q hq
  have far : ∀ p, p ≠ i * 6 + q → (W.setCell ⟨g, i * 6 + q, none⟩ u).cell? ⟨g, p, none⟩ = W.cell? ⟨g, p, none⟩ := fun p hp => by simp [go_sem]
  refine ⟨h.low, h.top, by simpa [World.setCell] using h.lt, fun j hj p hp => ?_, fun j hj => (far _ (by omega)).trans (h.nxt j hj), fun p => by simpa [go_sem] using h.fro p, fun j hj => ?_, h.off, h.par⟩
  · by_cases e : j * 6 + p = i * 6 + q
    · rw [e]; exact ⟨u, by simp [go_sem, hv0]⟩
    · obtain ⟨v, hv⟩ := h.cel j hj p hp
      exact ⟨v, (far _ e).trans hv⟩
  · obtain ⟨ys, hy, hF⟩ := h.row j hj
    exact ⟨ys, hy, hF.keepB fun b hb => Below.heap_setCell _ _ _ _ (fun e => h.off j hj (by simp only at e; rw [← e]; exact (rowOwn_len hy).1 hb))⟩
theorem Between.set {lo hi : Nat} (W : World) {a : Addr} (h1 : lo ≤ a.block) (h2 : a.block < hi) (u : Value) : Between lo hi W (W.setCell a u) :=
  ⟨rfl, rfl, rfl, by simp [World.setCell], fun k _ hr => Below.heap_setCell W a u k (by omega)⟩
theorem MkN.turn {lo hi : Nat} {W W' : World} {g : Nat} {us : List LNode} (h : MkN lo hi W g us) {i : Nat} (hi' : i < us.length) {ys : List Int} (hy : ys.length = (el us i).2.2.2.2.2.2.2.length) (hF : kI.Fresh lo hi W' (el us i).2.2.2.2.2.1 (el us i).2.2.2.2.2.2.1 ys) (hO : OnlyAt (eff (el us i).2.2.2.2.2.1 (el us i).2.2.2.2.2.2.2.length) W W') : MkN lo hi W' g us := by
  have hg : W'.heap[g]? = W.heap[g]? := only_own hO (h.off i hi')
  refine ⟨h.low, h.top, by rw [hO.size]; exact h.lt, fun j hj q hq => ?_, fun j hj => (World.cell?_of_block (a := ⟨g, j * 6 + 5, none⟩) hg).trans (h.nxt j hj), fun q => (World.frozen?_of_block (a := ⟨g, q, none⟩) hg).trans (h.fro q), fun j hj => ?_, h.off, h.par⟩
  · obtain ⟨v, hv⟩ := h.cel j hj q hq
    exact ⟨v, (World.cell?_of_block (a := ⟨g, j * 6 + q, none⟩) hg).trans hv⟩
  · by_cases e : j = i
    · subst e; exact ⟨ys, hy, hF⟩
    · obtain ⟨zs, hz, hFz⟩ := h.row j hj
      refine ⟨zs, hz, hFz.keepB fun b hb => only_own hO fun hb2 => ?_⟩
      have hb1 : dNode.own (el us j) b := (rowOwn_len hz).1 hb
      rcases Nat.lt_or_gt_of_ne e with hl | hl
      · exact h.par j i hl hi' b hb1 hb2
      · exact h.par i j hl hj b hb2 hb1
set_option maxRecDepth 10000 in
set_option maxHeartbeats 4000000 in
theorem markNodeS_any (lo hi g c : Nat) (us : List LNode) (w : World) (hl : us.length ≤ 1048576) (ht : totNode us ≤ 1048576) (hF : DFr dNode lo hi w (some ⟨g, 0, none⟩) c us) :
    Calls Tryz.prog 10 #[.slice (some ⟨g, 0, none⟩) us.length c, .int .i64 1] w fun e w' => (∃ k : Int, e = .returned (.int .i64 k) ∧ 0 ≤ k) ∧ Between lo hi w w' := by
  rcases Nat.eq_zero_or_pos us.length with h0 | h0
  · obtain rfl : us = [] := List.length_eq_zero_iff.1 h0
    clear hF
    go_enter Tryz.func10, Tryz.ntmps10
    go_wp2
    go_loop [1, 5] (fun v i => v = .int .i64 1 ∧ i = .int .i64 0) (fun _ _ => 0)
    case atStart => exact ⟨rfl, rfl⟩
    case round =>
      obtain ⟨rfl, rfl⟩ := hrel
      go_wp2
      go_ret
      exact ⟨⟨1, rfl, by omega⟩, Between.refl _ _ _⟩
  · have HM := hid (MkN.of hF h0)
    clear hF
    go_enter Tryz.func10, Tryz.ntmps10
    go_wp2
    go_loopw [1, 5] (fun v j wr => ∃ (i : Nat) (k : Int), i ≤ us.length ∧ j = .int .i64 i ∧ v = .int .i64 k ∧ 0 ≤ k ∧ k ≤ 1 + 5 * (i : Int) + totNode (us.take i) ∧ Hid (MkN lo hi wr g us) ∧ Hid (Between lo hi w wr)) (fun _ j _ => us.length - (intOf j).toNat)
    case atStart => exact ⟨0, 1, Nat.zero_le _, rfl, rfl, by omega, by simp [totNode], HM, Between.refl _ _ _⟩
    case round =>
      clear HM
      obtain ⟨i, k, hi', rfl, rfl, hk, hkk, hM, hB⟩ := hrel
      by_cases hlt : i < us.length
      · have ht1 := totNode_take hlt
        have ht2 := totNode_el hlt
        have hii : (i : Int) < (us.length : Int) := by omega
        unfold sizeNode at ht1 ht2
        go_wp2_with fail
        refine (markText_any k wr hk (by omega)).mono ?_
        rintro e w1 ⟨⟨s, rfl⟩, hb1⟩
        have hM1 := hid (hM.out.later hb1)
        have hB1 := hid (hB.out.trans (Between.of_below hb1))
        clear hb1 hM hB
        obtain ⟨v0, c0⟩ := hM1.out.cel i hlt 0 (by omega)
        obtain ⟨v1, c1⟩ := hM1.out.cel i hlt 1 (by omega)
        obtain ⟨v2, c2⟩ := hM1.out.cel i hlt 2 (by omega)
        obtain ⟨v3, c3⟩ := hM1.out.cel i hlt 3 (by omega)
        obtain ⟨v4, c4⟩ := hM1.out.cel i hlt 4 (by omega)
        have c5 := hM1.out.nxt i hlt
        have f0 := hM1.out.fro (i * 6)
        have f1 := hM1.out.fro (i * 6 + 1)
        have f2 := hM1.out.fro (i * 6 + 2)
        have f3 := hM1.out.fro (i * 6 + 3)
        have f4 := hM1.out.fro (i * 6 + 4)
        rw [Nat.add_zero] at c0
        have hgs := hM1.out.lt
        have HM5 := hid (((((hM1.out.set hlt (show 0 < 5 by omega) (.string s)).set hlt (show 1 < 5 by omega) (.int .i64 (k + 1))).set hlt (show 2 < 5 by omega) (.int .i64 (k + 1 + 1))).set hlt (show 3 < 5 by omega) (.int .i64 (k + 1 + 1 + 1))).set hlt (show 4 < 5 by omega) (.int .i64 (k + 1 + 1 + 1 + 1)))
        have hlo := hM1.out.low
        have hhi := hM1.out.top
        have HB5 := hid (hB1.out.trans (((((Between.set w1 (a := ⟨g, i * 6 + 0, none⟩) hlo hhi (.string s)).trans (Between.set _ (a := ⟨g, i * 6 + 1, none⟩) hlo hhi (.int .i64 (k + 1)))).trans (Between.set _ (a := ⟨g, i * 6 + 2, none⟩) hlo hhi (.int .i64 (k + 1 + 1)))).trans (Between.set _ (a := ⟨g, i * 6 + 3, none⟩) hlo hhi (.int .i64 (k + 1 + 1 + 1)))).trans (Between.set _ (a := ⟨g, i * 6 + 4, none⟩) hlo hhi (.int .i64 (k + 1 + 1 + 1 + 1)))))
        rw [Nat.add_zero] at HM5 HB5
        obtain ⟨W5, hW5⟩ : ∃ W5, W5 = ((((w1.setCell ⟨g, i * 6, none⟩ (.string s)).setCell ⟨g, i * 6 + 1, none⟩ (.int .i64 (k + 1))).setCell ⟨g, i * 6 + 2, none⟩ (.int .i64 (k + 1 + 1))).setCell ⟨g, i * 6 + 3, none⟩ (.int .i64 (k + 1 + 1 + 1))).setCell ⟨g, i * 6 + 4, none⟩ (.int .i64 (k + 1 + 1 + 1 + 1)) := ⟨_, rfl⟩
        rw [← hW5] at HM5 HB5
        have HW5 := hid hW5
        clear hW5 hM1 hB1
        obtain ⟨ys, hy, hFy⟩ := HM5.out.row i hlt
        have HFY := hid hFy
        have HTU := hid (fun W' zs h1 h2 h3 => HM5.out.turn (W' := W') hlt (ys := zs) h1 h2 h3)
        obtain ⟨nxo, h1⟩ : ∃ nxo, nxo = (el us i).2.2.2.2.2.1 := ⟨_, rfl⟩
        obtain ⟨nxc, h2⟩ : ∃ nxc, nxc = (el us i).2.2.2.2.2.2.1 := ⟨_, rfl⟩
        obtain ⟨n, h3⟩ : ∃ n, n = (el us i).2.2.2.2.2.2.2.length := ⟨_, rfl⟩
        rw [← h1, ← h2] at HFY
        rw [← h1, ← h2, ← h3] at c5
        rw [← h1, ← h2, ← h3] at HTU
        rw [← h3] at ht1 ht2 hy
        clear h1 h2 h3 HM5 hFy
        go_wp2_with fail
        rw [← HW5.out]
        have hmk := markIntS_any lo hi nxo nxc ys (k + 1 + 1 + 1 + 1 + 1) W5 (by omega) (by omega) (by omega) HFY.out
        rw [hy] at hmk
        refine hmk.mono ?_
        rintro e w6 ⟨rfl, hF6, hO6⟩
        have hM6 := hid (HTU.out w6 _ (by rw [markI_len]) hF6 hO6)
        have hB6 := hid (HB5.out.trans (HFY.out.between (by rw [hy]; exact hO6)))
        clear hF6 hO6
        go_wp2
        go_roundw
        case rel => exact ⟨i + 1, k + 1 + 1 + 1 + 1 + 1 + n, by omega, by go_num, rfl, by omega, by rw [ht1]; push_cast; omega, hM6, hB6⟩
        case measure => simp [intOf]; omega
      · obtain rfl : i = us.length := by omega
        go_wp2
        go_ret
        exact ⟨⟨k, rfl, hk⟩, hB.out⟩
end
section
open Go.RowKit

theorem meanR_len (gs : List PNode) (k v : Int) : (meanR gs k v).1.length ≤ 400 := by
  unfold meanR
  split
  · unfold sortR
    split
    · simp
    · rw [sortE_len]; omega
  · simp
theorem tot_val {us ts : List LNode} (hv : us.map valNode = ts.map valNode) : totNode us = totNode ts := by
  have h : ∀ l : List LNode, totNode l = ((l.map valNode).map fun p : PNode => p.1.size + p.2.2.2.2.2.length).sum := fun l => by rw [totNode, List.map_map]; rfl
  rw [h, h, hv]
set_option maxRecDepth 100000 in
set_option maxHeartbeats 16000000 in
theorem lawMean_any (ao : Option Addr) (cap : Nat) (ts : List LNode) (k0 v0 : Int) (ea : Nat → Addr) (w : World) (hl : ts.length ≤ 9223372036854775807) (hle : ∀ a ∈ ts, a.1.size ≤ 9223372036854775807 ∧ (a.2.2.2.2.2).2.2.length ≤ 9223372036854775807) (hz : DIn dNode w.heap.size w ao ts) (hE : Errs w ea) :
    Calls Tryz.prog 3 #[.slice ao ts.length cap, .int .i64 k0, .int .i64 v0] w fun e w' => e = .returned (.bool true) ∧ Below w.heap.size w w' := by
  have HZ := hid hz
  have HLE := hid hle
  have HE := hid hE
  clear hz hle hE
  have hq0 := meanR_len (ts.map valNode) k0 v0
  obtain ⟨⟨Rl, y⟩, hR⟩ : ∃ R, meanR (ts.map valNode) k0 v0 = R := ⟨_, rfl⟩
  rw [hR] at hq0
  have hq : Rl.length ≤ 1048576 := by dsimp only at hq0; omega
  have HR := hid hR
  have hn2 : (y != y) = false := by simp
  clear hR hq0
  go_enter Tryz.func3, Tryz.ntmps3
  go_wp2_with fail
  refine (szNodeS_any ao cap ts 1048576 w (by omega) (by omega) hl HLE.out HZ.out.1).mono ?_
  rintro e w1 ⟨⟨r, rfl, hr1, hr⟩, hB1⟩
  rcases hr with hr | ⟨hr2, hr0⟩
  · go_wp2
    go_ret
    exact ⟨rfl, hB1⟩
  have hl2 : ts.length ≤ 1048576 := by omega
  have htt : totNode ts ≤ 1048576 := by omega
  have HTT := hid htt
  have hr' : decide (r < 0) = false := by simpa using hr0
  clear hr2 hr0 hr1 htt
  go_wp2_with fail
  refine (toNodeS_ts ao cap ts w1 hl2 HTT.out (HZ.out.later dNode_ok hB1)).mono ?_
  rintro e w2 ⟨g2, us2, rfl, hn2', hv2, hD2, hC2, hb2⟩
  have hB2 := hB1.trans (hb2.mono hB1.size)
  have D2 := hid (hD2.in dNode_ok)
  have hcon := specMean_is (some ⟨g2, 0, none⟩) ts.length us2 k0 v0 w2 hC2 D2.out
  rw [hn2', hv2, HR.out] at hcon
  clear hb2 hD2 D2 hv2 hC2 hn2'
  unfold AnsEB at hcon
  dsimp only at hcon
  go_wp2_with fail
  refine hcon.mono ?_
  rintro e w3 ⟨⟨o3, c3, rfl, hF3⟩, hb3⟩
  have hB3 := hB2.trans (hb3.mono hB2.size)
  have S3 := hid hF3
  have hs3 := hB3.size
  clear hb3 hcon hF3
  go_wp2_with fail
  refine (toNodeS_ts ao cap ts w3 hl2 HTT.out (HZ.out.later dNode_ok hB3)).mono ?_
  rintro e w4 ⟨g4, us4, rfl, hn4, hv4, hD4, hC4, hb4⟩
  have hB4 := hB3.trans (hb4.mono hB3.size)
  have S4 := hid (S3.out.later hb4)
  have hs4 := hb4.size
  have X4 := hid hD4
  have HV4 := hid (And.intro hv4 (And.intro hC4 hn4))
  have hcon := implMean_is (some ⟨g4, 0, none⟩) ts.length us4 k0 v0 ea w4 hC4 (HE.out.later hB4) (hD4.in dNode_ok)
  rw [hn4, hv4, HR.out] at hcon
  clear hb4 hD4 hv4 hC4 hn4 S3
  unfold AnsEB at hcon
  dsimp only at hcon
  go_wp2_with fail
  refine hcon.mono ?_
  rintro e w5 ⟨⟨o5, c5, rfl, hF5⟩, hb5⟩
  have hs5 := hb5.size
  have hB5 := hB4.trans (hb5.mono hB4.size)
  have S5 := hid (S4.out.later hb5)
  have X5 := hid (X4.out.later dNode_ok hb5)
  have T5 := hid hF5
  have N5 : Hid (w5.heap.size ≤ w5.heap.size) := Nat.le_refl _
  clear hb5 hcon hF5 S4 X4
  go_wp2_with fail
  refine (eqEmitS_same o5 o3 c5 c3 Rl _ hq T5.out.in S5.out.in).mono ?_
  rintro e w6 ⟨rfl, hb6⟩
  have hB6 := hB5.trans (hb6.mono hB5.size)
  have S6 := hid (S5.out.later hb6)
  have X6 := hid (X5.out.later dNode_ok hb6)
  have T6 := hid (T5.out.later hb6)
  have N6 := hid (Nat.le_trans N5.out hb6.size)
  clear S5 X5 T5 N5
  clear hb6
  go_wp2_with fail
  refine (toNodeS_ts ao cap ts w6 hl2 HTT.out (HZ.out.later dNode_ok hB6)).mono ?_
  rintro e w7 ⟨g7, us7, rfl, hn7, hv7, hD7, hC7, hb7⟩
  have hB7 := hB6.trans (hb7.mono hB6.size)
  have S7 := hid (S6.out.later hb7)
  have X7 := hid (X6.out.later dNode_ok hb7)
  have T7 := hid (T6.out.later hb7)
  have N7 := hid (Nat.le_trans N6.out hb7.size)
  clear S6 X6 T6 N6
  have D7 := hid (hD7.in dNode_ok)
  have HV7 := hid hv7
  clear hb7 hD7 hv7 hC7 hn7
  go_wp2_with fail
  refine (eqNodeS_ts g4 g7 us4 us7 ts w7 hl2 HV4.out.1 HV7.out HV4.out.2.1 (X7.out.in dNode_ok) D7.out).mono ?_
  rintro e w8 ⟨rfl, hb8⟩
  have hB8 := hB7.trans (hb8.mono hB7.size)
  have S8 := hid (S7.out.later hb8)
  have X8 := hid (X7.out.later dNode_ok hb8)
  have T8 := hid (T7.out.later hb8)
  have N8 := hid (Nat.le_trans N7.out hb8.size)
  clear S7 X7 T7 N7
  clear hb8 D7 HV7
  have hmk := markNodeS_any w3.heap.size w4.heap.size g4 ts.length us4 w8 (by rw [HV4.out.2.2]; exact hl2) (by rw [tot_val HV4.out.1]; exact HTT.out) X8.out
  rw [HV4.out.2.2] at hmk
  go_wp2_with fail
  refine hmk.mono ?_
  rintro e w9 ⟨⟨kk, rfl, hkk⟩, hb9⟩
  have hlow : w3.heap.size ≤ w8.heap.size := by have := N8.out; omega
  have hB9 := hB8.trans ((hb9.below hlow).mono (by omega))
  have S9 := hid (S8.out.between' hb9 (by omega))
  have T9 := hid (T8.out.between' hb9 (by omega))
  have N9 := hid (Nat.le_trans N8.out hb9.size)
  clear S8 X8 T8 N8 hb9 hlow hmk HV4
  have hk0 : decide (kk < 0) = false := by simpa using hkk
  go_wp2_with fail
  refine (eqEmitS_same o5 o3 c5 c3 Rl _ hq T9.out.in S9.out.in).mono ?_
  rintro e w10 ⟨rfl, hb10⟩
  have hB10 := hB9.trans (hb10.mono hB9.size)
  have S10 := hid (S9.out.later hb10)
  have T10 := hid (T9.out.later hb10)
  have N10 := hid (Nat.le_trans N9.out hb10.size)
  clear S9 T9 N9
  clear hb10 hk0 hkk
  go_wp2_with fail
  refine (markEmitS_any w4.heap.size w5.heap.size o5 c5 Rl 1 _ (by omega) (by omega) (by omega) T10.out).mono ?_
  rintro e w11 ⟨rfl, hT11, hOz⟩
  have hb11 : Between w4.heap.size w5.heap.size w10 w11 := T10.out.between hOz
  have hlow : w4.heap.size ≤ w10.heap.size := by have := N10.out; omega
  have hB11 := hB10.trans ((hb11.below hlow).mono (by omega))
  have S11 := hid (S10.out.between' hb11 (by omega))
  have N11 := hid (Nat.le_trans N10.out hb11.size)
  have T11 := hid hT11
  clear S10 T10 N10 hT11 hb11 hOz hlow
  have hmq : ((1 : Int) + 2 * (Rl.length : Int) != 1 + 2 * (Rl.length : Int)) = false := by simp
  go_wp2_with fail
  refine (heldEmitS_any o5 c5 Rl.length 1 _ (by omega) (by omega) (by omega) T11.out.in).mono ?_
  rintro e w12 ⟨rfl, hw12⟩
  rw [hw12]
  clear hw12 w12
  have hm0 : decide ((1 : Int) + 2 * (Rl.length : Int) < 0) = false := by simp; omega
  go_wp2_with fail
  refine (toNodeS_ts ao cap ts w11 hl2 HTT.out (HZ.out.later dNode_ok hB11)).mono ?_
  rintro e w13 ⟨g13, us13, rfl, hn13, hv13, hD13, hC13, hb13⟩
  have hB13 := hB11.trans (hb13.mono hB11.size)
  have S13 := hid (S11.out.later hb13)
  have T13 := hid (T11.out.later hb13)
  have N13 := hid (Nat.le_trans N11.out hb13.size)
  clear S11 T11 N11
  have hcon := implMean_is (some ⟨g13, 0, none⟩) ts.length us13 k0 v0 ea w13 hC13 (HE.out.later hB13) (hD13.in dNode_ok)
  rw [hn13, hv13, HR.out] at hcon
  clear hb13 hD13 hv13 hC13 hn13
  unfold AnsEB at hcon
  dsimp only at hcon
  go_wp2_with fail
  refine hcon.mono ?_
  rintro e w14 ⟨⟨o14, c14, rfl, hF14⟩, hb14⟩
  have hB14 := hB13.trans (hb14.mono hB13.size)
  have S14 := hid (S13.out.later hb14)
  have T14 := hid (T13.out.later hb14)
  have N14 := hid (Nat.le_trans N13.out hb14.size)
  clear S13 T13 N13
  have U14 := hid hF14
  clear hb14 hcon hF14
  go_wp2_with fail
  refine (eqEmitS_same o14 o3 c14 c3 Rl _ hq U14.out.in S14.out.in).mono ?_
  rintro e w15 ⟨rfl, hb15⟩
  have hB15 := hB14.trans (hb15.mono hB14.size)
  have T15 := hid (T14.out.later hb15)
  clear hb15 S14 U14 T14 N14
  go_wp2_with fail
  refine (heldEmitS_any o5 c5 Rl.length 1 _ (by omega) (by omega) (by omega) T15.out.in).mono ?_
  rintro e w16 ⟨rfl, hw16⟩
  rw [hw16]
  clear hw16 w16
  go_wp2
  go_ret
  exact ⟨rfl, hB15⟩
end
section
open Go.ChangeShapes Go.WideShapes Go.ChangeAt Go.RowKit Go.Joins Go.Deep

theorem Tryz.own : ownKnob Tryz.prog.godebug = none := by kernel_rfl
theorem Tryz.laidOut : laidOutB Tryz.prog = true := by kernel_rfl
theorem Tryz.cells3 : Tryz.prog.cellsOf 3 = 1 := by kernel_rfl
end
section
open Go.ChangeShapes Go.WideShapes Go.ChangeAt Go.RowKit Go.Joins Go.Deep

theorem addr_none {W : World} {b off : Nat} {spot : Option _} {v : Value} (h : W.cell? ((⟨b, off, spot⟩ : Addr).add 0) = some v) : spot = none := by
  simpa [Addr.add] using World.cell?_spot h
theorem add_none (b off i : Nat) : (⟨b, off, none⟩ : Addr).add i = ⟨b, off + i, none⟩ := by
  by_cases h : i = 0 <;> simp [Addr.add, h]
theorem read_kI {H : Type} {enc : TypeId × Value → H} {W : World} {spare : Nat → Bool} {held : Bool} {fuel : Nat} {c : Value} {x : DataW H × List MemPlace}
    (h : DataW.trod enc Tryz.prog W 0 spare held fuel 37 [c] = some x) : ∃ ao cap zs, c = .slice ao (zs : List Int).length cap ∧ zs.length ≤ 9223372036854775807 ∧ kI.In W.heap.size W ao zs := by
  rcases open_slice1 Tryz.underlying37 Tryz.cells3 h with ⟨hcs, _⟩ | ⟨a, len, cap, m, n, V, D, Pl, hcs, hb, hl, hm, hmm, hx, hel⟩
  · simp at hcs; subst hcs; exact ⟨none, 0, [], rfl, by simp, .inl rfl⟩
  · simp at hcs; subst hcs
    have hlm : len ≤ m := by rw [hmm]; split <;> omega
    refine ⟨some a, cap, (List.range len).map (fun i => intOf (V i)), by simp, by simp; unfold maxLen at hm; omega, ?_⟩
    by_cases h0 : len = 0
    · subst h0; exact .inl (by simp)
    · obtain ⟨b, off, spot⟩ := a
      have hs : spot = none := addr_none (hel 0 (by omega)).1
      subst hs
      refine ints_mk ?_ fun j hj => ?_
      · have := World.block_lt_of_cell? _ _ (hel 0 (by omega)).1
        simpa [Addr.add] using this
      · simp at hj
        obtain ⟨h1, h2⟩ := hel j (by omega)
        obtain ⟨z, e, _, _⟩ := DataW.trod_int Tryz.underlying3 h2
        simp at e
        rw [e, add_none] at h1
        simpa [hj, e, intOf, el] using h1
set_option maxRecDepth 100000 in
theorem read_kI0 {H : Type} {enc : TypeId × Value → H} {W : World} {spare : Nat → Bool} {held : Bool} {rr : Reach} {b0 : Nat} {v : Value} {d : DataW H} {p : List MemPlace}
    (hv : Value.okWide Tryz.prog W rr b0 37 v) (h : DataW.Trod enc Tryz.prog W 0 spare held 37 v d p) :
    ∃ (ao : Option Addr) (cap : Nat) (zs : List Int), v = .slice ao zs.length cap ∧ zs.length ≤ 9223372036854775807 ∧ kI.In W.heap.size W ao zs := by
  obtain ⟨fuel, hf⟩ := h
  have hc : v.cells.toList = [v] := by
    obtain ⟨x, y, z, rfl⟩ : ∃ x y z, v = .slice x y z := okWide_slice Tryz.underlying37 hv
    rfl
  rw [hc] at hf
  exact read_kI hf
end
section
open Go.ChangeShapes Go.WideShapes Go.ChangeAt Go.RowKit Go.Joins Go.Deep

theorem Tryz.cells39 : Tryz.prog.cellsOf 39 = 6 := by kernel_rfl
theorem Tryz.cells36 : Tryz.prog.cellsOf 36 = 3 := by kernel_rfl
theorem Tryz.cells9 : Tryz.prog.cellsOf 9 = 1 := by kernel_rfl
theorem Tryz.cells37 : Tryz.prog.cellsOf 37 = 1 := by kernel_rfl
set_option maxRecDepth 100000 in
set_option maxHeartbeats 1000000 in
theorem read_kN {H : Type} {enc : TypeId × Value → H} {W : World} {spare : Nat → Bool} {held : Bool} {fuel : Nat} {c : Value} {x : DataW H × List MemPlace}
    (h : DataW.trod enc Tryz.prog W 0 spare held fuel 22 [c] = some x) : ∃ ao cap ts, c = .slice ao (ts : List LNode).length cap ∧ ts.length ≤ 9223372036854775807 ∧ (∀ a ∈ ts, a.1.size ≤ 9223372036854775807 ∧ (a.2.2.2.2.2).2.2.length ≤ 9223372036854775807) ∧ DIn dNode W.heap.size W ao ts := by
  rcases open_slice Tryz.underlying22 h with ⟨hcs, _⟩ | ⟨a, len, cap, m, n, D, Pl, hcs, hb, hl, hm, hmm, hx0, hx⟩
  · simp at hcs; subst hcs; exact ⟨none, 0, [], rfl, by simp, by simp, DIn.nil _ _ _⟩
  · simp at hcs; subst hcs
    have hlm : len ≤ m := by rw [hmm]; split <;> omega
    have each : ∀ i, i < m → ∃ q : LNode, (W.cell? (a.add (i * 6)) = some (.string q.1) ∧ W.cell? (a.add (i * 6 + 1)) = some (.int .i64 q.2.1) ∧ W.cell? (a.add (i * 6 + 2)) = some (.int .i64 q.2.2.1) ∧ W.cell? (a.add (i * 6 + 3)) = some (.int .i64 q.2.2.2.1) ∧ W.cell? (a.add (i * 6 + 4)) = some (.int .i64 q.2.2.2.2.1) ∧ W.cell? (a.add (i * 6 + 5)) = some (.slice q.2.2.2.2.2.1 q.2.2.2.2.2.2.2.length q.2.2.2.2.2.2.1)) ∧ (q.1.size ≤ 9223372036854775807 ∧ (q.2.2.2.2.2).2.2.length ≤ 9223372036854775807) ∧ InNode W.heap.size W q.2.2.2.2.2.1 q.2.2.2.2.2.2.2 := by
      intro i hi
      obtain ⟨cs', h1, h2⟩ := hx i hi
      rw [Tryz.cells39] at h1
      obtain ⟨_, hlen, hcell⟩ := World.cells?_some h1
      obtain ⟨xs, k, hk, hxy, _, hxl, hf⟩ := DataW.trod_struct Tryz.underlying39 h2
      match xs, hxl, cs', hlen with
      | [y0, y1, y2, y3], _, [v0, v1, v2, v3, v4, v5], _ =>
        have g0 := hf 0 _ rfl
        have g1 := hf 1 _ rfl
        have g2 := hf 2 _ rfl
        have g3 := hf 3 _ rfl
        simp [Tryz.cells3, Tryz.cells9, Tryz.cells37, Tryz.cells36] at g0 g1 g2 g3
        have e0 := hcell 0 (by omega)
        have e1 := hcell 1 (by omega)
        have e2 := hcell 2 (by omega)
        have e3 := hcell 3 (by omega)
        have e4 := hcell 4 (by omega)
        have e5 := hcell 5 (by omega)
        rw [add_add] at e0 e1 e2 e3 e4 e5
        obtain ⟨s0, p0, _, hs0⟩ := DataW.trod_string Tryz.underlying9 g0
        obtain ⟨ys, k2, _, _, _, hyl, hf2⟩ := DataW.trod_struct Tryz.underlying36 g1
        match ys, hyl with
        | [w0, w1, w2], _ =>
          have q0 := hf2 0 _ rfl
          have q1 := hf2 1 _ rfl
          have q2 := hf2 2 _ rfl
          simp [Tryz.cells3] at q0 q1 q2
          obtain ⟨z0, r0, _, _⟩ := DataW.trod_int Tryz.underlying3 q0
          obtain ⟨z1, r1, _, _⟩ := DataW.trod_int Tryz.underlying3 q1
          obtain ⟨z2, r2, _, _⟩ := DataW.trod_int Tryz.underlying3 q2
          obtain ⟨z3, r3, _, _⟩ := DataW.trod_int Tryz.underlying3 g2
          obtain ⟨fo, fc, f, p6, hlf, hF⟩ := read_kI g3
          simp at p0 r0 r1 r2 r3
          subst p0 r0 r1 r2 r3 p6
          exact ⟨(s0, z0, z1, z2, z3, (fo, fc, f)), ⟨by simpa using e0, by simpa using e1, by simpa using e2, by simpa using e3, by simpa using e4, by simpa using e5⟩, ⟨by unfold maxLen at hs0; omega, hlf⟩, hF⟩
    obtain ⟨q, hq⟩ := choose_lt each
    have hat : ∀ j, j < len → el ((List.range len).map q) j = q j := fun j hj => by simp [el, hj]
    refine ⟨some a, cap, (List.range len).map q, by simp, by simp; unfold maxLen at hm; omega, ?_, ?_, ?_⟩
    · intro l hl'
      obtain ⟨i, hi, rfl⟩ := List.mem_map.1 hl'
      exact (hq i (by have := List.mem_range.1 hi; omega)).2.1
    · by_cases h0 : len = 0
      · subst h0; exact .inl (by simp)
      · obtain ⟨b, off, spot⟩ := a
        have hs : spot = none := addr_none (by simpa using (hq 0 (by omega)).1.1)
        subst hs
        refine .inr ⟨b, off, rfl, ?_, fun j hj i hi => ?_⟩
        · have := World.block_lt_of_cell? _ _ (hq 0 (by omega)).1.1
          simpa [Addr.add] using this
        simp only [List.length_map, List.length_range] at hj
        rw [hat j hj]
        obtain ⟨h0, h1, h2, h3, h4, h5⟩ := (hq j (by omega)).1
        rw [add_none] at h0 h1 h2 h3 h4 h5
        have hi' : i < 6 := hi
        rcases (show i = 0 ∨ i = 1 ∨ i = 2 ∨ i = 3 ∨ i = 4 ∨ i = 5 from by omega) with rfl | rfl | rfl | rfl | rfl | rfl
        · have e : (⟨b, off + j * hNode.sz + 0, none⟩ : Addr) = ⟨b, off + (j * 6), none⟩ := by show (⟨b, off + j * 6 + 0, none⟩ : Addr) = _; simp <;> omega
          show W.cell? ⟨b, off + j * hNode.sz + 0, none⟩ = _
          rw [e]; exact h0
        · have e : (⟨b, off + j * hNode.sz + 1, none⟩ : Addr) = ⟨b, off + (j * 6 + 1), none⟩ := by show (⟨b, off + j * 6 + 1, none⟩ : Addr) = _; simp <;> omega
          show W.cell? ⟨b, off + j * hNode.sz + 1, none⟩ = _
          rw [e]; exact h1
        · have e : (⟨b, off + j * hNode.sz + 2, none⟩ : Addr) = ⟨b, off + (j * 6 + 2), none⟩ := by show (⟨b, off + j * 6 + 2, none⟩ : Addr) = _; simp <;> omega
          show W.cell? ⟨b, off + j * hNode.sz + 2, none⟩ = _
          rw [e]; exact h2
        · have e : (⟨b, off + j * hNode.sz + 3, none⟩ : Addr) = ⟨b, off + (j * 6 + 3), none⟩ := by show (⟨b, off + j * 6 + 3, none⟩ : Addr) = _; simp <;> omega
          show W.cell? ⟨b, off + j * hNode.sz + 3, none⟩ = _
          rw [e]; exact h3
        · have e : (⟨b, off + j * hNode.sz + 4, none⟩ : Addr) = ⟨b, off + (j * 6 + 4), none⟩ := by show (⟨b, off + j * 6 + 4, none⟩ : Addr) = _; simp <;> omega
          show W.cell? ⟨b, off + j * hNode.sz + 4, none⟩ = _
          rw [e]; exact h4
        · have e : (⟨b, off + j * hNode.sz + 5, none⟩ : Addr) = ⟨b, off + (j * 6 + 5), none⟩ := by show (⟨b, off + j * 6 + 5, none⟩ : Addr) = _; simp <;> omega
          show W.cell? ⟨b, off + j * hNode.sz + 5, none⟩ = _
          rw [e]; exact h5
    · intro j hj
      simp only [List.length_map, List.length_range] at hj
      rw [hat j hj]
      exact (hq j (by omega)).2.2
set_option maxRecDepth 100000 in
theorem read_kN0 {H : Type} {enc : TypeId × Value → H} {W : World} {spare : Nat → Bool} {held : Bool} {rr : Reach} {b0 : Nat} {v : Value} {d : DataW H} {p : List MemPlace}
    (hv : Value.okWide Tryz.prog W rr b0 22 v) (h : DataW.Trod enc Tryz.prog W 0 spare held 22 v d p) :
    ∃ (ao : Option Addr) (cap : Nat) (ts : List LNode), v = .slice ao ts.length cap ∧ ts.length ≤ 9223372036854775807 ∧ (∀ a ∈ ts, a.1.size ≤ 9223372036854775807 ∧ (a.2.2.2.2.2).2.2.length ≤ 9223372036854775807) ∧ DIn dNode W.heap.size W ao ts := by
  obtain ⟨fuel, hf⟩ := h
  have hc : v.cells.toList = [v] := by
    obtain ⟨x, y, z, rfl⟩ : ∃ x y z, v = .slice x y z := okWide_slice Tryz.underlying22 hv
    rfl
  rw [hc] at hf
  exact read_kN hf
end
end Go.Proofs.YtkheffijkjfknaaGreatDoor
