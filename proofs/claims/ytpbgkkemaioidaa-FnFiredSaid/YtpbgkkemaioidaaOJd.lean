
/- AdvanceTo: the specification's answer. No conditions but those written. -/
import Derived.Test.YtpbgkkemaioidaaOJc
namespace Go.Proofs.Ytpbgkkemaioidaa.Old
open Go.RowKit

theorem l2Own_n (now sq : Int) (ad : Addr) (n cap : Nat) (ts : List T3) (w : World) (hn : ts.length = n) (hl : n ≤ 1048576) (hz : TimersIn w.heap.size w (some ad) ts) :
    Calls Try.prog 18 #[.agg #[.int .i64 now, .int .i64 sq, .slice (some ad) n cap]] w fun e w' => (∃ to tc, e = .returned (.agg #[.int .i64 now, .int .i64 sq, .slice to n tc]) ∧ FreshC w.heap.size w'.heap.size w' to tc ts) ∧ Below w.heap.size w w' := by
  subst hn
  refine (l2Own_any now sq (some ad) cap ts w (fun h => by cases h) hl hz).mono ?_
  rintro e w' ⟨⟨to, tc, h1, h2, _⟩, hb⟩
  exact ⟨⟨to, tc, h1, h2⟩, hb⟩
theorem OwnZ.lenV {lo : Nat} {W : World} {v : Value} {xs : List Int} (h : OwnZ lo W v xs) : lenV v = xs.length := by
  obtain ⟨to, tc, e, _⟩ := h.fresh
  rw [e]; rfl
theorem OwnZ.keepG {lo : Nat} {W W' : World} {v : Value} {xs : List Int} (h : OwnZ lo W v xs) (h2 : ∀ g, v.ownBlock = some g → W'.heap[g]? = W.heap[g]?) : OwnZ lo W' v xs := by
  rcases h.2 with ⟨e, h0⟩ | ⟨g, cap, cur, e, _⟩
  · have : xs = [] := List.length_eq_zero_iff.1 h0
    subst this e; exact OwnZ.nil _ _
  · unfold OwnZ at h ⊢
    rw [e] at h h2 ⊢; exact owns_block h (h2 g (by simp [Value.ownBlock]))
theorem t3_drop (ts : List T3) (j i : Nat) : t3 (ts.drop j) i = t3 ts (j + i) := by simp [t3]
theorem drop_drop1 (ts : List T3) (j : Nat) : (ts.drop j).drop 1 = ts.drop (j + 1) := by rw [List.drop_drop]

set_option maxRecDepth 100000 in
set_option maxHeartbeats 4000000 in
theorem specAdv_any (now sq : Int) (ao : Option Addr) (cap : Nat) (ts : List T3) (time : Int) (w : World) (hwf : ao = none → cap = 0) (hl : ts.length ≤ 1048576) (hcap : ts.length ≤ cap) (hz : TimersIn w.heap.size w ao ts) :
    Calls Try.prog 6 #[.agg #[.int .i64 now, .int .i64 sq, .slice ao ts.length cap], .int .i64 time] w fun e w' => AnsA w (advR now sq ts time) e w' := by
  generalize hR : advR now sq ts time = R
  have HR : Hid (advR now sq ts time = R) := hR
  clear hR
  go_enter Try.func6, Try.ntmps6
  go_wp2_with fail
  refine (specGood_any now sq ao cap ts _ hl hcap (hz.later (below2 _ _ _))).mono ?_
  rintro e w1 ⟨rfl, hb1⟩
  have hB1 := (below2 w (.cells #[.int .i64 now, .int .i64 sq, .slice ao ts.length cap] 25) (.cells #[.int .i64 0, .int .i64 0, .slice none 0 0] 25)).trans (hb1.mono (by simp; omega))
  have X1 := (Boxes.new w now sq (.slice ao ts.length cap)).later hb1
  obtain ⟨b0, b1, b2, bf0, bf1, bf2, r0, r1, r2, f0, f1, f2, l1⟩ := id X1
  clear hb1
  cases hg : goodB now sq ts
  · have HR2 : Hid (R = (0, 0, [], [], 1)) := by rw [Hid, ← HR.out, advR, hg]; rfl
    clear hg HR
    go_wp2
    refine bodyPost_ret (v := .tuple #[.agg #[.int .i64 0, .int .i64 0, .slice none 0 0], .slice none 0 0, .int .i64 1]) (by simp [results, Try.results6, go_sem, r0, r1, r2]) rfl ?_
    rw [HR2.out]
    exact ansA_of (ts := []) (q := []) hB1 (.inl rfl) (.inl rfl) _ _ _
  · have hn30 : ts.length ≤ 30 := (good_parts hg).2.2.2.1
    have HG : Hid (goodB now sq ts = true) := hg
    clear hg
    go_wp2_with fail
    refine (l2Own_any now sq ao cap ts w1 hwf hl (hz.later hB1)).mono ?_
    rintro e w2 ⟨⟨to, tc, rfl, hF, g, rfl⟩, hb2⟩
    have hB2 := hB1.trans (hb2.mono hB1.size)
    have X2 := X1.later hb2
    obtain ⟨c0, c1, c2, cf0, cf1, cf2, m0, m1, m2, n0, n1, n2, l2⟩ := id X2
    have HF : Hid (FreshC (w.heap.size + 1 + 1) w2.heap.size w2 (some ⟨g, 0, none⟩) tc ts) := hF.wide (by omega) (Nat.le_refl _)
    clear hb2 X1 b0 b1 b2 bf0 bf1 bf2 r0 r1 r2 f0 f1 f2 l1 hF
    by_cases ht : time < now
    · have HR2 : Hid (R = (now, sq, ts, [], 5)) := by rw [Hid, ← HR.out, advR, HG.out, if_pos rfl, if_pos ht]
      clear HR
      go_wp2
      refine bodyPost_ret (v := .tuple #[.agg #[.int .i64 now, .int .i64 sq, .slice (some ⟨g, 0, none⟩) ts.length tc], .slice none 0 0, .int .i64 5]) (by simp [results, Try.results6, go_sem, m0, m1, m2]) rfl ?_
      rw [HR2.out]
      have hBe := ((hB2.setCell (p := ⟨w.heap.size, 0, none⟩) (by simp) (.int .i64 now)).setCell (p := ⟨w.heap.size, 1, none⟩) (by simp) (.int .i64 sq)).setCell (p := ⟨w.heap.size, 2, none⟩) (by simp) (.slice (some ⟨g, 0, none⟩) ts.length tc)
      have hFe := (((HF.out.setBelow (a := ⟨w.heap.size, 0, none⟩) (by simp; omega) (.int .i64 now)).setBelow (a := ⟨w.heap.size, 1, none⟩) (by simp; omega) (.int .i64 sq)).setBelow (a := ⟨w.heap.size, 2, none⟩) (by simp; omega) (.slice (some ⟨g, 0, none⟩) ts.length tc))
      exact ansA_of (q := []) hBe (hFe.wide (Nat.le_refl _) (by simp)) (.inl rfl) _ _ _
    · have ht' : decide (time < now) = false := by simpa using ht
      have HR1 : Hid (∀ k, k = insK ts time → R = (time, sq, ts.drop k, idsT (ts.take k), 0)) := by
        intro k hk; rw [← HR.out, advR, HG.out, if_pos rfl, if_neg ht, hk]
      clear HR ht
      go_wp2
      obtain ⟨W3, hW3⟩ : ∃ W3, W3 = (((w2.setCell ⟨w.heap.size, 0, none⟩ (.int .i64 now)).setCell ⟨w.heap.size, 1, none⟩ (.int .i64 sq)).setCell ⟨w.heap.size, 2, none⟩ (.slice (some ⟨g, 0, none⟩) ts.length tc)).setCell ⟨w.heap.size, 0, none⟩ (.int .i64 time) := ⟨_, rfl⟩
      rw [← hW3]
      have hB3 : Below w.heap.size w W3 := by rw [hW3]; exact (((hB2.setCell (p := ⟨w.heap.size, 0, none⟩) (by simp) _).setCell (p := ⟨w.heap.size, 1, none⟩) (by simp) _).setCell (p := ⟨w.heap.size, 2, none⟩) (by simp) _).setCell (p := ⟨w.heap.size, 0, none⟩) (by simp) _
      have hs3 : w2.heap.size ≤ W3.heap.size := by rw [hW3]; simp
      have X3 := X2.put now sq (.slice (some ⟨g, 0, none⟩) ts.length tc)
      have y0 : W3.cell? ⟨w.heap.size, 0, none⟩ = some (.int .i64 time) := by rw [hW3]; exact World.cell?_setCell_same' _ _ _ (by rw [X3.b0]; rfl)
      have y1 : W3.cell? ⟨w.heap.size, 1, none⟩ = some (.int .i64 sq) := by rw [hW3, World.cell?_setCell_other _ _ _ _ (by simp)]; exact X3.b1
      have y2 : W3.cell? ⟨w.heap.size, 2, none⟩ = some (.slice (some ⟨g, 0, none⟩) ts.length tc) := by rw [hW3, World.cell?_setCell_other _ _ _ _ (by simp)]; exact X3.b2
      have yf : W3.frozen? ⟨w.heap.size, 2, none⟩ = false := by rw [hW3, World.frozen?_setCell]; exact X3.bf2
      have z0 : W3.cell? ⟨w.heap.size + 1, 0, none⟩ = some (.int .i64 0) := by rw [hW3, World.cell?_setCell_other _ _ _ _ (by simp)]; exact X3.r0
      have z1 : W3.cell? ⟨w.heap.size + 1, 1, none⟩ = some (.int .i64 0) := by rw [hW3, World.cell?_setCell_other _ _ _ _ (by simp)]; exact X3.r1
      have z2 : W3.cell? ⟨w.heap.size + 1, 2, none⟩ = some (.slice none 0 0) := by rw [hW3, World.cell?_setCell_other _ _ _ _ (by simp)]; exact X3.r2
      have zf0 : W3.frozen? ⟨w.heap.size + 1, 0, none⟩ = false := by rw [hW3, World.frozen?_setCell]; exact X3.f0
      have zf1 : W3.frozen? ⟨w.heap.size + 1, 1, none⟩ = false := by rw [hW3, World.frozen?_setCell]; exact X3.f1
      have zf2 : W3.frozen? ⟨w.heap.size + 1, 2, none⟩ = false := by rw [hW3, World.frozen?_setCell]; exact X3.f2
      have hF3 : FreshC (w.heap.size + 1 + 1) w2.heap.size W3 (some ⟨g, 0, none⟩) tc ts := by
        rw [hW3]; exact (((HF.out.setBelow (a := ⟨w.heap.size, 0, none⟩) (by simp; omega) _).setBelow (a := ⟨w.heap.size, 1, none⟩) (by simp; omega) _).setBelow (a := ⟨w.heap.size, 2, none⟩) (by simp; omega) _).setBelow (a := ⟨w.heap.size, 0, none⟩) (by simp; omega) _
      have htc := hF3.cap
      have HT3 : Hid (ts = [] ∨ (w.heap.size + 1 + 1 ≤ g ∧ g < W3.heap.size ∧ ∀ i, i < ts.length → W3.cell? ⟨g, i * 3, none⟩ = some (.int .i64 (t3 ts i).1) ∧ W3.cell? ⟨g, i * 3 + 1, none⟩ = some (.int .i64 (t3 ts i).2.1) ∧ W3.cell? ⟨g, i * 3 + 2, none⟩ = some (.int .i64 (t3 ts i).2.2))) := by
        rcases hF3 with h | ⟨g', xs, e, _, ho, hp⟩
        · exact .inl h
        · cases e
          refine .inr ⟨(owns_lt ho).1, (owns_lt ho).2, fun i hi => ⟨?_, ?_, ?_⟩⟩
          · rw [ho.cellAt (i * 3) (by omega)]; exact (hp i hi).1
          · rw [ho.cellAt (i * 3 + 1) (by omega)]; exact (hp i hi).2.1
          · rw [ho.cellAt (i * 3 + 2) (by omega)]; exact (hp i hi).2.2
      have hlt3 : w.heap.size + 1 < W3.heap.size := by omega
      clear hW3 X2 X3 HF hF3 c0 c1 c2 cf0 cf1 cf2 m0 m1 m2 n0 n1 n2 l2
      go_loopw [7] (fun z wr => ∃ (j m off c : Nat) (vz : Value), vz = z ∧ j + m = ts.length ∧ m ≤ c ∧ wr.cell? ⟨w.heap.size, 0, none⟩ = some (.int .i64 time) ∧ wr.cell? ⟨w.heap.size, 1, none⟩ = some (.int .i64 sq) ∧ wr.cell? ⟨w.heap.size, 2, none⟩ = some (.slice (some ⟨g, off, none⟩) m c) ∧ wr.frozen? ⟨w.heap.size, 2, none⟩ = false ∧ Hid ((m = 0 ∨ off = j * 3) ∧ (∀ i, i < j → (t3 ts i).2.1 ≤ time) ∧ OwnZ W3.heap.size wr vz (idsT (ts.take j))) ∧ Between w.heap.size (w.heap.size + 1) W3 wr) (fun z _ => ts.length - lenV z)
      case atStart => exact ⟨0, ts.length, 0, tc, .slice none 0 0, rfl, by omega, htc, y0, y1, y2, yf, ⟨.inr (by omega), fun i hi => by omega, OwnZ.nil _ _⟩, Between.refl _ _ _⟩
      case round =>
        obtain ⟨j, m, off, c, vz, rfl, hjm, hmc, d0, d1, d2, df, hI, hX⟩ := hrel
        have hsX := hX.size
        have blk : ∀ k, k < W3.heap.size → k ≠ w.heap.size → wr.heap[k]? = W3.heap[k]? := fun k h1 h2 => hX.block1 k h1 h2
        have a0 := (World.cell?_of_block (a := ⟨w.heap.size + 1, 0, none⟩) (blk (w.heap.size + 1) hlt3 (by omega))).trans z0
        have a1 := (World.cell?_of_block (a := ⟨w.heap.size + 1, 1, none⟩) (blk (w.heap.size + 1) hlt3 (by omega))).trans z1
        have a2 := (World.cell?_of_block (a := ⟨w.heap.size + 1, 2, none⟩) (blk (w.heap.size + 1) hlt3 (by omega))).trans z2
        have af0 := (World.frozen?_of_block (a := ⟨w.heap.size + 1, 0, none⟩) (blk (w.heap.size + 1) hlt3 (by omega))).trans zf0
        have af1 := (World.frozen?_of_block (a := ⟨w.heap.size + 1, 1, none⟩) (blk (w.heap.size + 1) hlt3 (by omega))).trans zf1
        have af2 := (World.frozen?_of_block (a := ⟨w.heap.size + 1, 2, none⟩) (blk (w.heap.size + 1) hlt3 (by omega))).trans zf2
        have hlr : w.heap.size + 1 < wr.heap.size := by omega
        have hBr : Below w.heap.size w wr := hB3.trans (hX.below (by omega))
        have hlen : lenV vz = j := by rw [hI.out.2.2.lenV]; exact ids_len ts j (by omega)
        have HLE : Hid (lenV vz = j) := hlen
        have HTR : Hid (TimersIn wr.heap.size wr (some ⟨g, off, none⟩) (ts.drop j)) := by
          by_cases hm : m = 0
          · exact .inl (List.drop_eq_nil_of_le (by omega))
          · rcases HT3.out with h | ⟨hg1, hg2, hc⟩
            · rw [h] at hjm; simp at hjm; omega
            · have ho : off = j * 3 := by rcases hI.out.1 with h | h <;> omega
              refine .inr ⟨g, off, rfl, by omega, fun i hi => ?_⟩
              have hi' : j + i < ts.length := by simp at hi; omega
              rw [t3_drop, ho, show j * 3 + i * 3 = (j + i) * 3 from by omega]
              obtain ⟨q1, q2, q3⟩ := hc (j + i) hi'
              exact ⟨(World.cell?_of_block (a := ⟨g, (j + i) * 3, none⟩) (blk g hg2 (by omega))).trans q1, (World.cell?_of_block (a := ⟨g, (j + i) * 3 + 1, none⟩) (blk g hg2 (by omega))).trans q2, (World.cell?_of_block (a := ⟨g, (j + i) * 3 + 2, none⟩) (blk g hg2 (by omega))).trans q3⟩
        have hdl : (ts.drop j).length = m := by simp; omega
        have hml : m ≤ 1048576 := by omega
        clear hlen
        by_cases hm : m = 0
        · have hm1 : decide (0 < m) = false := by simp; omega
          have hm2 : decide ((0 : Int) < (m : Int)) = false := by simp; omega
          have HRE := HR1.out j (Ins.eq ⟨by omega, hI.out.2.1, fun h => by omega⟩)
          have HR2 : Hid (R = (time, sq, ts.drop j, idsT (ts.take j), 0)) := HRE
          clear HRE hm
          go_wp2_with fail
          refine (l2Own_n time sq ⟨g, off, none⟩ m c (ts.drop j) wr hdl hml HTR.out).mono ?_
          rintro e w6 ⟨⟨to6, tc6, rfl, hF6⟩, hb6⟩
          have hB6 := hBr.trans (hb6.mono hBr.size)
          obtain ⟨qo, qc, rfl, hFq⟩ := hI.out.2.2.fresh
          have k0 := (hb6.cell (p := ⟨w.heap.size + 1, 0, none⟩) hlr).trans a0
          have k1 := (hb6.cell (p := ⟨w.heap.size + 1, 1, none⟩) hlr).trans a1
          have k2 := (hb6.cell (p := ⟨w.heap.size + 1, 2, none⟩) hlr).trans a2
          have kf0 := (hb6.frozen (p := ⟨w.heap.size + 1, 0, none⟩) hlr).trans af0
          have kf1 := (hb6.frozen (p := ⟨w.heap.size + 1, 1, none⟩) hlr).trans af1
          have kf2 := (hb6.frozen (p := ⟨w.heap.size + 1, 2, none⟩) hlr).trans af2
          have HFF : Hid (FreshC (w.heap.size + 1 + 1) w6.heap.size w6 to6 tc6 (ts.drop j) ∧ FreshI (w.heap.size + 1 + 1) w6.heap.size w6 qo qc (idsT (ts.take j)) ∧ (ts.drop j).length = m) := ⟨hF6.wide (by omega) (Nat.le_refl _), (hFq.later hb6).wide (by omega) hb6.size, hdl⟩
          clear hF6 hFq hb6 hdl
          generalize hQ : idsT (ts.take j) = I at *
          generalize hE : ts.drop j = E at *
          clear hQ hE
          go_wp2
          refine bodyPost_ret (v := .tuple #[.agg #[.int .i64 time, .int .i64 sq, .slice to6 m tc6], .slice qo I.length qc, .int .i64 0]) (by simp [results, Try.results6, go_sem, k0, k1, k2]) rfl ?_
          rw [HR2.out]
          have hA := ansA_of (now := time) (sq := sq) (c := 0) hB6 HFF.out.1 HFF.out.2.1 (.int .i64 time) (.int .i64 sq) (.slice to6 m tc6)
          rw [HFF.out.2.2] at hA
          exact hA
        · have hm1 : 0 < m := by omega
          have hm2 : (0 : Int) < (m : Int) := by omega
          obtain ⟨b', off', eb, hb', hc⟩ := HTR.out.pos (k := 0) (by omega)
          cases eb
          obtain ⟨q1, q2, q3⟩ := hc 0 (by omega)
          simp only [Nat.zero_mul, Nat.add_zero, t3_drop] at q1 q2
          clear q3 hc
          obtain ⟨x1, ex1⟩ : ∃ x, x = (t3 ts j).1 := ⟨_, rfl⟩
          obtain ⟨x2, ex2⟩ : ∃ x, x = (t3 ts j).2.1 := ⟨_, rfl⟩
          rw [← ex1] at q1
          rw [← ex2] at q2
          have HX1 : Hid (x1 = (t3 ts j).1 ∧ x2 = (t3 ts j).2.1) := ⟨ex1, ex2⟩
          clear ex1 ex2
          by_cases hle : x2 ≤ time
          · have hcw : (wr.alloc (.cells #[.int .i64 x1] 3)).cell? ⟨wr.heap.size, 0, none⟩ = some (.int .i64 x1) := by simp
            have HOA : Hid (OwnZ W3.heap.size (wr.alloc (.cells #[.int .i64 x1] 3)) vz (idsT (ts.take j))) := hI.out.2.2.below (below1 _ _)
            have hil : (idsT (ts.take j)).length ≤ 1048576 := by rw [ids_len ts j (by omega)]; omega
            have hmi : (1 : Int) ≤ (m : Int) := by omega
            have HSN : Hid (idsT (ts.take (j + 1)) = idsT (ts.take j) ++ [x1]) := by rw [Hid, HX1.out.1]; exact ids_snoc ts j (by omega)
            go_wp2_with (at_builtin; refine wpList_pushZ (wr.alloc (.cells #[.int .i64 x1] 3)) rfl (.tmp 34) (.tmp 40) rfl W3.heap.size vz (idsT (ts.take j)) rfl HOA.out (by simp; omega) hil wr.heap.size x1 1 rfl hcw ?_; intro v5 w5 hO5 hB5; have hB6 : Below W3.heap.size wr w5 := (((below1 wr _).mono hsX).trans hB5); have HO5 : Hid (OwnZ W3.heap.size w5 v5 (idsT (ts.take (j + 1))) ∧ Below W3.heap.size wr w5) := ⟨(by rw [HSN.out]; exact hO5), hB6⟩; have e0 := (hB6.cell (p := ⟨w.heap.size, 0, none⟩) (by simp; omega)).trans d0; have e1 := (hB6.cell (p := ⟨w.heap.size, 1, none⟩) (by simp; omega)).trans d1; have e2 := (hB6.cell (p := ⟨w.heap.size, 2, none⟩) (by simp; omega)).trans d2; have ef := (hB6.frozen (p := ⟨w.heap.size, 2, none⟩) (by simp; omega)).trans df; clear hO5 hB5 hB6)
            have hb5 := HO5.out.2
            have hs5 := hb5.size
            have HM : Hid ((m - 1 = 0 ∨ (if c = 1 then off else off + 3) = (j + 1) * 3) ∧ (∀ i, i < j + 1 → (t3 ts i).2.1 ≤ time)) := by
              refine ⟨?_, fun i hi => ?_⟩
              · by_cases e : c = 1
                · exact .inl (by omega)
                · refine .inr ?_
                  rw [if_neg e]
                  rcases hI.out.1 with h | h <;> omega
              · rcases Nat.lt_succ_iff_lt_or_eq.1 hi with h | rfl
                · exact hI.out.2.1 i h
                · rw [← HX1.out.2]; exact hle
            have HV : Hid (Value.slice (if c = 1 then some (⟨g, off, none⟩ : Addr) else some ⟨g, off + 3, none⟩) (m - 1) (c - 1) = .slice (some ⟨g, if c = 1 then off else off + 3, none⟩) (m - 1) (c - 1)) := by
              by_cases e : c = 1 <;> simp [Hid, e]
            have HL5 : Hid (lenV v5 = j + 1) := by rw [Hid, HO5.out.1.lenV]; exact ids_len ts (j + 1) (by omega)
            go_roundw
            case rel => exact ⟨j + 1, m - 1, if c = 1 then off else off + 3, c - 1, v5, rfl, by omega, by omega, by rw [World.cell?_setCell_other _ _ _ _ (by simp)]; exact e0, by rw [World.cell?_setCell_other _ _ _ _ (by simp)]; exact e1, by rw [← HV.out]; exact World.cell?_setCell_same' _ _ _ (by rw [e2]; rfl), by rw [World.frozen?_setCell]; exact ef, ⟨HM.out.1, HM.out.2, HO5.out.1.keepG (fun g' e' => Below.heap_setCell _ _ _ _ (by have := HO5.out.1.low g' e'; simp; omega))⟩, ⟨hb5.os.trans hX.os, hb5.tape.trans hX.tape, hb5.output.trans hX.output, by simp; omega, fun k hk hr => (Below.heap_setCell _ _ _ _ (by simp; omega)).trans ((hb5.block k hk).trans (hX.block k hk hr))⟩⟩
            case measure =>
              have h1 := HLE.out
              have h2 := HL5.out
              rw [h1, h2]; omega
          · have hle' : decide (x2 ≤ time) = false := by simpa using hle
            have HRE := HR1.out j (Ins.eq ⟨by omega, hI.out.2.1, fun _ => by rw [← HX1.out.2]; omega⟩)
            have HR2 : Hid (R = (time, sq, ts.drop j, idsT (ts.take j), 0)) := HRE
            clear HRE hle
            go_wp2_with fail
            refine (l2Own_n time sq ⟨g, off, none⟩ m c (ts.drop j) wr hdl hml HTR.out).mono ?_
            rintro e w6 ⟨⟨to6, tc6, rfl, hF6⟩, hb6⟩
            have hB6 := hBr.trans (hb6.mono hBr.size)
            obtain ⟨qo, qc, rfl, hFq⟩ := hI.out.2.2.fresh
            have k0 := (hb6.cell (p := ⟨w.heap.size + 1, 0, none⟩) hlr).trans a0
            have k1 := (hb6.cell (p := ⟨w.heap.size + 1, 1, none⟩) hlr).trans a1
            have k2 := (hb6.cell (p := ⟨w.heap.size + 1, 2, none⟩) hlr).trans a2
            have kf0 := (hb6.frozen (p := ⟨w.heap.size + 1, 0, none⟩) hlr).trans af0
            have kf1 := (hb6.frozen (p := ⟨w.heap.size + 1, 1, none⟩) hlr).trans af1
            have kf2 := (hb6.frozen (p := ⟨w.heap.size + 1, 2, none⟩) hlr).trans af2
            have HFF : Hid (FreshC (w.heap.size + 1 + 1) w6.heap.size w6 to6 tc6 (ts.drop j) ∧ FreshI (w.heap.size + 1 + 1) w6.heap.size w6 qo qc (idsT (ts.take j)) ∧ (ts.drop j).length = m) := ⟨hF6.wide (by omega) (Nat.le_refl _), (hFq.later hb6).wide (by omega) hb6.size, hdl⟩
            clear hF6 hFq hb6 hdl
            generalize hQ : idsT (ts.take j) = I at *
            generalize hE : ts.drop j = E at *
            clear hQ hE
            go_wp2
            refine bodyPost_ret (v := .tuple #[.agg #[.int .i64 time, .int .i64 sq, .slice to6 m tc6], .slice qo I.length qc, .int .i64 0]) (by simp [results, Try.results6, go_sem, k0, k1, k2]) rfl ?_
            rw [HR2.out]
            have hA := ansA_of (now := time) (sq := sq) (c := 0) hB6 HFF.out.1 HFF.out.2.1 (.int .i64 time) (.int .i64 sq) (.slice to6 m tc6)
            rw [HFF.out.2.2] at hA
            exact hA
end Go.Proofs.Ytpbgkkemaioidaa.Old
