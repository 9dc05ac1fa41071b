
/- Hubs that are good: plain facts, and the specification. No conditions but those written. -/
import Derived.Test.YtlnjhajdbofhlaaKd
namespace Go.Proofs.Ytlnjhajdbofhlaa
open Go.RowKit

def pairs (l : List (Int × Int × Int)) : List (Int × Int) := l.map fun x => (x.1, x.2.1)
/-- A hub is good. -/
def goodHB (ps : List PChan) : Bool := decide (ps.length ≤ 8) && ps.all goodP && decide ((pairs (wts ps)).Nodup)
theorem goodHB_long {ps : List PChan} (h : 8 < ps.length) : goodHB ps = false := by
  have : decide (ps.length ≤ 8) = false := by simp; omega
  simp [goodHB, this]
theorem goodHB_bad {ps : List PChan} {c : PChan} (hc : c ∈ ps) (h : goodP c = false) : goodHB ps = false := by
  have : ps.all goodP = false := List.all_eq_false.2 ⟨c, hc, by simp [h]⟩
  simp [goodHB, this]
theorem goodHB_dup {ps : List PChan} (h : ¬ (pairs (wts ps)).Nodup) : goodHB ps = false := by simp [goodHB, h]
theorem goodHB_yes {ps : List PChan} (h8 : ps.length ≤ 8) (h : ∀ c ∈ ps, goodP c = true) (hn : (pairs (wts ps)).Nodup) : goodHB ps = true := by
  have : ps.all goodP = true := List.all_eq_true.2 h
  simp [goodHB, h8, this, hn]
theorem goodHB_all {ps : List PChan} (h : goodHB ps = true) : ps.length ≤ 8 ∧ (∀ c ∈ ps, goodP c = true) ∧ (pairs (wts ps)).Nodup := by
  simp only [goodHB, Bool.and_eq_true, decide_eq_true_eq, List.all_eq_true] at h
  exact ⟨h.1.1, h.1.2, h.2⟩
theorem wtB_is {x : Int × Int × Int} (h : Old.wtB x = true) : 0 ≤ x.1 ∧ x.1 ≤ 29 ∧ 0 ≤ x.2.1 ∧ x.2.1 ≤ 9 := by
  simp only [Old.wtB, Bool.and_eq_true, decide_eq_true_eq] at h; omega
theorem goodP_wts {c : PChan} (h : goodP c = true) : ∀ x ∈ c.2.2.2.1 ++ c.2.2.2.2, 0 ≤ x.1 ∧ x.1 ≤ 29 ∧ 0 ≤ x.2.1 ∧ x.2.1 ≤ 9 := by
  intro x hx
  simp only [goodP, Old.goodC, Old.rowB, Bool.and_eq_true, List.all_eq_true] at h
  rcases List.mem_append.1 hx with hx | hx
  · exact wtB_is (h.1.1.2.1.2 x hx)
  · have := h.1.1.2.2.2 x hx
    simp only [Old.rcB, Bool.and_eq_true] at this
    exact wtB_is this.1
theorem wts_ok {ps : List PChan} (h : ∀ c ∈ ps, goodP c = true) : ∀ x ∈ wts ps, 0 ≤ x.1 ∧ x.1 ≤ 29 ∧ 0 ≤ x.2.1 ∧ x.2.1 ≤ 9 := by
  intro x hx
  obtain ⟨c, h1, h2⟩ := List.mem_flatMap.1 hx
  exact goodP_wts (h c h1) x h2
theorem pairs_iff {l : List (Int × Int × Int)} (h : ∀ x ∈ l, 0 ≤ x.1 ∧ x.1 ≤ 29 ∧ 0 ≤ x.2.1 ∧ x.2.1 ≤ 9) : (pairs l).Nodup ↔ ∀ t : Nat, t < 30 → (stands (t : Int) l).Nodup := by
  unfold pairs stands List.Nodup
  rw [List.pairwise_map]
  constructor
  · intro hp t _
    rw [List.pairwise_map, List.pairwise_filter]
    refine hp.imp fun {a b} hab ha hb e => hab ?_
    simp at ha hb
    rw [ha, hb, e]
  · intro hp
    rw [List.pairwise_iff_getElem]
    intro i j hi hj hij e
    have hx := h _ (List.getElem_mem hi)
    have := hp (l[i].1).toNat (by omega)
    rw [List.pairwise_map, List.pairwise_filter, List.pairwise_iff_getElem] at this
    simp only [Prod.mk.injEq] at e
    refine this i j hi hj hij ?_ ?_ e.2
    · simp; omega
    · simp; omega
theorem nodup_no {l : List Int} {i : Nat} (hi : i < l.length) (h : hasB (l.take i) (el l i) = true) : ¬ l.Nodup := by
  intro hn
  simp only [hasB, decide_eq_true_eq] at h
  obtain ⟨j, hj, e⟩ := List.mem_iff_getElem.1 h
  simp at hj
  rw [el_at hi] at e
  have := (List.pairwise_iff_getElem.1 hn) j i (by omega) hi (by omega)
  simp at e
  exact this e
theorem nodup_yes {l : List Int} (h : ∀ i, i < l.length → hasB (l.take i) (el l i) = false) : l.Nodup := by
  unfold List.Nodup
  rw [List.pairwise_iff_getElem]
  intro i j hi hj hij e
  have := h j hj
  simp only [hasB, decide_eq_false_iff_not, el_at hj] at this
  refine this ?_
  rw [← e]
  exact List.mem_iff_getElem.2 ⟨i, by simp; omega, by simp⟩
theorem el_val {ts : List LChan} {k : Nat} (h : k < ts.length) : valChan (el ts k) ∈ ts.map valChan := List.mem_map.2 ⟨_, el_mem h, rfl⟩
theorem goodH_all {ts : List LChan} (h : ∀ j, j < ts.length → goodP (valChan (el ts j)) = true) : ∀ c ∈ ts.map valChan, goodP c = true := by
  intro c hc
  obtain ⟨a, ha, rfl⟩ := List.mem_map.1 hc
  obtain ⟨j, hj, rfl⟩ := mem_el ha
  exact h j hj
set_option maxRecDepth 10000 in
set_option maxHeartbeats 16000000 in
theorem specGoodH_is (ao : Option Addr) (cap : Nat) (ts : List LChan) (w : World) (x : Bool) (hl : ts.length ≤ 1048576) (ht : totChan ts ≤ 1048576) (hz : DIn dChan w.heap.size w ao ts) (hx : goodHB (ts.map valChan) = x) :
    Calls Try.prog 27 #[.agg #[.slice ao ts.length cap]] w fun e w' => e = .returned (.bool x) ∧ Below w.heap.size w w' := by
  have HX := hid hx
  have HZ := hid hz
  have hft := fits_of ht
  clear hx hz
  have hB0 := below1 w (.cells #[.slice ao ts.length cap] 56)
  have X0 := hid (Bx.new (w := w) (p := w.heap.size) [.slice ao ts.length cap] 56 rfl)
  by_cases h8 : 8 < ts.length
  · have h8' : decide ((8 : Int) < (ts.length : Int)) = true := by simp; omega
    have HN : Hid (x = false) := by rw [Hid, ← HX.out]; exact goodHB_long (by simpa using h8)
    clear h8
    go_enter Try.func27, Try.ntmps27
    go_wp2
    go_ret
    exact ⟨ret_bool HN.out.symm, hB0⟩
  have h8' : decide ((8 : Int) < (ts.length : Int)) = false := by simp; omega
  have h88 : ts.length ≤ 8 := by omega
  clear h8
  go_enter Try.func27, Try.ntmps27
  go_wp2
  go_loopw [16] (fun i wr => ∃ k : Nat, k ≤ ts.length ∧ i = .int .i64 k ∧ Below w.heap.size w wr ∧ Hid (Bx wr w.heap.size [.slice ao ts.length cap]) ∧ Hid (∀ j, j < k → goodP (valChan (el ts j)) = true)) (fun i _ => ts.length - (intOf i).toNat)
  case atStart => exact ⟨0, Nat.zero_le _, rfl, hB0, X0, fun j hj => by omega⟩
  case round =>
    clear hB0 X0
    obtain ⟨k, hk, rfl, hB, hX, hno⟩ := hrel
    by_cases hlt : k < ts.length
    · obtain ⟨b0, off, rfl, hb, hc⟩ := hChan_at HZ.out.1 hlt
      have d1 := (hB.cell (p := ⟨b0, off + k * 5, none⟩) hb).trans (hc k hlt).1
      have d2 := (hB.cell (p := ⟨b0, off + k * 5 + 1, none⟩) hb).trans (hc k hlt).2.1
      have d3 := (hB.cell (p := ⟨b0, off + k * 5 + 2, none⟩) hb).trans (hc k hlt).2.2.1
      have d4 := (hB.cell (p := ⟨b0, off + k * 5 + 3, none⟩) hb).trans (hc k hlt).2.2.2.1
      have d5 := (hB.cell (p := ⟨b0, off + k * 5 + 4, none⟩) hb).trans (hc k hlt).2.2.2.2
      have hI := HZ.out.2 k hlt
      have hfk := hft _ (el_mem hlt)
      obtain ⟨⟨kap, cl, ⟨bo, bc, b⟩, ⟨so, sc, s⟩, ⟨ro, rc, r⟩⟩, ex⟩ : ∃ v, v = el ts k := ⟨_, rfl⟩
      have HE := hid ex
      rw [← ex] at d1 d2 d3 d4 d5 hI hfk
      clear ex hc
      dsimp only at d1 d2 d3 d4 d5 hfk
      have hbA := Below.allocS hB (.cells #[.int .i64 kap, .bool cl, .slice bo b.length bc, .slice so s.length sc, .slice ro r.length rc] 26)
      have hXA := hid (hX.out.alloc (.cells #[.int .i64 kap, .bool cl, .slice bo b.length bc, .slice so s.length sc, .slice ro r.length rc] 26))
      have HI : Hid (InChan (wr.alloc (.cells #[.int .i64 kap, .bool cl, .slice bo b.length bc, .slice so s.length sc, .slice ro r.length rc] 26)).heap.size (wr.alloc (.cells #[.int .i64 kap, .bool cl, .slice bo b.length bc, .slice so s.length sc, .slice ro r.length rc] 26)) bo b so s ro r) := InChan.up (InChan.below hI hbA) hbA.size
      clear hI hX
      rcases hg : goodP (kap, cl, b, s, r) with _ | _
      · have HG := hid hg
        clear hg
        go_wp2_with fail
        refine (specGoodC_is kap cl bo bc b so sc s ro rc r _ _ hfk.1 hfk.2.1 hfk.2.2 HI.out HG.out).mono ?_
        rintro e w1 ⟨rfl, hb1⟩
        have hB1 := hbA.trans (hb1.mono hbA.size)
        clear hb1
        go_wp2
        go_ret
        refine ⟨ret_bool ?_, hB1⟩
        rw [← HX.out, goodHB_bad (el_val hlt) (by rw [← HE.out]; exact HG.out)]
      · have HG := hid hg
        clear hg
        go_wp2_with fail
        refine (specGoodC_is kap cl bo bc b so sc s ro rc r _ _ hfk.1 hfk.2.1 hfk.2.2 HI.out HG.out).mono ?_
        rintro e w1 ⟨rfl, hb1⟩
        have hB1 := hbA.trans (hb1.mono hbA.size)
        have hX1 := hid (hXA.out.later hb1)
        clear hb1 hXA
        go_wp2
        go_roundw
        case rel => exact ⟨k + 1, by omega, by go_num, hB1, hX1, fun j hj => by
          rcases Nat.lt_succ_iff_lt_or_eq.1 hj with h | rfl
          · exact hno.out j h
          · rw [← HE.out]; exact HG.out⟩
        case measure => simp [intOf]; omega
    · obtain rfl : k = ts.length := by omega
      have HALL := hid (goodH_all hno.out)
      have HIFF := hid (pairs_iff (wts_ok HALL.out))
      clear hno hlt hk
      go_wp2
      go_loopw [5] (fun i wr => ∃ t : Nat, t ≤ 30 ∧ i = .int .i64 t ∧ Below w.heap.size w wr ∧ Hid (Bx wr w.heap.size [.slice ao ts.length cap]) ∧ Hid (∀ u : Nat, u < t → (stands (u : Int) (wts (ts.map valChan))).Nodup)) (fun i _ => 30 - (intOf i).toNat)
      case atStart => exact ⟨0, Nat.zero_le _, rfl, hB, hX, fun j hj => by omega⟩
      case round =>
        clear hB hX
        obtain ⟨t, htl, rfl, hB, hX, hno⟩ := hrel
        by_cases ht3 : t < 30
        · have ht3' : decide ((t : Int) < 30) = true := by simp; omega
          have x0 := hX.out.c 0 rfl
          have HZr := hid (HZ.out.later dChan_ok hB)
          go_wp2_with fail
          clear x0
          refine (stands_any ao cap ts (t : Int) wr hl ht HZr.out).mono ?_
          rintro e w1 ⟨⟨o, c, rfl, _, hF⟩, hb1⟩
          have hB1 := hB.trans (hb1.mono hB.size)
          have hX1 := hid (hX.out.later hb1)
          have hsl := Nat.le_trans (stands_le (t : Int) (wts (ts.map valChan))) (wts_len ts)
          generalize hL : stands (t : Int) (wts (ts.map valChan)) = L at hF hsl
          have HL := hid hL
          have hcap := hF.cap
          have HF := hid hF.in
          clear hL hF hb1 hX hB HZr
          go_wp2
          go_loop [33] (fun i => ∃ k : Nat, k ≤ L.length ∧ i = .int .i64 k ∧ Hid (∀ j, j < k → hasB (L.take j) (el L j) = false)) (fun i => L.length - (intOf i).toNat)
          case atStart => exact ⟨0, Nat.zero_le _, rfl, fun j hj => by omega⟩
          case round =>
            obtain ⟨k, hk, rfl, hnd⟩ := hrel
            by_cases hlt : k < L.length
            · obtain ⟨b2, of2, rfl, hb2, hc2⟩ := ints_at HF.out hlt
              have e1 := hc2 k hlt
              have HIT := hid (HF.out.take k)
              have htk : (L.take k).length = k := by simp; omega
              obtain ⟨y, hy⟩ : ∃ y, y = el L k := ⟨_, rfl⟩
              rw [← hy] at e1
              have HY := hid hy
              clear hy hc2
              rcases hh : hasB (L.take k) y with _ | _
              · have HH := hid (l1Has_is _ (some ⟨b2, of2, none⟩) c (L.take k) y w1 false (by omega) HIT.out hh)
                rw [htk] at HH
                have HHN := hid hh
                clear hh htk
                go_wp2_with fail
                refine (HH.out).mono ?_
                rintro e wx ⟨rfl, hws⟩
                rw [hws]; clear hws wx
                go_wp2
                go_round
                case rel => exact ⟨k + 1, by omega, by go_num, fun j hj => by
                  rcases Nat.lt_succ_iff_lt_or_eq.1 hj with h | rfl
                  · exact hnd.out j h
                  · rw [← HY.out]; exact HHN.out⟩
                case measure => simp [intOf]; omega
              · have HH := hid (l1Has_is _ (some ⟨b2, of2, none⟩) c (L.take k) y w1 true (by omega) HIT.out hh)
                rw [htk] at HH
                have HHN : Hid (¬ L.Nodup) := nodup_no hlt (by rw [← HY.out]; exact hh)
                clear hh htk
                go_wp2_with fail
                refine (HH.out).mono ?_
                rintro e wx ⟨rfl, hws⟩
                rw [hws]; clear hws wx
                go_wp2
                go_ret
                refine ⟨ret_bool ?_, hB1⟩
                rw [← HX.out, goodHB_dup]
                intro hn
                have := HIFF.out.1 hn t ht3
                rw [HL.out] at this
                exact HHN.out this
            · obtain rfl : k = L.length := by omega
              have HN2 := hid (nodup_yes hnd.out)
              clear hnd hk hlt
              go_wp2
              go_roundw
              case rel => exact ⟨t + 1, by omega, by go_num, hB1, hX1, fun u hu => by
                rcases Nat.lt_succ_iff_lt_or_eq.1 hu with h | rfl
                · exact hno.out u h
                · rw [HL.out]; exact HN2.out⟩
              case measure => simp [intOf]; omega
        · obtain rfl : t = 30 := by omega
          go_wp2
          go_ret
          refine ⟨ret_bool ?_, hB⟩
          rw [← HX.out, goodHB_yes (by simpa using h88) HALL.out (HIFF.out.2 hno.out)]
end Go.Proofs.Ytlnjhajdbofhlaa
