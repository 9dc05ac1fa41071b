/- Hubs that are good: plain facts, and the specification. No conditions but those written. At how many places each task waits; those that are kept. No conditions but those written. -/
import Derived.Test.YtdjdbcfcccbhpaaPVaMp
import Derived.Test.YtdjdbcfcccbhpaaKg
import Derived.Test.YtdjdbcfcccbhpaaPKmKn
namespace Go.Proofs.Ytdjdbcfcccbhpaa
section
open Go.RowKit

def pairs (l : List (Int × Int × Int)) : List (Int × Int) := l.map fun x => (x.1, x.2.1)
/-- A hub is good. -/
def goodHB (ps : List PChan) : Bool := decide (ps.length ≤ 8) && ps.all goodP && decide ((pairs (wts ps)).Nodup)
theorem goodHB_long {ps : List PChan} (h : 8 < ps.length) : goodHB ps = false := by
  have : decide (ps.length ≤ 8) = false := by simp; omega
  simp [goodHB, this]
theorem goodHB_bad {ps : List PChan} {c : PChan} (hc : c ∈ ps) (h : goodP c = false) : goodHB ps = false := by
  have : ps.all goodP = false := List.all_eq_false.2 ⟨c, hc, by simp [h]⟩
  simp [goodHB, this]
theorem goodHB_dup {ps : List PChan} (h : ¬ (pairs (wts ps)).Nodup) : goodHB ps = false := by simp [goodHB, h]
theorem goodHB_yes {ps : List PChan} (h8 : ps.length ≤ 8) (h : ∀ c ∈ ps, goodP c = true) (hn : (pairs (wts ps)).Nodup) : goodHB ps = true := by
  have : ps.all goodP = true := List.all_eq_true.2 h
  simp [goodHB, h8, this, hn]
theorem goodHB_all {ps : List PChan} (h : goodHB ps = true) : ps.length ≤ 8 ∧ (∀ c ∈ ps, goodP c = true) ∧ (pairs (wts ps)).Nodup := by
  simp only [goodHB, Bool.and_eq_true, decide_eq_true_eq, List.all_eq_true] at h
  exact ⟨h.1.1, h.1.2, h.2⟩
theorem wtB_is {x : Int × Int × Int} (h : Old.wtB x = true) : 0 ≤ x.1 ∧ x.1 ≤ 29 ∧ 0 ≤ x.2.1 ∧ x.2.1 ≤ 9 := by
  simp only [Old.wtB, Bool.and_eq_true, decide_eq_true_eq] at h; omega
theorem goodP_wts {c : PChan} (h : goodP c = true) : ∀ x ∈ c.2.2.2.1 ++ c.2.2.2.2, 0 ≤ x.1 ∧ x.1 ≤ 29 ∧ 0 ≤ x.2.1 ∧ x.2.1 ≤ 9 := by
  intro x hx
  simp only [goodP, Old.goodC, Old.rowB, Bool.and_eq_true, List.all_eq_true] at h
  rcases List.mem_append.1 hx with hx | hx
  · exact wtB_is (h.1.1.2.1.2 x hx)
  · have := h.1.1.2.2.2 x hx
    simp only [Old.rcB, Bool.and_eq_true] at this
    exact wtB_is this.1
theorem wts_ok {ps : List PChan} (h : ∀ c ∈ ps, goodP c = true) : ∀ x ∈ wts ps, 0 ≤ x.1 ∧ x.1 ≤ 29 ∧ 0 ≤ x.2.1 ∧ x.2.1 ≤ 9 := by
  intro x hx
  obtain ⟨c, h1, h2⟩ := List.mem_flatMap.1 hx
  exact goodP_wts (h c h1) x h2
theorem pairs_iff {l : List (Int × Int × Int)} (h : ∀ x ∈ l, 0 ≤ x.1 ∧ x.1 ≤ 29 ∧ 0 ≤ x.2.1 ∧ x.2.1 ≤ 9) : (pairs l).Nodup ↔ ∀ t : Nat, t < 30 → (stands (t : Int) l).Nodup := by
  unfold pairs stands List.Nodup
  rw [List.pairwise_map]
  constructor
  · intro hp t _
    rw [List.pairwise_map, List.pairwise_filter]
    refine hp.imp fun {a b} hab ha hb e => hab ?_
    simp at ha hb
    rw [ha, hb, e]
  · intro hp
    rw [List.pairwise_iff_getElem]
    intro i j hi hj hij e
    have hx := h _ (List.getElem_mem hi)
    have := hp (l[i].1).toNat (by omega)
    rw [List.pairwise_map, List.pairwise_filter, List.pairwise_iff_getElem] at this
    simp only [Prod.mk.injEq] at e
    refine this i j hi hj hij ?_ ?_ e.2
    · simp; omega
    · simp; omega
theorem nodup_no {l : List Int} {i : Nat} (hi : i < l.length) (h : hasB (l.take i) (el l i) = true) : ¬ l.Nodup := by
  intro hn
  simp only [hasB, decide_eq_true_eq] at h
  obtain ⟨j, hj, e⟩ := List.mem_iff_getElem.1 h
  simp at hj
  rw [el_at hi] at e
  have := (List.pairwise_iff_getElem.1 hn) j i (by omega) hi (by omega)
  simp at e
  exact this e
theorem nodup_yes {l : List Int} (h : ∀ i, i < l.length → hasB (l.take i) (el l i) = false) : l.Nodup := by
  unfold List.Nodup
  rw [List.pairwise_iff_getElem]
  intro i j hi hj hij e
  have := h j hj
  simp only [hasB, decide_eq_false_iff_not, el_at hj] at this
  refine this ?_
  rw [← e]
  exact List.mem_iff_getElem.2 ⟨i, by simp; omega, by simp⟩
theorem el_val {ts : List LChan} {k : Nat} (h : k < ts.length) : valChan (el ts k) ∈ ts.map valChan := List.mem_map.2 ⟨_, el_mem h, rfl⟩
theorem goodH_all {ts : List LChan} (h : ∀ j, j < ts.length → goodP (valChan (el ts j)) = true) : ∀ c ∈ ts.map valChan, goodP c = true := by
  intro c hc
  obtain ⟨a, ha, rfl⟩ := List.mem_map.1 hc
  obtain ⟨j, hj, rfl⟩ := mem_el ha
  exact h j hj
set_option maxRecDepth 10000 in
set_option maxHeartbeats 16000000 in
theorem specGoodH_is (ao : Option Addr) (cap : Nat) (ts : List LChan) (w : World) (x : Bool) (hl : ts.length ≤ 1048576) (ht : totChan ts ≤ 1048576) (hz : DIn dChan w.heap.size w ao ts) (hx : goodHB (ts.map valChan) = x) :
    Calls Try.prog 15 #[.agg #[.slice ao ts.length cap]] w fun e w' => e = .returned (.bool x) ∧ Below w.heap.size w w' := by
  have HX := hid hx
  have HZ := hid hz
  have hft := fits_of ht
  clear hx hz
  have hB0 := below1 w (.cells #[.slice ao ts.length cap] 28)
  have X0 := hid (Bx.new (w := w) (p := w.heap.size) [.slice ao ts.length cap] 28 rfl)
  by_cases h8 : 8 < ts.length
  · have h8' : decide ((8 : Int) < (ts.length : Int)) = true := by simp; omega
    have HN : Hid (x = false) := by rw [Hid, ← HX.out]; exact goodHB_long (by simpa using h8)
    clear h8
    go_enter Try.func15, Try.ntmps15
    go_wp2
    go_ret
    exact ⟨ret_bool HN.out.symm, hB0⟩
  have h8' : decide ((8 : Int) < (ts.length : Int)) = false := by simp; omega
  have h88 : ts.length ≤ 8 := by omega
  clear h8
  go_enter Try.func15, Try.ntmps15
  go_wp2
  go_loopw [16] (fun i wr => ∃ k : Nat, k ≤ ts.length ∧ i = .int .i64 k ∧ Below w.heap.size w wr ∧ Hid (Bx wr w.heap.size [.slice ao ts.length cap]) ∧ Hid (∀ j, j < k → goodP (valChan (el ts j)) = true)) (fun i _ => ts.length - (intOf i).toNat)
  case atStart => exact ⟨0, Nat.zero_le _, rfl, hB0, X0, fun j hj => by omega⟩
  case round =>
    clear hB0 X0
    obtain ⟨k, hk, rfl, hB, hX, hno⟩ := hrel
    by_cases hlt : k < ts.length
    · obtain ⟨b0, off, rfl, hb, hc⟩ := hChan_at HZ.out.1 hlt
      have d1 := (hB.cell (p := ⟨b0, off + k * 5, none⟩) hb).trans (hc k hlt).1
      have d2 := (hB.cell (p := ⟨b0, off + k * 5 + 1, none⟩) hb).trans (hc k hlt).2.1
      have d3 := (hB.cell (p := ⟨b0, off + k * 5 + 2, none⟩) hb).trans (hc k hlt).2.2.1
      have d4 := (hB.cell (p := ⟨b0, off + k * 5 + 3, none⟩) hb).trans (hc k hlt).2.2.2.1
      have d5 := (hB.cell (p := ⟨b0, off + k * 5 + 4, none⟩) hb).trans (hc k hlt).2.2.2.2
      have hI := HZ.out.2 k hlt
      have hfk := hft _ (el_mem hlt)
      obtain ⟨⟨kap, cl, ⟨bo, bc, b⟩, ⟨so, sc, s⟩, ⟨ro, rc, r⟩⟩, ex⟩ : ∃ v, v = el ts k := ⟨_, rfl⟩
      have HE := hid ex
      rw [← ex] at d1 d2 d3 d4 d5 hI hfk
      clear ex hc
      dsimp only at d1 d2 d3 d4 d5 hfk
      have hbA := Below.allocS hB (.cells #[.int .i64 kap, .bool cl, .slice bo b.length bc, .slice so s.length sc, .slice ro r.length rc] 45)
      have hXA := hid (hX.out.alloc (.cells #[.int .i64 kap, .bool cl, .slice bo b.length bc, .slice so s.length sc, .slice ro r.length rc] 45))
      have HI : Hid (InChan (wr.alloc (.cells #[.int .i64 kap, .bool cl, .slice bo b.length bc, .slice so s.length sc, .slice ro r.length rc] 45)).heap.size (wr.alloc (.cells #[.int .i64 kap, .bool cl, .slice bo b.length bc, .slice so s.length sc, .slice ro r.length rc] 45)) bo b so s ro r) := InChan.up (InChan.below hI hbA) hbA.size
      clear hI hX
      rcases hg : goodP (kap, cl, b, s, r) with _ | _
      · have HG := hid hg
        clear hg
        go_wp2_with fail
        refine (specGoodC_is kap cl bo bc b so sc s ro rc r _ _ hfk.1 hfk.2.1 hfk.2.2 HI.out HG.out).mono ?_
        rintro e w1 ⟨rfl, hb1⟩
        have hB1 := hbA.trans (hb1.mono hbA.size)
        clear hb1
        go_wp2
        go_ret
        refine ⟨ret_bool ?_, hB1⟩
        rw [← HX.out, goodHB_bad (el_val hlt) (by rw [← HE.out]; exact HG.out)]
      · have HG := hid hg
        clear hg
        go_wp2_with fail
        refine (specGoodC_is kap cl bo bc b so sc s ro rc r _ _ hfk.1 hfk.2.1 hfk.2.2 HI.out HG.out).mono ?_
        rintro e w1 ⟨rfl, hb1⟩
        have hB1 := hbA.trans (hb1.mono hbA.size)
        have hX1 := hid (hXA.out.later hb1)
        clear hb1 hXA
        go_wp2
        go_roundw
        case rel => exact ⟨k + 1, by omega, by go_num, hB1, hX1, fun j hj => by
          rcases Nat.lt_succ_iff_lt_or_eq.1 hj with h | rfl
          · exact hno.out j h
          · rw [← HE.out]; exact HG.out⟩
        case measure => simp [intOf]; omega
    · obtain rfl : k = ts.length := by omega
      have HALL := hid (goodH_all hno.out)
      have HIFF := hid (pairs_iff (wts_ok HALL.out))
      clear hno hlt hk
      go_wp2
      go_loopw [5] (fun i wr => ∃ t : Nat, t ≤ 30 ∧ i = .int .i64 t ∧ Below w.heap.size w wr ∧ Hid (Bx wr w.heap.size [.slice ao ts.length cap]) ∧ Hid (∀ u : Nat, u < t → (stands (u : Int) (wts (ts.map valChan))).Nodup)) (fun i _ => 30 - (intOf i).toNat)
      case atStart => exact ⟨0, Nat.zero_le _, rfl, hB, hX, fun j hj => by omega⟩
      case round =>
        clear hB hX
        obtain ⟨t, htl, rfl, hB, hX, hno⟩ := hrel
        by_cases ht3 : t < 30
        · have ht3' : decide ((t : Int) < 30) = true := by simp; omega
          have x0 := hX.out.c 0 rfl
          have HZr := hid (HZ.out.later dChan_ok hB)
          go_wp2_with fail
          clear x0
          refine (stands_any ao cap ts (t : Int) wr hl ht HZr.out).mono ?_
          rintro e w1 ⟨⟨o, c, rfl, _, hF⟩, hb1⟩
          have hB1 := hB.trans (hb1.mono hB.size)
          have hX1 := hid (hX.out.later hb1)
          have hsl := Nat.le_trans (stands_le (t : Int) (wts (ts.map valChan))) (wts_len ts)
          generalize hL : stands (t : Int) (wts (ts.map valChan)) = L at hF hsl
          have HL := hid hL
          have hcap := hF.cap
          have HF := hid hF.in
          clear hL hF hb1 hX hB HZr
          go_wp2
          go_loop [33] (fun i => ∃ k : Nat, k ≤ L.length ∧ i = .int .i64 k ∧ Hid (∀ j, j < k → hasB (L.take j) (el L j) = false)) (fun i => L.length - (intOf i).toNat)
          case atStart => exact ⟨0, Nat.zero_le _, rfl, fun j hj => by omega⟩
          case round =>
            obtain ⟨k, hk, rfl, hnd⟩ := hrel
            by_cases hlt : k < L.length
            · obtain ⟨b2, of2, rfl, hb2, hc2⟩ := ints_at HF.out hlt
              have e1 := hc2 k hlt
              have HIT := hid (HF.out.take k)
              have htk : (L.take k).length = k := by simp; omega
              obtain ⟨y, hy⟩ : ∃ y, y = el L k := ⟨_, rfl⟩
              rw [← hy] at e1
              have HY := hid hy
              clear hy hc2
              rcases hh : hasB (L.take k) y with _ | _
              · have HH := hid (l1Has_is _ (some ⟨b2, of2, none⟩) c (L.take k) y w1 false (by omega) HIT.out hh)
                rw [htk] at HH
                have HHN := hid hh
                clear hh htk
                go_wp2_with fail
                refine (HH.out).mono ?_
                rintro e wx ⟨rfl, hws⟩
                rw [hws]; clear hws wx
                go_wp2
                go_round
                case rel => exact ⟨k + 1, by omega, by go_num, fun j hj => by
                  rcases Nat.lt_succ_iff_lt_or_eq.1 hj with h | rfl
                  · exact hnd.out j h
                  · rw [← HY.out]; exact HHN.out⟩
                case measure => simp [intOf]; omega
              · have HH := hid (l1Has_is _ (some ⟨b2, of2, none⟩) c (L.take k) y w1 true (by omega) HIT.out hh)
                rw [htk] at HH
                have HHN : Hid (¬ L.Nodup) := nodup_no hlt (by rw [← HY.out]; exact hh)
                clear hh htk
                go_wp2_with fail
                refine (HH.out).mono ?_
                rintro e wx ⟨rfl, hws⟩
                rw [hws]; clear hws wx
                go_wp2
                go_ret
                refine ⟨ret_bool ?_, hB1⟩
                rw [← HX.out, goodHB_dup]
                intro hn
                have := HIFF.out.1 hn t ht3
                rw [HL.out] at this
                exact HHN.out this
            · obtain rfl : k = L.length := by omega
              have HN2 := hid (nodup_yes hnd.out)
              clear hnd hk hlt
              go_wp2
              go_roundw
              case rel => exact ⟨t + 1, by omega, by go_num, hB1, hX1, fun u hu => by
                rcases Nat.lt_succ_iff_lt_or_eq.1 hu with h | rfl
                · exact hno.out u h
                · rw [HL.out]; exact HN2.out⟩
              case measure => simp [intOf]; omega
        · obtain rfl : t = 30 := by omega
          go_wp2
          go_ret
          refine ⟨ret_bool ?_, hB⟩
          rw [← HX.out, goodHB_yes (by simpa using h88) HALL.out (HIFF.out.2 hno.out)]
end
section
open Go.RowKit Go.Maps

/-- How often a task stands among the waiters. -/
def oft (l : List (Int × Int × Int)) (t : Int) : Int := ((l.filter fun x => x.1 == t).length : Int)
theorem oft_nil (t : Int) : oft [] t = 0 := rfl
theorem oft_app (a b : List (Int × Int × Int)) (t : Int) : oft (a ++ b) t = oft a t + oft b t := by simp [oft]
theorem oft_one (y1 y2 y3 t : Int) : oft [(y1, y2, y3)] t = if t = y1 then 1 else 0 := by
  by_cases h : t = y1
  · simp [oft, h]
  · have : (y1 == t) = false := by simpa using fun e : y1 = t => h e.symm
    simp [oft, this, h]
theorem oft_bound (l : List (Int × Int × Int)) (t : Int) : 0 ≤ oft l t ∧ oft l t ≤ l.length := by
  have := List.length_filter_le (fun x : Int × Int × Int => x.1 == t) l
  simp only [oft]; omega
theorem oft_stands (l : List (Int × Int × Int)) (t : Int) : oft l t = (stands t l).length := by simp [oft, stands]
theorem oft_pos {l : List (Int × Int × Int)} {x : Int × Int × Int} (h : x ∈ l) : 0 < oft l x.1 := by
  have : 0 < (l.filter fun y => y.1 == x.1).length := List.length_pos_of_mem (List.mem_filter.2 ⟨h, by simp⟩)
  simp only [oft]; omega
set_option maxRecDepth 10000 in
set_option maxHeartbeats 16000000 in
theorem placesOf_any (ao : Option Addr) (cap : Nat) (ts : List LChan) (w : World) (_hl : ts.length ≤ 1048576) (ht : totChan ts ≤ 1048576) (hz : DIn dChan w.heap.size w ao ts) (hg : ∀ c ∈ ts.map valChan, goodP c = true) :
    Calls Try.prog 25 #[.agg #[.slice ao ts.length cap]] w fun e w' => (∃ g n, e = .returned (.map (some g)) ∧ w.heap.size ≤ g ∧ n ≤ 1048576 ∧ MapF w' g n (oft (wts (ts.map valChan)))) ∧ Below w.heap.size w w' := by
  have HZ := hid hz
  have HTT := hid ht
  have HOK := hid (wts_ok hg)
  clear hz ht hg
  have hmm := @run_makeMap Try.prog
  have hB0 : Below w.heap.size w ((w.alloc (.cells #[.slice ao ts.length cap] 28)).alloc (.map #[] 0)) := below2 _ _ _
  have M0 : Hid (MapF ((w.alloc (.cells #[.slice ao ts.length cap] 28)).alloc (.map #[] 0)) (w.heap.size + 1) 0 (fun _ => 0)) := by
    have h := MapF.made (w.alloc (.cells #[.slice ao ts.length cap] 28))
    rw [World.size_alloc] at h; exact h
  have A0 := hid ((Bx.new (w := w) (p := w.heap.size) [.slice ao ts.length cap] 28 rfl).alloc (.map #[] 0))
  have a0 := A0.out.c 0 rfl
  go_enter Try.func25, Try.ntmps25
  go_wp2
  clear a0 A0 hmm
  go_loopw [12] (fun i wr => ∃ (k n : Nat), k ≤ ts.length ∧ i = .int .i64 (k : Int) ∧ n ≤ (wts ((ts.take k).map valChan)).length ∧ Hid (MapF wr (w.heap.size + 1) n (oft (wts ((ts.take k).map valChan)))) ∧ Below w.heap.size w wr) (fun i _ => ts.length - (intOf i).toNat)
  case atStart => exact ⟨0, 0, Nat.zero_le _, rfl, Nat.zero_le _, M0, hB0⟩
  case round =>
    obtain ⟨k, n, hk, rfl, hn, hM, hB⟩ := hrel
    have hMl := hM.out.lt
    by_cases hlt : k < ts.length
    · obtain ⟨b0, off, rfl, hb, hc⟩ := hChan_at HZ.out.1 hlt
      have e1 := (hB.cell (p := ⟨b0, off + k * 5, none⟩) hb).trans (hc k hlt).1
      have e2 := (hB.cell (p := ⟨b0, off + k * 5 + 1, none⟩) hb).trans (hc k hlt).2.1
      have e3 := (hB.cell (p := ⟨b0, off + k * 5 + 2, none⟩) hb).trans (hc k hlt).2.2.1
      have e4 := (hB.cell (p := ⟨b0, off + k * 5 + 3, none⟩) hb).trans (hc k hlt).2.2.2.1
      have e5 := (hB.cell (p := ⟨b0, off + k * 5 + 4, none⟩) hb).trans (hc k hlt).2.2.2.2
      have hI := HZ.out.2 k hlt
      have HT := hid (wts_take hlt)
      have hln := wts_len_take hlt
      have htt := HTT.out
      have hev : ∀ x ∈ (el ts k).2.2.2.1.2.2 ++ (el ts k).2.2.2.2.2.2, TaskN x.1 := fun x hx => by
        have hw : x ∈ wts (ts.map valChan) := by
          simp only [wts, List.mem_flatMap]
          exact ⟨valChan (el ts k), el_val hlt, hx⟩
        have := HOK.out x hw
        exact ⟨this.1, this.2.1⟩
      obtain ⟨⟨kap, cl, ⟨bo, bc, b⟩, ⟨so, sc, s⟩, ⟨ro, rc, r⟩⟩, ex⟩ : ∃ v, v = el ts k := ⟨_, rfl⟩
      rw [← ex] at e1 e2 e3 e4 e5 hI HT hln hev
      have HI : Hid (InChan w.heap.size w bo b so s ro r) := hI
      clear ex hc hI
      dsimp only at e1 e2 e3 e4 e5 HT hln hev
      generalize hbase : wts ((ts.take k).map valChan) = base at hM hn HT hln
      obtain ⟨VV, hVV⟩ : ∃ VV, VV = wr.alloc (.cells #[.int .i64 kap, .bool cl, .slice bo b.length bc, .slice so s.length sc, .slice ro r.length rc] 45) := ⟨_, rfl⟩
      have hbV : Below wr.heap.size wr VV := by rw [hVV]; exact below1 _ _
      have hBV := hB.trans (hbV.mono hB.size)
      have MV := hid (hM.out.later hbV)
      have HVV := hid hVV
      clear hbV hVV hM hbase
      go_wp2_with fail
      rw [← HVV.out]
      refine (waitersAt_any kap cl bo bc b so sc s ro rc r VV (by omega) (by omega) ((HI.out.below hBV).up hBV.size)).mono ?_
      rintro e w4 ⟨⟨qo, qc, rfl, _, hF4⟩, hb4⟩
      have hB4 := hBV.trans (hb4.mono hBV.size)
      have M4 := hid (MV.out.later hb4)
      have Q4 := hid hF4
      obtain ⟨q, hq⟩ : ∃ q, q = s ++ r := ⟨_, rfl⟩
      have hql : q.length ≤ 1048576 := by rw [hq]; simp; omega
      have hbl : base.length + q.length ≤ 1048576 := by rw [hq]; simp; omega
      rw [← hq] at Q4 HT hev ⊢
      have HEV := hid hev
      clear hb4 hF4 MV e1 e2 e3 e4 e5 hq HVV hev
      go_wp2
      go_loopw [19] (fun i wn => ∃ (j n : Nat), j ≤ q.length ∧ i = .int .i64 (j : Int) ∧ n ≤ base.length + j ∧ Hid (MapF wn (w.heap.size + 1) n (oft (base ++ q.take j))) ∧ Below w.heap.size w wn ∧ Hid (kW.Fresh VV.heap.size w4.heap.size wn qo qc q)) (fun i _ => q.length - (intOf i).toNat)
      case atStart => exact ⟨0, n, Nat.zero_le _, rfl, by omega, by simpa using M4, hB4, Q4⟩
      case round =>
        clear M4 Q4 hB4
        obtain ⟨j, n, hj, rfl, hn, hM, hB, hQ⟩ := hrel
        have hMl := hM.out.lt
        by_cases hjl : j < q.length
        · obtain ⟨qb, qoff, rfl, hqb, hqc⟩ := kW_at hQ.out.in hjl
          have d1 := (hqc j hjl).1
          have d2 := (hqc j hjl).2.1
          have d3 := (hqc j hjl).2.2
          have HTK := hid (take_succ_el hjl)
          have htn := HEV.out _ (el_mem hjl)
          obtain ⟨⟨y1, y2, y3⟩, ey⟩ : ∃ v, v = el q j := ⟨_, rfl⟩
          rw [← ey] at d1 d2 d3 HTK htn
          clear ey hqc
          dsimp only at d1 d2 d3 htn
          have HTN := hid htn
          obtain ⟨f, hf⟩ : ∃ f, f = oft (base ++ q.take j) := ⟨_, rfl⟩
          have hfb : 0 ≤ f y1 ∧ f y1 ≤ 1048576 := by
            have := oft_bound (base ++ q.take j) y1
            rw [hf]; simp only [List.length_append, List.length_take] at this; omega
          rw [← hf] at hM
          have HFF := hid hf
          have MA := hid (hM.out.later (below1 wr (.cells #[.int .i64 y1, .int .i64 y2, .int .i64 y3] 70)))
          have QA := hid (hQ.out.later (below1 wr (.cells #[.int .i64 y1, .int .i64 y2, .int .i64 y3] 70)))
          have hBa := Below.allocS hB (.cells #[.int .i64 y1, .int .i64 y2, .int .i64 y3] 70)
          have hmx : n < maxLen := by unfold maxLen; omega
          clear htn hf
          go_wp2_with (first
            | (at_lookup; refine wpl_look _ rfl _ _ rfl (w.heap.size + 1) n f rfl MA.out y1 rfl HTN.out ?_)
            | (at_mapUpdate; refine wpl_put _ rfl _ _ _ rfl (w.heap.size + 1) n f rfl MA.out hmx y1 (f y1 + 1) rfl (by first | rfl | (simp; omega)) HTN.out (by omega) ?_; intro w1 hM1 hG1)
            | go_in)
          have HM1 : Hid (MapF w1 (w.heap.size + 1) (n + 1) (oft (base ++ q.take (j + 1)))) := hM1.ext fun z hz => by
            rw [HTK.out, ← List.append_assoc, oft_app _ [(y1, y2, y3)], oft_one, ← HFF.out]
            by_cases e : z = y1
            · subst e; simp
            · rw [if_neg e, if_neg e]; simp
          have hB1 : Below w.heap.size w w1 := hBa.grown hG1 hBa.size (fun z hz => by cases hz; omega)
          have HQ1 := hid (QA.out.keepB (W' := w1) fun b hb => hG1.block b (QA.out.lt hb).2.2.1 fun e => (by
            obtain ⟨h5, _, h6, cur, h4⟩ := QA.out.lt hb
            obtain ⟨_, ⟨es, clock, h7, _⟩, _⟩ := MA.out
            simp at e
            subst e
            rw [h4] at h7
            simp at h7))
          clear hM1 hG1
          go_roundw
          case rel => exact ⟨j + 1, n + 1, by omega, by go_num, by omega, HM1, hB1, HQ1⟩
          case measure => simp [intOf]; omega
        · obtain rfl : j = q.length := by omega
          rw [List.take_length] at hM
          have HN : Hid (MapF wr (w.heap.size + 1) n (oft (wts ((ts.take (k + 1)).map valChan)))) := by rw [Hid, HT.out]; exact hM.out
          have hn2 : n ≤ (wts ((ts.take (k + 1)).map valChan)).length := by rw [HT.out]; simp; omega
          go_wp2
          go_roundw
          case rel => exact ⟨k + 1, n, by omega, by go_num, hn2, HN, hB⟩
          case measure => simp [intOf]; omega
    · obtain rfl : k = ts.length := by omega
      rw [List.take_length] at hM hn
      have hwl := wts_len ts
      have htt := HTT.out
      go_wp2
      go_ret
      exact ⟨⟨_, n, rfl, by omega, by omega, hM.out⟩, hB⟩
/-- Those whose task is kept. -/
def keptW (f : Int → Int) (l : List (Int × Int × Int)) : List (Int × Int × Int) := l.filter fun x => decide (0 < f x.1)
theorem keptW_le (f : Int → Int) (l : List (Int × Int × Int)) : (keptW f l).length ≤ l.length := List.length_filter_le _ _
theorem keptW_in {f : Int → Int} {l : List (Int × Int × Int)} {k : Nat} (h : k < l.length) (he : 0 < f (el l k).1) : keptW f (l.take (k + 1)) = keptW f (l.take k) ++ [el l k] := by rw [take_succ_el h, keptW, List.filter_append]; simp [keptW, he]
theorem keptW_out {f : Int → Int} {l : List (Int × Int × Int)} {k : Nat} (h : k < l.length) (he : ¬ 0 < f (el l k).1) : keptW f (l.take (k + 1)) = keptW f (l.take k) := by rw [take_succ_el h, keptW, List.filter_append]; simp [keptW, he]
set_option maxRecDepth 10000 in
set_option maxHeartbeats 8000000 in
theorem onlyThose_any (lo : Option Addr) (lc : Nat) (l : List (Int × Int × Int)) (g n : Nat) (f : Int → Int) (w : World) (hl : l.length ≤ 1048576) (hz : kW.In w.heap.size w lo l) (hM : MapF w g n f) (ht : ∀ x ∈ l, TaskN x.1) :
    Calls Try.prog 44 #[.slice lo l.length lc, .map (some g)] w fun e w' => (∃ o c, e = .returned (.slice o (keptW f l).length c) ∧ kW.Fresh w.heap.size w'.heap.size w' o c (keptW f l)) ∧ Below w.heap.size w w' := by
  have HM := hid hM
  have HT := hid ht
  have hgl := hM.lt
  clear hM ht
  go_enter Try.func44, Try.ntmps44
  go_wp2
  go_loopw [5, 10] (fun u i wr => ∃ (k : Nat) (v : Value), v = u ∧ k ≤ l.length ∧ i = .int .i64 (k : Int) ∧ Hid (kW.Own w.heap.size wr v (keptW f (l.take k))) ∧ Below w.heap.size w wr) (fun _ i _ => l.length - (intOf i).toNat)
  case atStart => exact ⟨0, _, rfl, Nat.zero_le _, rfl, Kind.Own.nil _ _ _, Below.refl _ _⟩
  case round =>
    obtain ⟨k, v, rfl, hk, rfl, hO, hB⟩ := hrel
    by_cases hlt : k < l.length
    · obtain ⟨bb, off, rfl, hbb, hc⟩ := kW_at hz hlt
      have d1 := (hB.cell (p := ⟨bb, off + k * 3, none⟩) hbb).trans (hc k hlt).1
      have d2 := (hB.cell (p := ⟨bb, off + k * 3 + 1, none⟩) hbb).trans (hc k hlt).2.1
      have d3 := (hB.cell (p := ⟨bb, off + k * 3 + 2, none⟩) hbb).trans (hc k hlt).2.2
      have htn := HT.out _ (el_mem hlt)
      obtain ⟨⟨y1, y2, y3⟩, ey⟩ : ∃ v, v = el l k := ⟨_, rfl⟩
      rw [← ey] at d1 d2 d3 htn
      have HY : Hid (el l k = (y1, y2, y3)) := ey.symm
      have HTN := hid htn
      clear ey hc htn
      dsimp only at d1 d2 d3
      have hs := hB.size
      have MA : Hid (MapF (wr.alloc (.cells #[.int .i64 y1, .int .i64 y2, .int .i64 y3] 70)) g n f) := HM.out.keep (((Below.allocS hB (.cells #[.int .i64 y1, .int .i64 y2, .int .i64 y3] 70))).block g hgl)
      by_cases he : 0 < f y1
      · have he' : decide (0 < f y1) = true := by simpa using he
        have HA : Hid (kW.Own w.heap.size ((wr.alloc (.cells #[.int .i64 y1, .int .i64 y2, .int .i64 y3] 70)).alloc (.cells #[.int .i64 y1, .int .i64 y2, .int .i64 y3] 70)) v (keptW f (l.take k))) := (hO.out.below (below1 _ _)).below (below1 _ _)
        have HN : Hid (kW.In (wr.heap.size + 1 + 1) ((wr.alloc (.cells #[.int .i64 y1, .int .i64 y2, .int .i64 y3] 70)).alloc (.cells #[.int .i64 y1, .int .i64 y2, .int .i64 y3] 70)) (some ⟨wr.heap.size + 1, 0, none⟩) [(y1, y2, y3)]) := kW_one (by omega) (by simp) (by simp) (by simp)
        have hll : (keptW f (l.take k)).length + 1 ≤ 4194304 := by have := keptW_le f (l.take k); simp at this; omega
        have hBa : Below w.heap.size w ((wr.alloc (.cells #[.int .i64 y1, .int .i64 y2, .int .i64 y3] 70)).alloc (.cells #[.int .i64 y1, .int .i64 y2, .int .i64 y3] 70)) := Below.allocS (Below.allocS hB _) _
        have HE := hid he
        clear he
        go_wp2_with (first
          | (at_lookup; refine wpl_look _ rfl _ _ rfl g n f rfl MA.out y1 rfl HTN.out ?_)
          | (at_builtin; refine Kind.app kW_ok ((wr.alloc (.cells #[.int .i64 y1, .int .i64 y2, .int .i64 y3] 70)).alloc (.cells #[.int .i64 y1, .int .i64 y2, .int .i64 y3] 70)) rfl (.tmp 19) (.tmp 21) rfl w.heap.size v (keptW f (l.take k)) rfl HA.out (by simp; omega) (some ⟨wr.heap.size + 1, 0, none⟩) [(y1, y2, y3)] 1 1 rfl rfl (by simp) _ HN.out hll ?_; intro v' w' hO' hB' hG' hn'; have hB2 : Below w.heap.size w w' := hBa.trans (hB'.mono (by omega)); have HO' : Hid (kW.Own w.heap.size w' v' (keptW f (l.take (k + 1)))) := (by rw [Hid, keptW_in hlt (by rw [HY.out]; exact HE.out), HY.out]; exact hO'); clear hO' hB' hG' hn')
          | go_in)
        go_roundw
        case rel => exact ⟨k + 1, v', rfl, by omega, by go_num, HO', hB2⟩
        case measure => simp [intOf]; omega
      · have he' : decide (0 < f y1) = false := by simpa using he
        have HO' : Hid (kW.Own w.heap.size (wr.alloc (.cells #[.int .i64 y1, .int .i64 y2, .int .i64 y3] 70)) v (keptW f (l.take (k + 1)))) := by rw [Hid, keptW_out hlt (by rw [HY.out]; exact he)]; exact hO.out.below (below1 _ _)
        have hB2 := Below.allocS hB (.cells #[.int .i64 y1, .int .i64 y2, .int .i64 y3] 70)
        clear he
        go_wp2_with (first
          | (at_lookup; refine wpl_look _ rfl _ _ rfl g n f rfl MA.out y1 rfl HTN.out ?_)
          | go_in)
        go_roundw
        case rel => exact ⟨k + 1, _, rfl, by omega, by go_num, HO', hB2⟩
        case measure => simp [intOf]; omega
    · obtain rfl : k = l.length := by omega
      rw [List.take_length] at hO
      obtain ⟨qo, qc, rfl, _, hF⟩ := hO.out.fresh
      have HF : Hid (kW.Fresh w.heap.size wr.heap.size wr qo qc (keptW f l)) := hF
      clear hF hO
      go_wp2
      go_ret
      exact ⟨⟨_, _, rfl, HF.out⟩, hB⟩
end
end Go.Proofs.Ytdjdbcfcccbhpaa
