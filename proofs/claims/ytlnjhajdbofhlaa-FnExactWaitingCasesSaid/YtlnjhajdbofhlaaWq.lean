
/- WaitingCases: what it answers, both sides. No conditions but those written. -/
import Derived.Test.YtlnjhajdbofhlaaSp
import Derived.Test.YtlnjhajdbofhlaaSa
import Derived.Test.YtlnjhajdbofhlaaKi
import Derived.Test.YtlnjhajdbofhlaaKn
namespace Go.Proofs.Ytlnjhajdbofhlaa
open Go.RowKit

theorem fresh_grown {α β : Type} {K : Kind α} {L : Kind β} {lo hi lo' : Nat} {W W' : World} {o : Option Addr} {c : Nat} {xs : List α} {v : Value} {ys : List β} (h : K.Fresh lo hi W o c xs) (ho : L.Own lo' W v ys) (hne : K.ty ≠ L.ty) (hg : W.grownBy W' v.ownBlock) : K.Fresh lo hi W' o c xs :=
  h.keepB fun b hb => by
    obtain ⟨_, _, h3, cur, h4⟩ := h.lt hb
    refine hg.block b h3 fun e => ?_
    rcases ho.2 with ⟨e2, _⟩ | ⟨g, cc, cur2, e2, _, hh, _⟩
    · subst e2; simp [Value.ownBlock] at e
    · subst e2; simp [Value.ownBlock] at e; subst e
      rw [h4] at hh; simp at hh
      exact hne hh.2
theorem short_len : ∀ (n : Nat) (zs : List Int), zs.Nodup → (∀ x ∈ zs, 0 ≤ x ∧ x < (n : Int)) → zs.length ≤ n
  | 0, zs, _, h => by
    cases zs with
    | nil => simp
    | cons x r => have := h x (by simp); omega
  | n + 1, zs, hn, h => by
    by_cases hm : (n : Int) ∈ zs
    · have h1 := short_len n (zs.erase (n : Int)) (hn.erase _) fun x hx => by
        have hx' := (hn.mem_erase_iff).1 hx
        have := h x hx'.2
        have := hx'.1
        omega
      rw [List.length_erase_of_mem hm] at h1
      omega
    · have h1 := short_len n zs hn fun x hx => by
        have := h x hx
        have : x ≠ (n : Int) := fun e => hm (e ▸ hx)
        omega
      omega
/-- What WaitingCases answers. -/
def waitsR (ps : List PChan) (t : Int) : List Int × Bool := if goodHB ps = true ∧ taskB t = true then (rise (stands t (wts ps)), true) else ([], false)
theorem waitsR_bad {ps : List PChan} {t : Int} (h : goodHB ps = false) : waitsR ps t = ([], false) := by rw [waitsR, if_neg]; rw [h]; simp
theorem waitsR_task {ps : List PChan} {t : Int} (h : taskB t = false) : waitsR ps t = ([], false) := by rw [waitsR, if_neg]; rw [h]; simp
theorem waitsR_ok {ps : List PChan} {t : Int} (h : goodHB ps = true) (h2 : taskB t = true) : waitsR ps t = (rise (stands t (wts ps)), true) := by rw [waitsR, if_pos ⟨h, h2⟩]
theorem waitsR_len (ps : List PChan) (t : Int) : (waitsR ps t).1.length ≤ 10 := by
  unfold waitsR
  split
  · exact rise_len _
  · simp
theorem stands_good {ps : List PChan} {t : Int} (h : goodHB ps = true) (h2 : taskB t = true) : (stands t (wts ps)).Nodup ∧ (∀ x ∈ stands t (wts ps), 0 ≤ x ∧ x ≤ 9) ∧ (stands t (wts ps)).length ≤ 10 := by
  obtain ⟨_, hg, hn⟩ := goodHB_all h
  have hw := wts_ok hg
  have ht : 0 ≤ t ∧ t ≤ 29 := by simpa [taskB] using h2
  have h1 : (stands t (wts ps)).Nodup := by
    have := (pairs_iff hw).1 hn t.toNat (by omega)
    rwa [show ((t.toNat : Nat) : Int) = t from by omega] at this
  have h3 : ∀ x ∈ stands t (wts ps), 0 ≤ x ∧ x ≤ 9 := by
    intro x hx
    simp only [stands, List.mem_map, List.mem_filter] at hx
    obtain ⟨y, ⟨hy, _⟩, rfl⟩ := hx
    have := hw y hy
    exact ⟨this.2.2.1, this.2.2.2⟩
  exact ⟨h1, h3, short_len 10 _ h1 fun x hx => by have := h3 x hx; omega⟩
/-- Those of the first k numbers that are there. -/
def riseT (zs : List Int) (k : Nat) : List Int := ((List.range k).filter fun i : Nat => hasB zs (i : Int)).map fun i : Nat => (i : Int)
theorem riseT_ten (zs : List Int) : riseT zs 10 = rise zs := rfl
theorem riseT_in {zs : List Int} {k : Nat} (h : hasB zs (k : Int) = true) : riseT zs (k + 1) = riseT zs k ++ [(k : Int)] := by
  rw [riseT, List.range_succ, List.filter_append, List.map_append]; simp [riseT, h]
theorem riseT_out {zs : List Int} {k : Nat} (h : hasB zs (k : Int) = false) : riseT zs (k + 1) = riseT zs k := by
  rw [riseT, List.range_succ, List.filter_append, List.map_append]; simp [riseT, h]
theorem riseT_len (zs : List Int) (k : Nat) : (riseT zs k).length ≤ k := by
  have := List.length_filter_le (fun i : Nat => hasB zs (i : Int)) (List.range k)
  simp [riseT] at this ⊢; exact this
set_option maxRecDepth 10000 in
set_option maxHeartbeats 16000000 in
theorem specWaits_any (ao : Option Addr) (cap : Nat) (ts : List LChan) (t : Int) (w : World) (hl : ts.length ≤ 1048576) (ht : totChan ts ≤ 1048576) (hz : DIn dChan w.heap.size w ao ts) :
    Calls Try.prog 43 #[.agg #[.slice ao ts.length cap], .int .i64 t] w fun e w' => AnsQ w (waitsR (ts.map valChan) t) e w' := by
  have HZ := hid hz
  have HTT := hid ht
  clear hz ht
  have hB0 := below1 w (.cells #[.slice ao ts.length cap] 56)
  have X0 := hid (Bx.new (w := w) (p := w.heap.size) [.slice ao ts.length cap] 56 rfl)
  rcases hg : goodHB (ts.map valChan) with _ | _
  · have HR := hid (waitsR_bad (t := t) hg)
    have hG := specGoodH_is ao cap ts (w.alloc (.cells #[.slice ao ts.length cap] 56)) false hl HTT.out (HZ.out.later dChan_ok hB0) hg
    clear hg
    go_enter Try.func43, Try.ntmps43
    go_wp2_with fail
    refine hG.mono ?_
    rintro e w1 ⟨rfl, hb1⟩
    have hB1 := hB0.trans (hb1.mono hB0.size)
    clear hb1 hG hB0
    go_wp2
    refine bodyPost_ret (v := .tuple #[.slice none 0 0, .bool false]) (by simp [results, Try.results43, go_sem]) rfl ?_
    rw [HR.out]
    exact ⟨⟨none, 0, rfl, .inl rfl⟩, hB1⟩
  have hG := specGoodH_is ao cap ts (w.alloc (.cells #[.slice ao ts.length cap] 56)) true hl HTT.out (HZ.out.later dChan_ok hB0) hg
  rcases hk : taskB t with _ | _
  · have HR := hid (waitsR_task (ps := ts.map valChan) hk)
    have HK := hid hk
    clear hg hk
    go_enter Try.func43, Try.ntmps43
    go_wp2_with fail
    refine hG.mono ?_
    rintro e w1 ⟨rfl, hb1⟩
    have hB1 := hB0.trans (hb1.mono hB0.size)
    clear hb1 hG hB0
    go_wp2_with fail
    refine (l3Task_is t _ false HK.out).mono ?_
    rintro e wx ⟨rfl, hwx⟩
    rw [hwx]; clear hwx wx
    go_wp2
    refine bodyPost_ret (v := .tuple #[.slice none 0 0, .bool false]) (by simp [results, Try.results43, go_sem]) rfl ?_
    rw [HR.out]
    exact ⟨⟨none, 0, rfl, .inl rfl⟩, hB1⟩
  have HR := hid (waitsR_ok hg hk)
  have HK := hid hk
  have HG := hid hg
  obtain ⟨hsn, hsr, hsl⟩ := stands_good hg hk
  have HSN := hid (And.intro hsn hsr)
  clear hg hk hsn hsr
  go_enter Try.func43, Try.ntmps43
  go_wp2_with fail
  refine hG.mono ?_
  rintro e w1 ⟨rfl, hb1⟩
  have hB1 := hB0.trans (hb1.mono hB0.size)
  have X1 := hid (X0.out.later hb1)
  clear hb1 hG hB0 X0
  have x0 := X1.out.c 0 rfl
  have x0z := X1.out.size
  go_wp2_with fail
  refine (l3Task_is t _ true HK.out).mono ?_
  rintro e wx ⟨rfl, hwx⟩
  rw [hwx]; clear hwx wx
  go_wp2_with fail
  refine (stands_any ao cap ts t w1 hl HTT.out (HZ.out.later dChan_ok hB1)).mono ?_
  rintro e w2 ⟨⟨zo, zc, rfl, _, hF⟩, hb2⟩
  have hB2 := hB1.trans (hb2.mono hB1.size)
  have Z2 := hid hF.in
  obtain ⟨zs, hzs⟩ : ∃ zs, zs = stands t (wts (ts.map valChan)) := ⟨_, rfl⟩
  rw [← hzs] at Z2 HR hsl ⊢
  clear hb2 hF hzs X1 x0 x0z HSN
  go_wp2
  go_loopw [7, 8] (fun u i wr => ∃ (k : Nat) (v : Value), v = u ∧ k ≤ 10 ∧ i = .int .i64 (k : Int) ∧ Hid (kI.Own w2.heap.size wr v (riseT zs k)) ∧ Below w2.heap.size w2 wr) (fun _ i _ => 10 - (intOf i).toNat)
  case atStart => exact ⟨0, _, rfl, by omega, rfl, Kind.Own.nil _ _ _, Below.refl _ _⟩
  case round =>
    obtain ⟨k, v, rfl, hk, rfl, hO, hb⟩ := hrel
    have hB := hB2.trans (hb.mono hB2.size)
    have hsz := hB.size
    have hsz2 := hB2.size
    have hsb := hb.size
    by_cases hlt : k < 10
    · have hlt' : decide ((k : Int) < 10) = true := by simp; omega
      have HZ2 := hid (Z2.out.later hb)
      rcases hm : hasB zs (k : Int) with _ | _
      · have HM := hid hm
        have HN : Hid (kI.Own w2.heap.size wr v (riseT zs (k + 1))) := by rw [Hid, riseT_out hm]; exact hO.out
        clear hm
        go_wp2_with fail
        refine (l1Has_is wr.heap.size zo zc zs (k : Int) _ false (by omega) HZ2.out HM.out).mono ?_
        rintro e wx ⟨rfl, hwx⟩
        rw [hwx]; clear hwx wx
        go_wp2
        go_roundw
        case rel => exact ⟨k + 1, v, rfl, by omega, by go_num, HN, hb⟩
        case measure => simp [intOf]; omega
      · have HM := hid hm
        clear hm
        go_wp2_with fail
        refine (l1Has_is wr.heap.size zo zc zs (k : Int) _ true (by omega) HZ2.out HM.out).mono ?_
        rintro e wx ⟨rfl, hwx⟩
        rw [hwx]; clear hwx wx
        have HA := hid (hO.out.below (below1 wr (.cells #[.int .i64 (k : Int)] 3)))
        have HN : Hid (kI.In (wr.heap.size + 1) (wr.alloc (.cells #[.int .i64 (k : Int)] 3)) (some ⟨wr.heap.size, 0, none⟩) [(k : Int)]) := int_one (by omega) (by simp)
        have hll : (riseT zs k).length + 1 ≤ 4194304 := by have := riseT_len zs k; omega
        have hba : Below w2.heap.size w2 (wr.alloc (.cells #[.int .i64 (k : Int)] 3)) := hb.trans ((below1 _ _).mono hb.size)
        go_wp2_with (at_builtin; refine Kind.app kI_ok (wr.alloc (.cells #[.int .i64 (k : Int)] 3)) rfl (.tmp 27) (.tmp 29) rfl w2.heap.size v (riseT zs k) rfl HA.out (by simp; omega) (some ⟨wr.heap.size, 0, none⟩) [(k : Int)] 1 1 rfl rfl (by simp) _ HN.out hll ?_; intro v' w' hO' hB' hG' hn'; have hb5 : Below w2.heap.size w2 w' := hba.trans (hB'.mono (Nat.le_refl _)); have O5 : Hid (kI.Own w2.heap.size w' v' (riseT zs (k + 1))) := (by rw [Hid, riseT_in HM.out]; exact hO'); clear hO' hB' hG' hn')
        go_roundw
        case rel => exact ⟨k + 1, v', rfl, by omega, by go_num, O5, hb5⟩
        case measure => simp [intOf]; omega
    · obtain rfl : k = 10 := by omega
      obtain ⟨qo', qc', rfl, hq0, hF⟩ := hO.out.fresh
      rw [riseT_ten] at hF
      have HF : Hid (kI.Fresh w.heap.size wr.heap.size wr qo' qc' (rise zs)) := hF.wide (by omega) (Nat.le_refl _)
      have hln : (riseT zs 10).length = (rise zs).length := rfl
      clear hF hO hq0
      go_wp2
      refine bodyPost_ret (v := .tuple #[.slice qo' (rise zs).length qc', .bool true]) (by simp [results, Try.results43, go_sem, riseT_ten]) rfl ?_
      rw [HR.out]
      exact ⟨⟨_, _, rfl, HF.out⟩, hB⟩
set_option maxRecDepth 10000 in
set_option maxHeartbeats 16000000 in
theorem implWaits_any (ao : Option Addr) (cap : Nat) (ts : List LChan) (t : Int) (w : World) (hl : ts.length ≤ 1048576) (ht : totChan ts ≤ 1048576) (hz : DIn dChan w.heap.size w ao ts) :
    Calls Try.prog 44 #[.agg #[.slice ao ts.length cap], .int .i64 t] w fun e w' => AnsQ w (waitsR (ts.map valChan) t) e w' := by
  have HZ := hid hz
  have HTT := hid ht
  clear hz ht
  have hB0 := below1 w (.cells #[.slice ao ts.length cap] 56)
  have X0 := hid (Bx.new (w := w) (p := w.heap.size) [.slice ao ts.length cap] 56 rfl)
  rcases hg : goodHB (ts.map valChan) with _ | _
  · have HR := hid (waitsR_bad (t := t) hg)
    have hG := implGoodH_is ao cap ts (w.alloc (.cells #[.slice ao ts.length cap] 56)) false hl HTT.out (HZ.out.later dChan_ok hB0) hg
    clear hg
    go_enter Try.func44, Try.ntmps44
    go_wp2_with fail
    refine hG.mono ?_
    rintro e w1 ⟨rfl, hb1⟩
    have hB1 := hB0.trans (hb1.mono hB0.size)
    clear hb1 hG hB0
    go_wp2
    refine bodyPost_ret (v := .tuple #[.slice none 0 0, .bool false]) (by simp [results, Try.results44, go_sem]) rfl ?_
    rw [HR.out]
    exact ⟨⟨none, 0, rfl, .inl rfl⟩, hB1⟩
  have hG := implGoodH_is ao cap ts (w.alloc (.cells #[.slice ao ts.length cap] 56)) true hl HTT.out (HZ.out.later dChan_ok hB0) hg
  rcases hk : taskB t with _ | _
  · have HR := hid (waitsR_task (ps := ts.map valChan) hk)
    have HK := hid hk
    clear hg hk
    go_enter Try.func44, Try.ntmps44
    go_wp2_with fail
    refine hG.mono ?_
    rintro e w1 ⟨rfl, hb1⟩
    have hB1 := hB0.trans (hb1.mono hB0.size)
    clear hb1 hG hB0
    go_wp2_with fail
    refine (isTask_is t _ false HK.out).mono ?_
    rintro e wx ⟨rfl, hwx⟩
    rw [hwx]; clear hwx wx
    go_wp2
    refine bodyPost_ret (v := .tuple #[.slice none 0 0, .bool false]) (by simp [results, Try.results44, go_sem]) rfl ?_
    rw [HR.out]
    exact ⟨⟨none, 0, rfl, .inl rfl⟩, hB1⟩
  have HR := hid (waitsR_ok hg hk)
  have HK := hid hk
  have HG := hid hg
  obtain ⟨hsn, hsr, hsl⟩ := stands_good hg hk
  have HSN := hid (And.intro hsn hsr)
  clear hg hk hsn hsr
  go_enter Try.func44, Try.ntmps44
  go_wp2_with fail
  refine hG.mono ?_
  rintro e w1 ⟨rfl, hb1⟩
  have hB1 := hB0.trans (hb1.mono hB0.size)
  have X1 := hid (X0.out.later hb1)
  clear hb1 hG hB0 X0
  have x0 := X1.out.c 0 rfl
  have x0z := X1.out.size
  go_wp2_with fail
  refine (isTask_is t _ true HK.out).mono ?_
  rintro e wx ⟨rfl, hwx⟩
  rw [hwx]; clear hwx wx
  go_wp2
  clear x0 x0z
  go_loopw [6, 22] (fun u i wr => ∃ (k : Nat) (v : Value), v = u ∧ k ≤ ts.length ∧ i = .int .i64 (k : Int) ∧ Hid (kI.Own (w.heap.size + 1) wr v (stands t (wts ((ts.take k).map valChan)))) ∧ Below w.heap.size w wr ∧ w.heap.size + 1 ≤ wr.heap.size) (fun _ i _ => ts.length - (intOf i).toNat)
  case atStart => exact ⟨0, _, rfl, Nat.zero_le _, rfl, Kind.Own.nil _ _ _, hB1, X1.out.size⟩
  case round =>
    obtain ⟨k, v, rfl, hk, rfl, hO, hB, hs⟩ := hrel
    by_cases hlt : k < ts.length
    · obtain ⟨b0, off, rfl, hb, hc⟩ := hChan_at HZ.out.1 hlt
      have e1 := (hB.cell (p := ⟨b0, off + k * 5, none⟩) hb).trans (hc k hlt).1
      have e2 := (hB.cell (p := ⟨b0, off + k * 5 + 1, none⟩) hb).trans (hc k hlt).2.1
      have e3 := (hB.cell (p := ⟨b0, off + k * 5 + 2, none⟩) hb).trans (hc k hlt).2.2.1
      have e4 := (hB.cell (p := ⟨b0, off + k * 5 + 3, none⟩) hb).trans (hc k hlt).2.2.2.1
      have e5 := (hB.cell (p := ⟨b0, off + k * 5 + 4, none⟩) hb).trans (hc k hlt).2.2.2.2
      have hI := HZ.out.2 k hlt
      have HT := hid (wts_take hlt)
      have hln := wts_len_take hlt
      have htt := HTT.out
      obtain ⟨⟨kap, cl, ⟨bo, bc, b⟩, ⟨so, sc, s⟩, ⟨ro, rc, r⟩⟩, ex⟩ : ∃ v, v = el ts k := ⟨_, rfl⟩
      rw [← ex] at e1 e2 e3 e4 e5 hI HT hln
      have HI : Hid (InChan w.heap.size w bo b so s ro r) := hI
      clear ex hc hI
      dsimp only at e1 e2 e3 e4 e5 HT hln
      have hst := stands_le t (wts ((ts.take k).map valChan))
      generalize hbase : stands t (wts ((ts.take k).map valChan)) = base at hO hst
      have HBASE := hid hbase
      clear hbase
      obtain ⟨VV, hVV⟩ : ∃ VV, VV = wr.alloc (.cells #[.int .i64 kap, .bool cl, .slice bo b.length bc, .slice so s.length sc, .slice ro r.length rc] 26) := ⟨_, rfl⟩
      have hbV : Below wr.heap.size wr VV := by rw [hVV]; exact below1 _ _
      have hBV := hB.trans (hbV.mono hB.size)
      have OV := hid (hO.out.below hbV)
      have HVV := hid hVV
      have hsV := hbV.size
      clear hbV hVV hO
      go_wp2_with fail
      rw [← HVV.out]
      refine (waitersAt_any kap cl bo bc b so sc s ro rc r VV (by omega) (by omega) ((HI.out.below hBV).up hBV.size)).mono ?_
      rintro e w4 ⟨⟨qo, qc, rfl, _, hF4⟩, hb4⟩
      have hB4 := hBV.trans (hb4.mono hBV.size)
      have O4 := hid (OV.out.below hb4)
      have Q4 := hid hF4
      have hs4 := hb4.size
      obtain ⟨q, hq⟩ : ∃ q, q = s ++ r := ⟨_, rfl⟩
      have hql : q.length ≤ 1048576 := by rw [hq]; simp; omega
      have hbl : base.length + q.length ≤ 1048576 := by rw [hq]; simp; omega
      have HST : Hid (stands t (wts ((ts.take (k + 1)).map valChan)) = base ++ stands t q) := by rw [Hid, HT.out, stands_app, HBASE.out, hq]
      rw [← hq] at Q4 ⊢
      clear hb4 hF4 OV e1 e2 e3 e4 e5 HT hq HVV
      go_wp2
      go_loopw [6, 29] (fun u i wn => ∃ (j : Nat) (v : Value), v = u ∧ j ≤ q.length ∧ i = .int .i64 (j : Int) ∧ Hid (kI.Own (w.heap.size + 1) wn v (base ++ stands t (q.take j))) ∧ Below w.heap.size w wn ∧ Hid (kW.Fresh VV.heap.size w4.heap.size wn qo qc q) ∧ w.heap.size + 1 ≤ wn.heap.size) (fun _ i _ => q.length - (intOf i).toNat)
      case atStart => exact ⟨0, v, rfl, Nat.zero_le _, rfl, by simpa [stands] using O4, hB4, Q4, by omega⟩
      case round =>
        clear O4 Q4 hB4 hs4
        obtain ⟨j, v, rfl, hj, rfl, hO, hB, hQ, hs⟩ := hrel
        by_cases hjl : j < q.length
        · obtain ⟨qb, qoff, rfl, hqb, hqc⟩ := kW_at hQ.out.in hjl
          have d1 := (hqc j hjl).1
          have d2 := (hqc j hjl).2.1
          have d3 := (hqc j hjl).2.2
          have HS1 := hid (stands_take t hjl)
          obtain ⟨⟨y1, y2, y3⟩, ey⟩ : ∃ v, v = el q j := ⟨_, rfl⟩
          rw [← ey] at d1 d2 d3 HS1
          clear ey hqc
          dsimp only at d1 d2 d3 HS1
          have hsl2 := stands_le t (q.take j)
          simp only [List.length_take] at hsl2
          rcases he : (y1 == t) with _ | _
          · have HN : Hid (kI.Own (w.heap.size + 1) (wr.alloc (.cells #[.int .i64 y1, .int .i64 y2, .int .i64 y3] 28)) v (base ++ stands t (q.take (j + 1)))) := by
              rw [Hid, HS1.out, if_neg (by simpa using he), List.append_nil]; exact hO.out.below (below1 _ _)
            have hBa := Below.allocS hB (.cells #[.int .i64 y1, .int .i64 y2, .int .i64 y3] 28)
            have hQa := hid (hQ.out.later (below1 wr (.cells #[.int .i64 y1, .int .i64 y2, .int .i64 y3] 28)))
            clear HS1
            go_wp2
            go_roundw
            case rel => exact ⟨j + 1, v, rfl, by omega, by go_num, HN, hBa, hQa, by simp; omega⟩
            case measure => simp [intOf]; omega
          · have HE2 : Hid (stands t (q.take (j + 1)) = stands t (q.take j) ++ [y2]) := by rw [Hid, HS1.out, if_pos (by simpa using he)]
            have HA : Hid (kI.Own (w.heap.size + 1) ((wr.alloc (.cells #[.int .i64 y1, .int .i64 y2, .int .i64 y3] 28)).alloc (.cells #[.int .i64 y2] 3)) v (base ++ stands t (q.take j))) := (hO.out.below (below1 _ _)).below (below1 _ _)
            have HN : Hid (kI.In (wr.heap.size + 1 + 1) ((wr.alloc (.cells #[.int .i64 y1, .int .i64 y2, .int .i64 y3] 28)).alloc (.cells #[.int .i64 y2] 3)) (some ⟨wr.heap.size + 1, 0, none⟩) [y2]) := int_one (by omega) (by simp)
            have hll : (base ++ stands t (q.take j)).length + 1 ≤ 4194304 := by simp only [List.length_append]; omega
            have hBa : Below w.heap.size w ((wr.alloc (.cells #[.int .i64 y1, .int .i64 y2, .int .i64 y3] 28)).alloc (.cells #[.int .i64 y2] 3)) := Below.allocS (Below.allocS hB _) _
            have hQa := hid ((hQ.out.later (below1 wr (.cells #[.int .i64 y1, .int .i64 y2, .int .i64 y3] 28))).later (below1 _ (.cells #[.int .i64 y2] 3)))
            clear HS1
            go_wp2_with (at_builtin; refine Kind.app kI_ok ((wr.alloc (.cells #[.int .i64 y1, .int .i64 y2, .int .i64 y3] 28)).alloc (.cells #[.int .i64 y2] 3)) rfl (.tmp 37) (.tmp 40) rfl (w.heap.size + 1) v (base ++ stands t (q.take j)) rfl HA.out (by simp; omega) (some ⟨wr.heap.size + 1, 0, none⟩) [y2] 1 1 rfl rfl (by simp) _ HN.out hll ?_; intro v' w' hO' hB' hG' hn'; have hB5 : Below w.heap.size w w' := hBa.trans (hB'.mono (by omega)); have hs5 : w.heap.size + 1 ≤ w'.heap.size := (by have := hB'.size; simp at this; omega); have hQ5 := hid (fresh_grown hQa.out HA.out ne_IW.symm hG'); have O5 : Hid (kI.Own (w.heap.size + 1) w' v' (base ++ stands t (q.take (j + 1)))) := (by rw [Hid, HE2.out, ← List.append_assoc]; exact hO'); clear hO' hB' hG' hn')
            go_roundw
            case rel => exact ⟨j + 1, v', rfl, by omega, by go_num, O5, hB5, hQ5, hs5⟩
            case measure => simp [intOf]; omega
        · obtain rfl : j = q.length := by omega
          rw [List.take_length] at hO
          have HN : Hid (kI.Own (w.heap.size + 1) wr v (stands t (wts ((ts.take (k + 1)).map valChan)))) := by rw [Hid, HST.out]; exact hO.out
          go_wp2
          go_roundw
          case rel => exact ⟨k + 1, v, rfl, by omega, by go_num, HN, hB, hs⟩
          case measure => simp [intOf]; omega
    · obtain rfl : k = ts.length := by omega
      rw [List.take_length] at hO
      obtain ⟨qo', qc', rfl, hq0, hF⟩ := hO.out.fresh
      have HF : Hid (kI.Fresh w.heap.size wr.heap.size wr qo' qc' (stands t (wts (ts.map valChan)))) := hF.wide (by omega) (Nat.le_refl _)
      obtain ⟨zs, hzs⟩ : ∃ zs, zs = stands t (wts (ts.map valChan)) := ⟨_, rfl⟩
      rw [← hzs] at HF HR hsl HSN ⊢
      clear hF hO hq0 hzs
      go_wp2_with fail
      refine (sortI_any w.heap.size wr.heap.size qo' qc' zs wr (by omega) HF.out).mono ?_
      rintro e w5 ⟨⟨vv, rfl⟩, ys, hP, hS, hY, hbt⟩
      have hB5 := hB.trans ((hbt.below (by omega)).mono (Nat.le_refl _))
      have hyl : ys.length = zs.length := hP.length_eq
      have HE := hid (rise_eq hP hS HSN.out.1 HSN.out.2)
      have HY : Hid (kI.Fresh w.heap.size w5.heap.size w5 qo' qc' ys) := hY.wide (Nat.le_refl _) hbt.size
      clear hP hS hY hbt
      go_wp2
      refine bodyPost_ret (v := .tuple #[.slice qo' zs.length qc', .bool true]) (by simp [results, Try.results44, go_sem]) rfl ?_
      rw [HR.out, ← HE.out]
      exact ⟨⟨_, _, by rw [hyl], HY.out⟩, hB5⟩
end Go.Proofs.Ytlnjhajdbofhlaa
