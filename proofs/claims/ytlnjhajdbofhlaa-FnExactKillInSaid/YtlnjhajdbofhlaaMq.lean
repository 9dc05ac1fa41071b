
/- At how many places each task waits; those that are kept. No conditions but those written. -/
import Derived.Test.YtlnjhajdbofhlaaMp
import Derived.Test.YtlnjhajdbofhlaaKe
import Derived.Test.YtlnjhajdbofhlaaKg
import Derived.Test.YtlnjhajdbofhlaaKn
namespace Go.Proofs.Ytlnjhajdbofhlaa
open Go.RowKit Go.Maps

/-- How often a task stands among the waiters. -/
def oft (l : List (Int × Int × Int)) (t : Int) : Int := ((l.filter fun x => x.1 == t).length : Int)
theorem oft_nil (t : Int) : oft [] t = 0 := rfl
theorem oft_app (a b : List (Int × Int × Int)) (t : Int) : oft (a ++ b) t = oft a t + oft b t := by simp [oft]
theorem oft_one (y1 y2 y3 t : Int) : oft [(y1, y2, y3)] t = if t = y1 then 1 else 0 := by
  by_cases h : t = y1
  · simp [oft, h]
  · have : (y1 == t) = false := by simpa using fun e : y1 = t => h e.symm
    simp [oft, this, h]
theorem oft_bound (l : List (Int × Int × Int)) (t : Int) : 0 ≤ oft l t ∧ oft l t ≤ l.length := by
  have := List.length_filter_le (fun x : Int × Int × Int => x.1 == t) l
  simp only [oft]; omega
theorem oft_stands (l : List (Int × Int × Int)) (t : Int) : oft l t = (stands t l).length := by simp [oft, stands]
theorem oft_pos {l : List (Int × Int × Int)} {x : Int × Int × Int} (h : x ∈ l) : 0 < oft l x.1 := by
  have : 0 < (l.filter fun y => y.1 == x.1).length := List.length_pos_of_mem (List.mem_filter.2 ⟨h, by simp⟩)
  simp only [oft]; omega
set_option maxRecDepth 10000 in
set_option maxHeartbeats 16000000 in
theorem placesOf_any (ao : Option Addr) (cap : Nat) (ts : List LChan) (w : World) (_hl : ts.length ≤ 1048576) (ht : totChan ts ≤ 1048576) (hz : DIn dChan w.heap.size w ao ts) (hg : ∀ c ∈ ts.map valChan, goodP c = true) :
    Calls Try.prog 101 #[.agg #[.slice ao ts.length cap]] w fun e w' => (∃ g n, e = .returned (.map (some g)) ∧ w.heap.size ≤ g ∧ n ≤ 1048576 ∧ MapF w' g n (oft (wts (ts.map valChan)))) ∧ Below w.heap.size w w' := by
  have HZ := hid hz
  have HTT := hid ht
  have HOK := hid (wts_ok hg)
  clear hz ht hg
  have hmm := @run_makeMap Try.prog
  have hB0 : Below w.heap.size w ((w.alloc (.cells #[.slice ao ts.length cap] 56)).alloc (.map #[] 0)) := below2 _ _ _
  have M0 : Hid (MapF ((w.alloc (.cells #[.slice ao ts.length cap] 56)).alloc (.map #[] 0)) (w.heap.size + 1) 0 (fun _ => 0)) := by
    have h := MapF.made (w.alloc (.cells #[.slice ao ts.length cap] 56))
    rw [World.size_alloc] at h; exact h
  have A0 := hid ((Bx.new (w := w) (p := w.heap.size) [.slice ao ts.length cap] 56 rfl).alloc (.map #[] 0))
  have a0 := A0.out.c 0 rfl
  go_enter Try.func101, Try.ntmps101
  go_wp2
  clear a0 A0 hmm
  go_loopw [12] (fun i wr => ∃ (k n : Nat), k ≤ ts.length ∧ i = .int .i64 (k : Int) ∧ n ≤ (wts ((ts.take k).map valChan)).length ∧ Hid (MapF wr (w.heap.size + 1) n (oft (wts ((ts.take k).map valChan)))) ∧ Below w.heap.size w wr) (fun i _ => ts.length - (intOf i).toNat)
  case atStart => exact ⟨0, 0, Nat.zero_le _, rfl, Nat.zero_le _, M0, hB0⟩
  case round =>
    obtain ⟨k, n, hk, rfl, hn, hM, hB⟩ := hrel
    have hMl := hM.out.lt
    by_cases hlt : k < ts.length
    · obtain ⟨b0, off, rfl, hb, hc⟩ := hChan_at HZ.out.1 hlt
      have e1 := (hB.cell (p := ⟨b0, off + k * 5, none⟩) hb).trans (hc k hlt).1
      have e2 := (hB.cell (p := ⟨b0, off + k * 5 + 1, none⟩) hb).trans (hc k hlt).2.1
      have e3 := (hB.cell (p := ⟨b0, off + k * 5 + 2, none⟩) hb).trans (hc k hlt).2.2.1
      have e4 := (hB.cell (p := ⟨b0, off + k * 5 + 3, none⟩) hb).trans (hc k hlt).2.2.2.1
      have e5 := (hB.cell (p := ⟨b0, off + k * 5 + 4, none⟩) hb).trans (hc k hlt).2.2.2.2
      have hI := HZ.out.2 k hlt
      have HT := hid (wts_take hlt)
      have hln := wts_len_take hlt
      have htt := HTT.out
      have hev : ∀ x ∈ (el ts k).2.2.2.1.2.2 ++ (el ts k).2.2.2.2.2.2, TaskN x.1 := fun x hx => by
        have hw : x ∈ wts (ts.map valChan) := by
          simp only [wts, List.mem_flatMap]
          exact ⟨valChan (el ts k), el_val hlt, hx⟩
        have := HOK.out x hw
        exact ⟨this.1, this.2.1⟩
      obtain ⟨⟨kap, cl, ⟨bo, bc, b⟩, ⟨so, sc, s⟩, ⟨ro, rc, r⟩⟩, ex⟩ : ∃ v, v = el ts k := ⟨_, rfl⟩
      rw [← ex] at e1 e2 e3 e4 e5 hI HT hln hev
      have HI : Hid (InChan w.heap.size w bo b so s ro r) := hI
      clear ex hc hI
      dsimp only at e1 e2 e3 e4 e5 HT hln hev
      generalize hbase : wts ((ts.take k).map valChan) = base at hM hn HT hln
      obtain ⟨VV, hVV⟩ : ∃ VV, VV = wr.alloc (.cells #[.int .i64 kap, .bool cl, .slice bo b.length bc, .slice so s.length sc, .slice ro r.length rc] 26) := ⟨_, rfl⟩
      have hbV : Below wr.heap.size wr VV := by rw [hVV]; exact below1 _ _
      have hBV := hB.trans (hbV.mono hB.size)
      have MV := hid (hM.out.later hbV)
      have HVV := hid hVV
      clear hbV hVV hM hbase
      go_wp2_with fail
      rw [← HVV.out]
      refine (waitersAt_any kap cl bo bc b so sc s ro rc r VV (by omega) (by omega) ((HI.out.below hBV).up hBV.size)).mono ?_
      rintro e w4 ⟨⟨qo, qc, rfl, _, hF4⟩, hb4⟩
      have hB4 := hBV.trans (hb4.mono hBV.size)
      have M4 := hid (MV.out.later hb4)
      have Q4 := hid hF4
      obtain ⟨q, hq⟩ : ∃ q, q = s ++ r := ⟨_, rfl⟩
      have hql : q.length ≤ 1048576 := by rw [hq]; simp; omega
      have hbl : base.length + q.length ≤ 1048576 := by rw [hq]; simp; omega
      rw [← hq] at Q4 HT hev ⊢
      have HEV := hid hev
      clear hb4 hF4 MV e1 e2 e3 e4 e5 hq HVV hev
      go_wp2
      go_loopw [19] (fun i wn => ∃ (j n : Nat), j ≤ q.length ∧ i = .int .i64 (j : Int) ∧ n ≤ base.length + j ∧ Hid (MapF wn (w.heap.size + 1) n (oft (base ++ q.take j))) ∧ Below w.heap.size w wn ∧ Hid (kW.Fresh VV.heap.size w4.heap.size wn qo qc q)) (fun i _ => q.length - (intOf i).toNat)
      case atStart => exact ⟨0, n, Nat.zero_le _, rfl, by omega, by simpa using M4, hB4, Q4⟩
      case round =>
        clear M4 Q4 hB4
        obtain ⟨j, n, hj, rfl, hn, hM, hB, hQ⟩ := hrel
        have hMl := hM.out.lt
        by_cases hjl : j < q.length
        · obtain ⟨qb, qoff, rfl, hqb, hqc⟩ := kW_at hQ.out.in hjl
          have d1 := (hqc j hjl).1
          have d2 := (hqc j hjl).2.1
          have d3 := (hqc j hjl).2.2
          have HTK := hid (take_succ_el hjl)
          have htn := HEV.out _ (el_mem hjl)
          obtain ⟨⟨y1, y2, y3⟩, ey⟩ : ∃ v, v = el q j := ⟨_, rfl⟩
          rw [← ey] at d1 d2 d3 HTK htn
          clear ey hqc
          dsimp only at d1 d2 d3 htn
          have HTN := hid htn
          obtain ⟨f, hf⟩ : ∃ f, f = oft (base ++ q.take j) := ⟨_, rfl⟩
          have hfb : 0 ≤ f y1 ∧ f y1 ≤ 1048576 := by
            have := oft_bound (base ++ q.take j) y1
            rw [hf]; simp only [List.length_append, List.length_take] at this; omega
          rw [← hf] at hM
          have HFF := hid hf
          have MA := hid (hM.out.later (below1 wr (.cells #[.int .i64 y1, .int .i64 y2, .int .i64 y3] 28)))
          have QA := hid (hQ.out.later (below1 wr (.cells #[.int .i64 y1, .int .i64 y2, .int .i64 y3] 28)))
          have hBa := Below.allocS hB (.cells #[.int .i64 y1, .int .i64 y2, .int .i64 y3] 28)
          have hmx : n < maxLen := by unfold maxLen; omega
          clear htn hf
          go_wp2_with (first
            | (at_lookup; refine wpl_look _ rfl _ _ rfl (w.heap.size + 1) n f rfl MA.out y1 rfl HTN.out ?_)
            | (at_mapUpdate; refine wpl_put _ rfl _ _ _ rfl (w.heap.size + 1) n f rfl MA.out hmx y1 (f y1 + 1) rfl (by first | rfl | (simp; omega)) HTN.out (by omega) ?_; intro w1 hM1 hG1)
            | go_in)
          have HM1 : Hid (MapF w1 (w.heap.size + 1) (n + 1) (oft (base ++ q.take (j + 1)))) := hM1.ext fun z hz => by
            rw [HTK.out, ← List.append_assoc, oft_app _ [(y1, y2, y3)], oft_one, ← HFF.out]
            by_cases e : z = y1
            · subst e; simp
            · rw [if_neg e, if_neg e]; simp
          have hB1 : Below w.heap.size w w1 := hBa.grown hG1 hBa.size (fun z hz => by cases hz; omega)
          have HQ1 := hid (QA.out.keepB (W' := w1) fun b hb => hG1.block b (QA.out.lt hb).2.2.1 fun e => (by
            obtain ⟨h5, _, h6, cur, h4⟩ := QA.out.lt hb
            obtain ⟨_, ⟨es, clock, h7, _⟩, _⟩ := MA.out
            simp at e
            subst e
            rw [h4] at h7
            simp at h7))
          clear hM1 hG1
          go_roundw
          case rel => exact ⟨j + 1, n + 1, by omega, by go_num, by omega, HM1, hB1, HQ1⟩
          case measure => simp [intOf]; omega
        · obtain rfl : j = q.length := by omega
          rw [List.take_length] at hM
          have HN : Hid (MapF wr (w.heap.size + 1) n (oft (wts ((ts.take (k + 1)).map valChan)))) := by rw [Hid, HT.out]; exact hM.out
          have hn2 : n ≤ (wts ((ts.take (k + 1)).map valChan)).length := by rw [HT.out]; simp; omega
          go_wp2
          go_roundw
          case rel => exact ⟨k + 1, n, by omega, by go_num, hn2, HN, hB⟩
          case measure => simp [intOf]; omega
    · obtain rfl : k = ts.length := by omega
      rw [List.take_length] at hM hn
      have hwl := wts_len ts
      have htt := HTT.out
      go_wp2
      go_ret
      exact ⟨⟨_, n, rfl, by omega, by omega, hM.out⟩, hB⟩
/-- Those whose task is kept. -/
def keptW (f : Int → Int) (l : List (Int × Int × Int)) : List (Int × Int × Int) := l.filter fun x => decide (0 < f x.1)
theorem keptW_le (f : Int → Int) (l : List (Int × Int × Int)) : (keptW f l).length ≤ l.length := List.length_filter_le _ _
theorem keptW_in {f : Int → Int} {l : List (Int × Int × Int)} {k : Nat} (h : k < l.length) (he : 0 < f (el l k).1) : keptW f (l.take (k + 1)) = keptW f (l.take k) ++ [el l k] := by rw [take_succ_el h, keptW, List.filter_append]; simp [keptW, he]
theorem keptW_out {f : Int → Int} {l : List (Int × Int × Int)} {k : Nat} (h : k < l.length) (he : ¬ 0 < f (el l k).1) : keptW f (l.take (k + 1)) = keptW f (l.take k) := by rw [take_succ_el h, keptW, List.filter_append]; simp [keptW, he]
set_option maxRecDepth 10000 in
set_option maxHeartbeats 8000000 in
theorem onlyThose_any (lo : Option Addr) (lc : Nat) (l : List (Int × Int × Int)) (g n : Nat) (f : Int → Int) (w : World) (hl : l.length ≤ 1048576) (hz : kW.In w.heap.size w lo l) (hM : MapF w g n f) (ht : ∀ x ∈ l, TaskN x.1) :
    Calls Try.prog 127 #[.slice lo l.length lc, .map (some g)] w fun e w' => (∃ o c, e = .returned (.slice o (keptW f l).length c) ∧ kW.Fresh w.heap.size w'.heap.size w' o c (keptW f l)) ∧ Below w.heap.size w w' := by
  have HM := hid hM
  have HT := hid ht
  have hgl := hM.lt
  clear hM ht
  go_enter Try.func127, Try.ntmps127
  go_wp2
  go_loopw [5, 10] (fun u i wr => ∃ (k : Nat) (v : Value), v = u ∧ k ≤ l.length ∧ i = .int .i64 (k : Int) ∧ Hid (kW.Own w.heap.size wr v (keptW f (l.take k))) ∧ Below w.heap.size w wr) (fun _ i _ => l.length - (intOf i).toNat)
  case atStart => exact ⟨0, _, rfl, Nat.zero_le _, rfl, Kind.Own.nil _ _ _, Below.refl _ _⟩
  case round =>
    obtain ⟨k, v, rfl, hk, rfl, hO, hB⟩ := hrel
    by_cases hlt : k < l.length
    · obtain ⟨bb, off, rfl, hbb, hc⟩ := kW_at hz hlt
      have d1 := (hB.cell (p := ⟨bb, off + k * 3, none⟩) hbb).trans (hc k hlt).1
      have d2 := (hB.cell (p := ⟨bb, off + k * 3 + 1, none⟩) hbb).trans (hc k hlt).2.1
      have d3 := (hB.cell (p := ⟨bb, off + k * 3 + 2, none⟩) hbb).trans (hc k hlt).2.2
      have htn := HT.out _ (el_mem hlt)
      obtain ⟨⟨y1, y2, y3⟩, ey⟩ : ∃ v, v = el l k := ⟨_, rfl⟩
      rw [← ey] at d1 d2 d3 htn
      have HY : Hid (el l k = (y1, y2, y3)) := ey.symm
      have HTN := hid htn
      clear ey hc htn
      dsimp only at d1 d2 d3
      have hs := hB.size
      have MA : Hid (MapF (wr.alloc (.cells #[.int .i64 y1, .int .i64 y2, .int .i64 y3] 28)) g n f) := HM.out.keep (((Below.allocS hB (.cells #[.int .i64 y1, .int .i64 y2, .int .i64 y3] 28))).block g hgl)
      by_cases he : 0 < f y1
      · have he' : decide (0 < f y1) = true := by simpa using he
        have HA : Hid (kW.Own w.heap.size ((wr.alloc (.cells #[.int .i64 y1, .int .i64 y2, .int .i64 y3] 28)).alloc (.cells #[.int .i64 y1, .int .i64 y2, .int .i64 y3] 28)) v (keptW f (l.take k))) := (hO.out.below (below1 _ _)).below (below1 _ _)
        have HN : Hid (kW.In (wr.heap.size + 1 + 1) ((wr.alloc (.cells #[.int .i64 y1, .int .i64 y2, .int .i64 y3] 28)).alloc (.cells #[.int .i64 y1, .int .i64 y2, .int .i64 y3] 28)) (some ⟨wr.heap.size + 1, 0, none⟩) [(y1, y2, y3)]) := kW_one (by omega) (by simp) (by simp) (by simp)
        have hll : (keptW f (l.take k)).length + 1 ≤ 4194304 := by have := keptW_le f (l.take k); simp at this; omega
        have hBa : Below w.heap.size w ((wr.alloc (.cells #[.int .i64 y1, .int .i64 y2, .int .i64 y3] 28)).alloc (.cells #[.int .i64 y1, .int .i64 y2, .int .i64 y3] 28)) := Below.allocS (Below.allocS hB _) _
        have HE := hid he
        clear he
        go_wp2_with (first
          | (at_lookup; refine wpl_look _ rfl _ _ rfl g n f rfl MA.out y1 rfl HTN.out ?_)
          | (at_builtin; refine Kind.app kW_ok ((wr.alloc (.cells #[.int .i64 y1, .int .i64 y2, .int .i64 y3] 28)).alloc (.cells #[.int .i64 y1, .int .i64 y2, .int .i64 y3] 28)) rfl (.tmp 19) (.tmp 21) rfl w.heap.size v (keptW f (l.take k)) rfl HA.out (by simp; omega) (some ⟨wr.heap.size + 1, 0, none⟩) [(y1, y2, y3)] 1 1 rfl rfl (by simp) _ HN.out hll ?_; intro v' w' hO' hB' hG' hn'; have hB2 : Below w.heap.size w w' := hBa.trans (hB'.mono (by omega)); have HO' : Hid (kW.Own w.heap.size w' v' (keptW f (l.take (k + 1)))) := (by rw [Hid, keptW_in hlt (by rw [HY.out]; exact HE.out), HY.out]; exact hO'); clear hO' hB' hG' hn')
          | go_in)
        go_roundw
        case rel => exact ⟨k + 1, v', rfl, by omega, by go_num, HO', hB2⟩
        case measure => simp [intOf]; omega
      · have he' : decide (0 < f y1) = false := by simpa using he
        have HO' : Hid (kW.Own w.heap.size (wr.alloc (.cells #[.int .i64 y1, .int .i64 y2, .int .i64 y3] 28)) v (keptW f (l.take (k + 1)))) := by rw [Hid, keptW_out hlt (by rw [HY.out]; exact he)]; exact hO.out.below (below1 _ _)
        have hB2 := Below.allocS hB (.cells #[.int .i64 y1, .int .i64 y2, .int .i64 y3] 28)
        clear he
        go_wp2_with (first
          | (at_lookup; refine wpl_look _ rfl _ _ rfl g n f rfl MA.out y1 rfl HTN.out ?_)
          | go_in)
        go_roundw
        case rel => exact ⟨k + 1, _, rfl, by omega, by go_num, HO', hB2⟩
        case measure => simp [intOf]; omega
    · obtain rfl : k = l.length := by omega
      rw [List.take_length] at hO
      obtain ⟨qo, qc, rfl, _, hF⟩ := hO.out.fresh
      have HF : Hid (kW.Fresh w.heap.size wr.heap.size wr qo qc (keptW f l)) := hF
      clear hF hO
      go_wp2
      go_ret
      exact ⟨⟨_, _, rfl, HF.out⟩, hB⟩
end Go.Proofs.Ytlnjhajdbofhlaa
