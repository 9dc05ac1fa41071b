
/- Who waits on a topic. No conditions but those written. -/
import Derived.Test.YtimkadnnhfllnaaTq
namespace Go.Proofs.Ytimkadnnhfllnaa
open Go.RowKit

/-- Nothing can be said to it. -/
def waitsB (p : PSub) : Bool := !p.2.2.1 && ((p.2.2.2.2.length : Int) == p.2.1)
/-- The ids of those that wait. -/
def waitI (ps : List PSub) : List Int := (ps.filter waitsB).map (·.1)
theorem waitI_le (ps : List PSub) : (waitI ps).length ≤ ps.length := by rw [waitI, List.length_map]; exact List.length_filter_le _ _
theorem waitI_in {ps : List PSub} {k : Nat} (h : k < ps.length) (he : waitsB (el ps k) = true) : waitI (ps.take (k + 1)) = waitI (ps.take k) ++ [(el ps k).1] := by rw [take_succ_el h, waitI, List.filter_append, List.map_append]; simp [waitI, he]
theorem waitI_out {ps : List PSub} {k : Nat} (h : k < ps.length) (he : waitsB (el ps k) = false) : waitI (ps.take (k + 1)) = waitI (ps.take k) := by rw [take_succ_el h, waitI, List.filter_append, List.map_append]; simp [waitI, he]
/-- A row of ints in its own memory, as an ending. -/
def AnsI (w : World) (q : List Int) (e : Ending) (w' : World) : Prop := (∃ go qc, e = .returned (.slice go q.length qc) ∧ kI.Fresh w.heap.size w'.heap.size w' go qc q) ∧ Below w.heap.size w w'
/-- A row of ints in its own memory and a mark, as an ending. -/
def AnsIB (w : World) (r : List Int × Bool) (e : Ending) (w' : World) : Prop := (∃ go qc, e = .returned (.tuple #[.slice go r.1.length qc, .bool r.2]) ∧ kI.Fresh w.heap.size w'.heap.size w' go qc r.1) ∧ Below w.heap.size w w'
/-- What WaitingOn answers. -/
def waitR (sd : Int) (ps : List PSub) : List Int × Bool := if topicB sd ps then (waitI ps, true) else ([], false)
set_option maxHeartbeats 1000000 in
theorem waits_is (nd kap : Int) (dr : Bool) (dp : Int) (qo : Option Addr) (qc : Nat) (q : List Int) (w : World) (x : Bool) (hx : waitsB (nd, kap, dr, dp, q) = x) :
    Calls Try.prog 34 #[.agg #[.int .i64 nd, .int .i64 kap, .bool dr, .int .i64 dp, .slice qo q.length qc]] w fun e w' => e = .returned (.bool x) ∧ Below w.heap.size w w' := by
  have HX := hid hx
  have hB0 := below1 w (.cells #[.int .i64 nd, .int .i64 kap, .bool dr, .int .i64 dp, .slice qo q.length qc] 36)
  clear hx
  cases dr
  · go_enter Try.func34, Try.ntmps34
    go_wp2
    go_ret
    exact ⟨ret_bool (by rw [← HX.out]; simp [waitsB]), hB0⟩
  · go_enter Try.func34, Try.ntmps34
    go_wp2
    go_ret
    exact ⟨ret_bool (by rw [← HX.out]; simp [waitsB]), hB0⟩
set_option maxRecDepth 10000 in
set_option maxHeartbeats 4000000 in
theorem waitingIds_any (ao : Option Addr) (cap : Nat) (ts : List LSub) (w : World) (hl : ts.length ≤ 1048576) (hz : hSub.In w.heap.size w ao ts) :
    Calls Try.prog 15 #[.slice ao ts.length cap] w fun e w' => AnsI w (waitI (ts.map valSub)) e w' := by
  have HZ := hid hz
  clear hz
  go_enter Try.func15, Try.ntmps15
  go_wp2
  go_loopw [3, 8] (fun u i wr => ∃ (k : Nat) (v : Value), v = u ∧ k ≤ ts.length ∧ i = .int .i64 k ∧ Hid (kI.Own w.heap.size wr v (waitI ((ts.map valSub).take k))) ∧ Below w.heap.size w wr) (fun _ i _ => ts.length - (intOf i).toNat)
  case atStart => exact ⟨0, _, rfl, Nat.zero_le _, rfl, Kind.Own.nil _ _ _, Below.refl _ _⟩
  case round =>
    obtain ⟨k, v, rfl, hk, rfl, hO, hB⟩ := hrel
    by_cases hlt : k < ts.length
    · obtain ⟨b0, off, rfl, hb, hc⟩ := hSub_at HZ.out hlt
      have d1 := (hB.cell (p := ⟨b0, off + k * 5, none⟩) hb).trans (hc k hlt).1
      have d2 := (hB.cell (p := ⟨b0, off + k * 5 + 1, none⟩) hb).trans (hc k hlt).2.1
      have d3 := (hB.cell (p := ⟨b0, off + k * 5 + 2, none⟩) hb).trans (hc k hlt).2.2.1
      have d4 := (hB.cell (p := ⟨b0, off + k * 5 + 3, none⟩) hb).trans (hc k hlt).2.2.2.1
      have d5 := (hB.cell (p := ⟨b0, off + k * 5 + 4, none⟩) hb).trans (hc k hlt).2.2.2.2
      have hev := el_val hlt
      obtain ⟨⟨nd, kap, dr, dp, ⟨qo, qc, q⟩⟩, ey⟩ : ∃ v, v = el ts k := ⟨_, rfl⟩
      rw [← ey] at d1 d2 d3 d4 d5 hev
      have HE : Hid (el (ts.map valSub) k = (nd, kap, dr, dp, q)) := hev
      have HLT : Hid (k < (ts.map valSub).length) := by rw [Hid, List.length_map]; exact hlt
      clear ey hev hc
      dsimp only at d1 d2 d3 d4 d5
      have hs := hB.size
      obtain ⟨VW, hVW⟩ : ∃ VW, VW = wr.alloc (.cells #[.int .i64 nd, .int .i64 kap, .bool dr, .int .i64 dp, .slice qo q.length qc] 36) := ⟨_, rfl⟩
      have hbW : Below wr.heap.size wr VW := by rw [hVW]; exact below1 _ _
      have XW : Hid (Bx VW wr.heap.size [.int .i64 nd, .int .i64 kap, .bool dr, .int .i64 dp, .slice qo q.length qc]) := by rw [hVW]; exact Bx.new [.int .i64 nd, .int .i64 kap, .bool dr, .int .i64 dp, .slice qo q.length qc] _ rfl
      have hBW := hB.trans (hbW.mono hB.size)
      have OW := hid (hO.out.below hbW)
      have HVW := hid hVW
      clear hbW hVW hO
      cases he : waitsB (nd, kap, dr, dp, q)
      · have HW := hid he
        clear he
        go_wp2_with fail
        rw [← HVW.out]
        refine (waits_is nd kap dr dp qo qc q _ false HW.out).mono ?_
        rintro e w4 ⟨rfl, hb4⟩
        have hB4 := hBW.trans (hb4.mono hBW.size)
        have O4 := hid (OW.out.below hb4)
        have X4 := hid (XW.out.later hb4)
        have hs4 := hB4.size
        clear hb4 OW XW d1 d2 d3 d4 d5
        have O5 : Hid (kI.Own w.heap.size w4 v (waitI ((ts.map valSub).take (k + 1)))) := by rw [Hid, waitI_out HLT.out (by rw [HE.out]; exact HW.out)]; exact O4.out
        go_wp2
        go_roundw
        case rel => exact ⟨k + 1, _, rfl, by omega, by go_num, O5, hB4⟩
        case measure => simp [intOf]; omega
      · have HW := hid he
        clear he
        go_wp2_with fail
        rw [← HVW.out]
        refine (waits_is nd kap dr dp qo qc q _ true HW.out).mono ?_
        rintro e w4 ⟨rfl, hb4⟩
        have hB4 := hBW.trans (hb4.mono hBW.size)
        have O4 := hid (OW.out.below hb4)
        have X4 := hid (XW.out.later hb4)
        have hs4 := hB4.size
        clear hb4 OW XW d1 d2 d3 d4 d5
        have x0 := X4.out.c 0 rfl
        have HA : Hid (kI.Own w.heap.size (w4.alloc (.cells #[.int .i64 nd] 3)) v (waitI ((ts.map valSub).take k))) := O4.out.below (below1 _ _)
        have HN : Hid (kI.In (w4.heap.size + 1) (w4.alloc (.cells #[.int .i64 nd] 3)) (some ⟨w4.heap.size, 0, none⟩) [nd]) := int_one (by omega) (by simp)
        have hll : (waitI ((ts.map valSub).take k)).length + 1 ≤ 4194304 := by have := waitI_le ((ts.map valSub).take k); simp at this; omega
        have hBa : Below w.heap.size w (w4.alloc (.cells #[.int .i64 nd] 3)) := Below.allocS hB4 _
        go_wp2_with (at_builtin; refine Kind.app kI_ok (w4.alloc (.cells #[.int .i64 nd] 3)) rfl (.tmp 14) (.tmp 17) rfl w.heap.size v (waitI ((ts.map valSub).take k)) rfl HA.out (by simp; omega) (some ⟨w4.heap.size, 0, none⟩) [nd] 1 1 rfl rfl (by simp) _ HN.out hll ?_; intro v' w' hO' hB' hG' hn'; have hB2 : Below w.heap.size w w' := hBa.trans (hB'.mono (by omega)); have HO' : Hid (kI.Own w.heap.size w' v' (waitI ((ts.map valSub).take (k + 1)))) := (by rw [Hid, waitI_in HLT.out (by rw [HE.out]; exact HW.out), HE.out]; simpa using hO'); clear hO' hB' hG' hn')
        go_roundw
        case rel => exact ⟨k + 1, v', rfl, by omega, by go_num, HO', hB2⟩
        case measure => simp [intOf]; omega
    · obtain rfl : k = ts.length := by omega
      rw [List.take_of_length_le (by simp)] at hO
      obtain ⟨qo, qc, rfl, _, hF⟩ := hO.out.fresh
      have HF : Hid (kI.Fresh w.heap.size wr.heap.size wr qo qc (waitI (ts.map valSub))) := hF
      clear hF hO
      go_wp2
      go_ret
      exact ⟨⟨_, _, rfl, HF.out⟩, hB⟩
set_option maxRecDepth 10000 in
set_option maxHeartbeats 4000000 in
theorem l9Waiting_any (sd : Int) (ao : Option Addr) (cap : Nat) (ts : List LSub) (w : World) (hl : ts.length ≤ 1048576) (hz : hSub.In w.heap.size w ao ts) :
    Calls Try.prog 19 #[.agg #[.int .i64 sd, .slice ao ts.length cap]] w fun e w' => AnsI w (waitI (ts.map valSub)) e w' := by
  have HZ := hid hz
  have hB0 := below1 w (.cells #[.int .i64 sd, .slice ao ts.length cap] 25)
  clear hz
  go_enter Try.func19, Try.ntmps19
  go_wp2
  go_loopw [3, 9] (fun u i wr => ∃ (k : Nat) (v : Value), v = u ∧ k ≤ ts.length ∧ i = .int .i64 k ∧ Hid (kI.Own w.heap.size wr v (waitI ((ts.map valSub).take k))) ∧ Below w.heap.size w wr ∧ Hid True) (fun _ i _ => ts.length - (intOf i).toNat)
  case atStart => exact ⟨0, _, rfl, Nat.zero_le _, rfl, Kind.Own.nil _ _ _, hB0, trivial⟩
  case round =>
    obtain ⟨k, v, rfl, hk, rfl, hO, hB, hX⟩ := hrel
    by_cases hlt : k < ts.length
    · obtain ⟨b0, off, rfl, hb, hc⟩ := hSub_at HZ.out hlt
      have d1 := (hB.cell (p := ⟨b0, off + k * 5, none⟩) hb).trans (hc k hlt).1
      have d2 := (hB.cell (p := ⟨b0, off + k * 5 + 1, none⟩) hb).trans (hc k hlt).2.1
      have d3 := (hB.cell (p := ⟨b0, off + k * 5 + 2, none⟩) hb).trans (hc k hlt).2.2.1
      have d4 := (hB.cell (p := ⟨b0, off + k * 5 + 3, none⟩) hb).trans (hc k hlt).2.2.2.1
      have d5 := (hB.cell (p := ⟨b0, off + k * 5 + 4, none⟩) hb).trans (hc k hlt).2.2.2.2
      have hev := el_val hlt
      obtain ⟨⟨nd, kap, dr, dp, ⟨qo, qc, q⟩⟩, ey⟩ : ∃ v, v = el ts k := ⟨_, rfl⟩
      rw [← ey] at d1 d2 d3 d4 d5 hev
      have HE : Hid (el (ts.map valSub) k = (nd, kap, dr, dp, q)) := hev
      have HLT : Hid (k < (ts.map valSub).length) := by rw [Hid, List.length_map]; exact hlt
      clear ey hev hc
      dsimp only at d1 d2 d3 d4 d5
      have hs := hB.size
      have hXA := hid hX.out
      cases dr
      · by_cases hq : (q.length : Int) = kap
        · have hq' : ((q.length : Int) == kap) = true := by simpa using hq
          have HW : Hid (waitsB (nd, kap, false, dp, q) = true) := by rw [Hid, waitsB]; simpa using hq
          clear hq
          have HA : Hid (kI.Own w.heap.size ((wr.alloc (.cells #[.int .i64 nd, .int .i64 kap, .bool false, .int .i64 dp, .slice qo q.length qc] 36)).alloc (.cells #[.int .i64 nd] 3)) v (waitI ((ts.map valSub).take k))) := (hO.out.below (below1 _ _)).below (below1 _ _)
          have HN : Hid (kI.In (wr.heap.size + 1 + 1) ((wr.alloc (.cells #[.int .i64 nd, .int .i64 kap, .bool false, .int .i64 dp, .slice qo q.length qc] 36)).alloc (.cells #[.int .i64 nd] 3)) (some ⟨wr.heap.size + 1, 0, none⟩) [nd]) := int_one (by omega) (by simp)
          have hll : (waitI ((ts.map valSub).take k)).length + 1 ≤ 4194304 := by have := waitI_le ((ts.map valSub).take k); simp at this; omega
          have hBa : Below w.heap.size w ((wr.alloc (.cells #[.int .i64 nd, .int .i64 kap, .bool false, .int .i64 dp, .slice qo q.length qc] 36)).alloc (.cells #[.int .i64 nd] 3)) := Below.allocS (Below.allocS hB _) _
          skip
          go_wp2_with (at_builtin; refine Kind.app kI_ok ((wr.alloc (.cells #[.int .i64 nd, .int .i64 kap, .bool false, .int .i64 dp, .slice qo q.length qc] 36)).alloc (.cells #[.int .i64 nd] 3)) rfl (.tmp 24) (.tmp 27) rfl w.heap.size v (waitI ((ts.map valSub).take k)) rfl HA.out (by simp; omega) (some ⟨wr.heap.size + 1, 0, none⟩) [nd] 1 1 rfl rfl (by simp) _ HN.out hll ?_; intro v' w' hO' hB' hG' hn'; have hB2 : Below w.heap.size w w' := hBa.trans (hB'.mono (by omega)); have HO' : Hid (kI.Own w.heap.size w' v' (waitI ((ts.map valSub).take (k + 1)))) := (by rw [Hid, waitI_in HLT.out (by rw [HE.out]; exact HW.out), HE.out]; simpa using hO'); have X5 := hid trivial; clear hO' hB' hG' hn')
          go_roundw
          case rel => exact ⟨k + 1, v', rfl, by omega, by go_num, HO', hB2, X5⟩
          case measure => simp [intOf]; omega
        · have hq' : ((q.length : Int) == kap) = false := by simpa using hq
          have HW : Hid (waitsB (nd, kap, false, dp, q) = false) := by rw [Hid, waitsB]; simpa using hq
          clear hq
          have O5 : Hid (kI.Own w.heap.size (wr.alloc (.cells #[.int .i64 nd, .int .i64 kap, .bool false, .int .i64 dp, .slice qo q.length qc] 36)) v (waitI ((ts.map valSub).take (k + 1)))) := by rw [Hid, waitI_out HLT.out (by rw [HE.out]; exact HW.out)]; exact hO.out.below (below1 _ _)
          have hB4 := Below.allocS hB (.cells #[.int .i64 nd, .int .i64 kap, .bool false, .int .i64 dp, .slice qo q.length qc] 36)
          go_wp2
          go_roundw
          case rel => exact ⟨k + 1, _, rfl, by omega, by go_num, O5, hB4, hXA⟩
          case measure => simp [intOf]; omega
      · have HW : Hid (waitsB (nd, kap, true, dp, q) = false) := rfl
        have O5 : Hid (kI.Own w.heap.size (wr.alloc (.cells #[.int .i64 nd, .int .i64 kap, .bool true, .int .i64 dp, .slice qo q.length qc] 36)) v (waitI ((ts.map valSub).take (k + 1)))) := by rw [Hid, waitI_out HLT.out (by rw [HE.out]; exact HW.out)]; exact hO.out.below (below1 _ _)
        have hB4 := Below.allocS hB (.cells #[.int .i64 nd, .int .i64 kap, .bool true, .int .i64 dp, .slice qo q.length qc] 36)
        go_wp2
        go_roundw
        case rel => exact ⟨k + 1, _, rfl, by omega, by go_num, O5, hB4, hXA⟩
        case measure => simp [intOf]; omega
    · obtain rfl : k = ts.length := by omega
      rw [List.take_of_length_le (by simp)] at hO
      obtain ⟨qo, qc, rfl, _, hF⟩ := hO.out.fresh
      have HF : Hid (kI.Fresh w.heap.size wr.heap.size wr qo qc (waitI (ts.map valSub))) := hF
      clear hF hO
      go_wp2
      go_ret
      exact ⟨⟨_, _, rfl, HF.out⟩, hB⟩
end Go.Proofs.Ytimkadnnhfllnaa
