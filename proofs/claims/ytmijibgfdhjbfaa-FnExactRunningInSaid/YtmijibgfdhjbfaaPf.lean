
/- RunningIn: both sides. No conditions but those written. -/
import Derived.Test.YtmijibgfdhjbfaaPe
namespace Go.Proofs.Ytmijibgfdhjbfaa
open Go.RowKit

/-- What RunningIn answers. -/
def runR (s1 s2 : Int) (l : List Wo) : List Int × Bool := if poolB s1 s2 l = true then (idsOf (atL 2 l), true) else ([], false)
theorem runR_bad {s1 s2 : Int} {l : List Wo} (h : poolB s1 s2 l = false) : runR s1 s2 l = ([], false) := by rw [runR, if_neg]; rw [h]; simp
theorem runR_ok {s1 s2 : Int} {l : List Wo} (h : poolB s1 s2 l = true) : runR s1 s2 l = (idsOf (atL 2 l), true) := by rw [runR, if_pos h]
theorem runR_len {s1 s2 : Int} {l : List Wo} (hl : l.length ≤ 1048576) : (runR s1 s2 l).1.length ≤ 1048576 := by
  unfold runR
  split
  · have := atL_le 2 l
    dsimp only; rw [idsOf_len]; omega
  · simp
/-- A row of ints and a bool, in memory of their own. -/
def AnsQ (w : World) (R : List Int × Bool) (e : Ending) (w' : World) : Prop :=
  (∃ o c, e = .returned (.tuple #[.slice o R.1.length c, .bool R.2]) ∧ kI.Fresh w.heap.size w'.heap.size w' o c R.1) ∧ Below w.heap.size w w'
set_option maxRecDepth 10000 in
set_option maxHeartbeats 4000000 in
theorem l8Running_any (s1 s2 : Int) (lo : Option Addr) (lc : Nat) (l : List Wo) (w : World) (hl : l.length ≤ 1048576) (hz : kW.In w.heap.size w lo l) :
    Calls Try.prog 39 #[.agg #[.int .i64 s1, .int .i64 s2, .slice lo l.length lc]] w fun e w' => AnsI w (idsOf (atL 2 l)) e w' := by
  have hB0 := below1 w (.cells #[.int .i64 s1, .int .i64 s2, .slice lo l.length lc] 29)
  go_enter Try.func39, Try.ntmps39
  go_wp2
  go_loopw [3, 9] (fun u i wr => ∃ (k : Nat) (v : Value), v = u ∧ k ≤ l.length ∧ i = .int .i64 k ∧ Hid (kI.Own w.heap.size wr v (idsOf (atL 2 (l.take k)))) ∧ Below w.heap.size w wr) (fun _ i _ => l.length - (intOf i).toNat)
  case atStart => exact ⟨0, _, rfl, Nat.zero_le _, rfl, Kind.Own.nil _ _ _, hB0⟩
  case round =>
    obtain ⟨k, v, rfl, hk, rfl, hO, hB⟩ := hrel
    by_cases hlt : k < l.length
    · obtain ⟨bb, off, rfl, hbb, hc⟩ := kW_at hz hlt
      have d1 := (hB.cell (p := ⟨bb, off + k * 3, none⟩) hbb).trans (hc k hlt).1
      have d2 := (hB.cell (p := ⟨bb, off + k * 3 + 1, none⟩) hbb).trans (hc k hlt).2.1
      have d3 := (hB.cell (p := ⟨bb, off + k * 3 + 2, none⟩) hbb).trans (hc k hlt).2.2
      obtain ⟨⟨y1, y2, y3⟩, ey⟩ : ∃ v, v = el l k := ⟨_, rfl⟩
      rw [← ey] at d1 d2 d3
      have HY : Hid (el l k = (y1, y2, y3)) := ey.symm
      clear ey hc
      dsimp only at d1 d2 d3
      have hs := hB.size
      cases he : (y2 == 2)
      · have HO' : Hid (kI.Own w.heap.size (wr.alloc (.cells #[.int .i64 y1, .int .i64 y2, .int .i64 y3] 47)) v (idsOf (atL 2 (l.take (k + 1))))) := by rw [Hid, atL_out hlt (by rw [HY.out]; exact he)]; exact hO.out.below (below1 _ _)
        have hB2 := Below.allocS hB (.cells #[.int .i64 y1, .int .i64 y2, .int .i64 y3] 47)
        go_wp2
        go_roundw
        case rel => exact ⟨k + 1, _, rfl, by omega, by go_num, HO', hB2⟩
        case measure => simp [intOf]; omega
      · have HE := hid he
        have HA : Hid (kI.Own w.heap.size ((wr.alloc (.cells #[.int .i64 y1, .int .i64 y2, .int .i64 y3] 47)).alloc (.cells #[.int .i64 y1] 3)) v (idsOf (atL 2 (l.take k)))) := (hO.out.below (below1 _ _)).below (below1 _ _)
        have HN : Hid (kI.In (wr.heap.size + 1 + 1) ((wr.alloc (.cells #[.int .i64 y1, .int .i64 y2, .int .i64 y3] 47)).alloc (.cells #[.int .i64 y1] 3)) (some ⟨wr.heap.size + 1, 0, none⟩) [y1]) := int_one (by omega) (by simp)
        have hll : (idsOf (atL 2 (l.take k))).length + 1 ≤ 4194304 := by have := atL_le 2 (l.take k); rw [idsOf_len]; simp at this; omega
        have hBa : Below w.heap.size w ((wr.alloc (.cells #[.int .i64 y1, .int .i64 y2, .int .i64 y3] 47)).alloc (.cells #[.int .i64 y1] 3)) := Below.allocS (Below.allocS hB _) _
        go_wp2_with (at_builtin; refine Kind.app kI_ok ((wr.alloc (.cells #[.int .i64 y1, .int .i64 y2, .int .i64 y3] 47)).alloc (.cells #[.int .i64 y1] 3)) rfl (.tmp 16) (.tmp 19) rfl w.heap.size v (idsOf (atL 2 (l.take k))) rfl HA.out (by simp; omega) (some ⟨wr.heap.size + 1, 0, none⟩) [y1] 1 1 rfl rfl (by simp) _ HN.out hll ?_; intro v' w' hO' hB' hG' hn'; have hB2 : Below w.heap.size w w' := hBa.trans (hB'.mono (by omega)); have HO' : Hid (kI.Own w.heap.size w' v' (idsOf (atL 2 (l.take (k + 1))))) := (by rw [Hid, atL_in hlt (by rw [HY.out]; exact HE.out), HY.out]; simpa [idsOf] using hO'); clear hO' hB' hG' hn')
        go_roundw
        case rel => exact ⟨k + 1, v', rfl, by omega, by go_num, HO', hB2⟩
        case measure => simp [intOf]; omega
    · obtain rfl : k = l.length := by omega
      rw [List.take_length] at hO
      obtain ⟨qo, qc, rfl, _, hF⟩ := hO.out.fresh
      have HF : Hid (kI.Fresh w.heap.size wr.heap.size wr qo qc (idsOf (atL 2 l))) := hF
      clear hF hO
      go_wp2
      go_ret
      exact ⟨⟨_, _, rfl, HF.out⟩, hB⟩
set_option maxRecDepth 10000 in
set_option maxHeartbeats 4000000 in
theorem implRunning_any (s1 s2 : Int) (lo : Option Addr) (lc : Nat) (l : List Wo) (w : World) (hl : l.length ≤ 1048576) (hz : kW.In w.heap.size w lo l) :
    Calls Try.prog 17 #[.agg #[.int .i64 s1, .int .i64 s2, .slice lo l.length lc]] w fun e w' => AnsQ w (runR s1 s2 l) e w' := by
  have hB0 := below1 w (.cells #[.int .i64 s1, .int .i64 s2, .slice lo l.length lc] 29)
  have A0 := hid (Bx.new (w := w) (p := w.heap.size) [.int .i64 s1, .int .i64 s2, .slice lo l.length lc] 29 rfl)
  cases hg : poolB s1 s2 l
  · have HG := hid hg
    have HR := hid (runR_bad hg)
    clear hg
    go_enter Try.func17, Try.ntmps17
    go_wp2_with fail
    refine (implGoodPool_is s1 s2 lo lc l _ false hl (hz.later hB0) HG.out).mono ?_
    rintro e w1 ⟨rfl, hb1⟩
    have hB1 := hB0.trans (hb1.mono hB0.size)
    clear hb1
    go_wp2
    refine bodyPost_ret (v := .tuple #[.slice none 0 0, .bool false]) (by simp [results, Try.results17, go_sem]) rfl ?_
    rw [HR.out]
    exact ⟨⟨none, 0, rfl, .inl rfl⟩, hB1⟩
  · have HG := hid hg
    have HR := hid (runR_ok hg)
    clear hg
    go_enter Try.func17, Try.ntmps17
    go_wp2_with fail
    refine (implGoodPool_is s1 s2 lo lc l _ true hl (hz.later hB0) HG.out).mono ?_
    rintro e w1 ⟨rfl, hb1⟩
    have hB1 := hB0.trans (hb1.mono hB0.size)
    have A1 := hid (A0.out.later hb1)
    clear hb1 A0
    have a0 := A1.out.c 0 rfl
    have a1 := A1.out.c 1 rfl
    have a2 := A1.out.c 2 rfl
    go_wp2_with fail
    refine (worksAt_any s1 s2 lo lc l 2 _ hl (hz.later hB1)).mono ?_
    rintro e w2 ⟨⟨ro, rc, rfl, hF2⟩, hb2⟩
    have hB2 := hB1.trans (hb2.mono hB1.size)
    have F2 := hid hF2.in
    have hr : (atL 2 l).length ≤ 1048576 := Nat.le_trans (atL_le 2 l) hl
    clear hb2 hF2
    go_wp2_with fail
    refine (workIds_any ro rc (atL 2 l) _ hr F2.out).mono ?_
    rintro e w3 ⟨⟨qo, qc, rfl, hF3⟩, hb3⟩
    have hB3 := hB2.trans (hb3.mono hB2.size)
    have F3 : Hid (kI.Fresh w.heap.size w3.heap.size w3 qo qc (idsOf (atL 2 l))) := hF3.wide hB2.size (Nat.le_refl _)
    clear hb3 hF3
    go_wp2
    refine bodyPost_ret (v := .tuple #[.slice qo (idsOf (atL 2 l)).length qc, .bool true]) (by simp [results, Try.results17, go_sem]) rfl ?_
    rw [HR.out]
    exact ⟨⟨_, _, rfl, F3.out⟩, hB3⟩
set_option maxRecDepth 10000 in
set_option maxHeartbeats 4000000 in
theorem specRunning_any (s1 s2 : Int) (lo : Option Addr) (lc : Nat) (l : List Wo) (w : World) (hl : l.length ≤ 1048576) (hcap : l.length ≤ lc) (hz : kW.In w.heap.size w lo l) :
    Calls Try.prog 16 #[.agg #[.int .i64 s1, .int .i64 s2, .slice lo l.length lc]] w fun e w' => AnsQ w (runR s1 s2 l) e w' := by
  have hB0 := below1 w (.cells #[.int .i64 s1, .int .i64 s2, .slice lo l.length lc] 29)
  have A0 := hid (Bx.new (w := w) (p := w.heap.size) [.int .i64 s1, .int .i64 s2, .slice lo l.length lc] 29 rfl)
  cases hg : poolB s1 s2 l
  · have HG := hid hg
    have HR := hid (runR_bad hg)
    clear hg
    go_enter Try.func16, Try.ntmps16
    go_wp2_with fail
    refine (specGoodPool_is s1 s2 lo lc l _ false hl hcap (hz.later hB0) HG.out).mono ?_
    rintro e w1 ⟨rfl, hb1⟩
    have hB1 := hB0.trans (hb1.mono hB0.size)
    clear hb1
    go_wp2
    refine bodyPost_ret (v := .tuple #[.slice none 0 0, .bool false]) (by simp [results, Try.results16, go_sem]) rfl ?_
    rw [HR.out]
    exact ⟨⟨none, 0, rfl, .inl rfl⟩, hB1⟩
  · have HG := hid hg
    have HR := hid (runR_ok hg)
    clear hg
    go_enter Try.func16, Try.ntmps16
    go_wp2_with fail
    refine (specGoodPool_is s1 s2 lo lc l _ true hl hcap (hz.later hB0) HG.out).mono ?_
    rintro e w1 ⟨rfl, hb1⟩
    have hB1 := hB0.trans (hb1.mono hB0.size)
    have A1 := hid (A0.out.later hb1)
    clear hb1 A0
    have a0 := A1.out.c 0 rfl
    have a1 := A1.out.c 1 rfl
    have a2 := A1.out.c 2 rfl
    go_wp2_with fail
    refine (l8Running_any s1 s2 lo lc l _ hl (hz.later hB1)).mono ?_
    rintro e w3 ⟨⟨qo, qc, rfl, hF3⟩, hb3⟩
    have hB3 := hB1.trans (hb3.mono hB1.size)
    have F3 : Hid (kI.Fresh w.heap.size w3.heap.size w3 qo qc (idsOf (atL 2 l))) := hF3.wide hB1.size (Nat.le_refl _)
    clear hb3 hF3
    go_wp2
    refine bodyPost_ret (v := .tuple #[.slice qo (idsOf (atL 2 l)).length qc, .bool true]) (by simp [results, Try.results16, go_sem]) rfl ?_
    rw [HR.out]
    exact ⟨⟨_, _, rfl, F3.out⟩, hB3⟩
end Go.Proofs.Ytmijibgfdhjbfaa
