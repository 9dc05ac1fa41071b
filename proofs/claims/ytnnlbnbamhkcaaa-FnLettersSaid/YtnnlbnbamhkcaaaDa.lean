
/- The ids of a box. No conditions but those written. -/
import Derived.Test.YtnnlbnbamhkcaaaBb
namespace Go.Proofs.Ytnnlbnbamhkcaaa
open Go.RowKit

/-- The ids of letters. -/
def idsOf (l : List (Int × Int × Int)) : List Int := l.map (·.1)
theorem idsOf_len (l : List (Int × Int × Int)) : (idsOf l).length = l.length := by simp [idsOf]
theorem idsOf_succ {l : List (Int × Int × Int)} {k : Nat} (h : k < l.length) : idsOf (l.take (k + 1)) = idsOf (l.take k) ++ [(el l k).1] := by rw [take_succ_el h]; simp [idsOf]
/-- A row of ints in its own memory, as an ending. -/
def AnsI (w : World) (q : List Int) (e : Ending) (w' : World) : Prop := (∃ go qc, e = .returned (.slice go q.length qc) ∧ kI.Fresh w.heap.size w'.heap.size w' go qc q) ∧ Below w.heap.size w w'
set_option maxRecDepth 10000 in
set_option maxHeartbeats 8000000 in
theorem idsIn_any (kap : Int) (cl : Bool) (bo : Option Addr) (bc : Nat) (b : List Int) (so : Option Addr) (sc : Nat) (s : List (Int × Int × Int)) (ro : Option Addr) (rc : Nat) (r : List (Int × Int × Int)) (w : World) (_hlb : b.length ≤ 1048576) (hls : s.length ≤ 1048576) (hlr : r.length ≤ 1048576) (hz : InBox w.heap.size w bo b so s ro r) :
    Calls Try.prog 18 #[.agg #[.int .i64 kap, .bool cl, .slice bo b.length bc, .slice so s.length sc, .slice ro r.length rc]] w fun e w' => AnsI w (idsOf s ++ idsOf r) e w' := by
  have hB0 := below1 w (.cells #[.int .i64 kap, .bool cl, .slice bo b.length bc, .slice so s.length sc, .slice ro r.length rc] 26)
  have A0 := hid (Bx.new (w := w) (p := w.heap.size) [.int .i64 kap, .bool cl, .slice bo b.length bc, .slice so s.length sc, .slice ro r.length rc] 26 rfl)
  have hzs := hz.2.1
  have hzr := hz.2.2
  go_enter Try.func18, Try.ntmps18
  go_wp2
  go_loopw [3, 11] (fun u i wr => ∃ (k : Nat) (v : Value), v = u ∧ k ≤ s.length ∧ i = .int .i64 k ∧ Hid (kI.Own (w.heap.size + 1) wr v (idsOf (s.take k))) ∧ Hid (Bx wr (w.heap.size) [.int .i64 kap, .bool cl, .slice bo b.length bc, .slice so s.length sc, .slice ro r.length rc]) ∧ Below w.heap.size w wr ∧ w.heap.size + 1 ≤ wr.heap.size) (fun _ i _ => s.length - (intOf i).toNat)
  case atStart => exact ⟨0, _, rfl, Nat.zero_le _, rfl, Kind.Own.nil _ _ _, A0, hB0, by simp⟩
  case round =>
    obtain ⟨k, v, rfl, hk, rfl, hO, hA, hB, hs⟩ := hrel
    have hpA := hA.out.size
    have a0 := hA.out.c 0 rfl
    have a1 := hA.out.c 1 rfl
    have a2 := hA.out.c 2 rfl
    have a3 := hA.out.c 3 rfl
    have a4 := hA.out.c 4 rfl
    by_cases hlt : k < s.length
    · obtain ⟨bb, off, rfl, hbb, hc⟩ := kL_at hzs hlt
      have d1 := (hB.cell (p := ⟨bb, off + k * 3, none⟩) hbb).trans (hc k hlt).1
      have d2 := (hB.cell (p := ⟨bb, off + k * 3 + 1, none⟩) hbb).trans (hc k hlt).2.1
      have d3 := (hB.cell (p := ⟨bb, off + k * 3 + 2, none⟩) hbb).trans (hc k hlt).2.2
      obtain ⟨⟨y1, y2, y3⟩, ey⟩ : ∃ v, v = el s k := ⟨_, rfl⟩
      rw [← ey] at d1 d2 d3
      have HY : Hid (el s k = (y1, y2, y3)) := ey.symm
      clear ey hc
      dsimp only at d1 d2 d3
      have HA : Hid (kI.Own (w.heap.size + 1) ((wr.alloc (.cells #[.int .i64 y1, .int .i64 y2, .int .i64 y3] 29)).alloc (.cells #[.int .i64 y1] 3)) v (idsOf (s.take k))) := (hO.out.below (below1 _ _)).below (below1 _ _)
      have HN : Hid (kI.In (wr.heap.size + 1 + 1) ((wr.alloc (.cells #[.int .i64 y1, .int .i64 y2, .int .i64 y3] 29)).alloc (.cells #[.int .i64 y1] 3)) (some ⟨wr.heap.size + 1, 0, none⟩) [y1]) := int_one (by omega) (by simp)
      have hll : (idsOf (s.take k)).length + 1 ≤ 4194304 := by simp [idsOf] <;> omega
      have hBa : Below w.heap.size w ((wr.alloc (.cells #[.int .i64 y1, .int .i64 y2, .int .i64 y3] 29)).alloc (.cells #[.int .i64 y1] 3)) := Below.allocS (Below.allocS hB _) _
      have hA2 := hid ((hA.out.alloc (.cells #[.int .i64 y1, .int .i64 y2, .int .i64 y3] 29)).alloc (.cells #[.int .i64 y1] 3))
      go_wp2_with (at_builtin; refine Kind.app kI_ok ((wr.alloc (.cells #[.int .i64 y1, .int .i64 y2, .int .i64 y3] 29)).alloc (.cells #[.int .i64 y1] 3)) rfl (.tmp 15) (.tmp 18) rfl (w.heap.size + 1) v (idsOf (s.take k)) rfl HA.out (by simp; omega) (some ⟨wr.heap.size + 1, 0, none⟩) [y1] 1 1 rfl rfl (by simp) _ HN.out hll ?_; intro v' w' hO' hB' hG' hn'; have hB2 : Below w.heap.size w w' := hBa.trans (hB'.mono (by omega)); have hs2 : w.heap.size + 1 ≤ w'.heap.size := (by have := hB'.size; simp at this; omega); have HA3 := hid (hA2.out.below hB' (by omega)); have HO' : Hid (kI.Own (w.heap.size + 1) w' v' (idsOf (s.take (k + 1)))) := (by rw [Hid, idsOf_succ hlt, HY.out]; simpa using hO'); clear hO' hB' hG' hn')
      go_roundw
      case rel => exact ⟨k + 1, v', rfl, by omega, by go_num, HO', HA3, hB2, hs2⟩
      case measure => simp [intOf]; omega
    · obtain rfl : k = s.length := by omega
      rw [List.take_length] at hO
      clear hk
      go_wp2
      go_loopw [3, 24] (fun u i wr => ∃ (k : Nat) (v : Value), v = u ∧ k ≤ r.length ∧ i = .int .i64 k ∧ Hid (kI.Own (w.heap.size + 1) wr v (idsOf s ++ idsOf (r.take k))) ∧ Hid (Bx wr (w.heap.size) [.int .i64 kap, .bool cl, .slice bo b.length bc, .slice so s.length sc, .slice ro r.length rc]) ∧ Below w.heap.size w wr ∧ w.heap.size + 1 ≤ wr.heap.size) (fun _ i _ => r.length - (intOf i).toNat)
      case atStart => exact ⟨0, _, rfl, Nat.zero_le _, rfl, by simpa [idsOf] using hO, hA, hB, hs⟩
      case round =>
        obtain ⟨k, v, rfl, hk, rfl, hO, hA, hB, hs⟩ := hrel
        have hpA := hA.out.size
        have a0 := hA.out.c 0 rfl
        have a1 := hA.out.c 1 rfl
        have a2 := hA.out.c 2 rfl
        have a3 := hA.out.c 3 rfl
        have a4 := hA.out.c 4 rfl
        by_cases hlt : k < r.length
        · obtain ⟨bb, off, rfl, hbb, hc⟩ := kL_at hzr hlt
          have d1 := (hB.cell (p := ⟨bb, off + k * 3, none⟩) hbb).trans (hc k hlt).1
          have d2 := (hB.cell (p := ⟨bb, off + k * 3 + 1, none⟩) hbb).trans (hc k hlt).2.1
          have d3 := (hB.cell (p := ⟨bb, off + k * 3 + 2, none⟩) hbb).trans (hc k hlt).2.2
          obtain ⟨⟨y1, y2, y3⟩, ey⟩ : ∃ v, v = el r k := ⟨_, rfl⟩
          rw [← ey] at d1 d2 d3
          have HY : Hid (el r k = (y1, y2, y3)) := ey.symm
          clear ey hc
          dsimp only at d1 d2 d3
          have HA : Hid (kI.Own (w.heap.size + 1) ((wr.alloc (.cells #[.int .i64 y1, .int .i64 y2, .int .i64 y3] 29)).alloc (.cells #[.int .i64 y1] 3)) v (idsOf s ++ idsOf (r.take k))) := (hO.out.below (below1 _ _)).below (below1 _ _)
          have HN : Hid (kI.In (wr.heap.size + 1 + 1) ((wr.alloc (.cells #[.int .i64 y1, .int .i64 y2, .int .i64 y3] 29)).alloc (.cells #[.int .i64 y1] 3)) (some ⟨wr.heap.size + 1, 0, none⟩) [y1]) := int_one (by omega) (by simp)
          have hll : (idsOf s ++ idsOf (r.take k)).length + 1 ≤ 4194304 := by simp [idsOf] <;> omega
          have hBa : Below w.heap.size w ((wr.alloc (.cells #[.int .i64 y1, .int .i64 y2, .int .i64 y3] 29)).alloc (.cells #[.int .i64 y1] 3)) := Below.allocS (Below.allocS hB _) _
          have hA2 := hid ((hA.out.alloc (.cells #[.int .i64 y1, .int .i64 y2, .int .i64 y3] 29)).alloc (.cells #[.int .i64 y1] 3))
          go_wp2_with (at_builtin; refine Kind.app kI_ok ((wr.alloc (.cells #[.int .i64 y1, .int .i64 y2, .int .i64 y3] 29)).alloc (.cells #[.int .i64 y1] 3)) rfl (.tmp 28) (.tmp 31) rfl (w.heap.size + 1) v (idsOf s ++ idsOf (r.take k)) rfl HA.out (by simp; omega) (some ⟨wr.heap.size + 1, 0, none⟩) [y1] 1 1 rfl rfl (by simp) _ HN.out hll ?_; intro v' w' hO' hB' hG' hn'; have hB2 : Below w.heap.size w w' := hBa.trans (hB'.mono (by omega)); have hs2 : w.heap.size + 1 ≤ w'.heap.size := (by have := hB'.size; simp at this; omega); have HA3 := hid (hA2.out.below hB' (by omega)); have HO' : Hid (kI.Own (w.heap.size + 1) w' v' (idsOf s ++ idsOf (r.take (k + 1)))) := (by rw [Hid, idsOf_succ hlt, HY.out]; simpa using hO'); clear hO' hB' hG' hn')
          go_roundw
          case rel => exact ⟨k + 1, v', rfl, by omega, by go_num, HO', HA3, hB2, hs2⟩
          case measure => simp [intOf]; omega
        · obtain rfl : k = r.length := by omega
          rw [List.take_length] at hO
          obtain ⟨qo, qc, rfl, _, hF⟩ := hO.out.fresh
          have HF : Hid (kI.Fresh w.heap.size wr.heap.size wr qo qc (idsOf s ++ idsOf r)) := hF.wide (by omega) (Nat.le_refl _)
          clear hF hO
          go_wp2
          go_ret
          exact ⟨⟨_, _, rfl, HF.out⟩, hB⟩
/-- The ids of the first m of the two rows. -/
def ids2 (s r : List (Int × Int × Int)) (m : Nat) : List Int := (([s, r].take m).map idsOf).flatten
set_option maxRecDepth 10000 in
set_option maxHeartbeats 8000000 in
theorem l6Ids_any (kap : Int) (cl : Bool) (bo : Option Addr) (bc : Nat) (b : List Int) (so : Option Addr) (sc : Nat) (s : List (Int × Int × Int)) (ro : Option Addr) (rc : Nat) (r : List (Int × Int × Int)) (w : World) (_hlb : b.length ≤ 1048576) (hls : s.length ≤ 1048576) (hlr : r.length ≤ 1048576) (hz : InBox w.heap.size w bo b so s ro r) :
    Calls Try.prog 31 #[.agg #[.int .i64 kap, .bool cl, .slice bo b.length bc, .slice so s.length sc, .slice ro r.length rc]] w fun e w' => AnsI w (idsOf s ++ idsOf r) e w' := by
  have hB0 := below2 w (.cells #[.int .i64 kap, .bool cl, .slice bo b.length bc, .slice so s.length sc, .slice ro r.length rc] 26) (.cells #[.slice so s.length sc, .slice ro r.length rc] 24)
  have A0 := hid ((Bx.new (w := w) (p := w.heap.size) [.int .i64 kap, .bool cl, .slice bo b.length bc, .slice so s.length sc, .slice ro r.length rc] 26 rfl).alloc (.cells #[.slice so s.length sc, .slice ro r.length rc] 24))
  have C0 := hid (Bx.new (w := w.alloc (.cells #[.int .i64 kap, .bool cl, .slice bo b.length bc, .slice so s.length sc, .slice ro r.length rc] 26)) (p := w.heap.size + 1) [.slice so s.length sc, .slice ro r.length rc] 24 (by simp))
  have hzs := hz.2.1
  have hzr := hz.2.2
  go_enter Try.func31, Try.ntmps31
  go_wp2
  go_loopw [3, 14] (fun u i wr => ∃ (m : Nat) (v : Value), v = u ∧ m ≤ 2 ∧ i = .int .i64 m ∧ Hid (kI.Own (w.heap.size + 1 + 1) wr v (ids2 s r m)) ∧ Hid (Bx wr (w.heap.size) [.int .i64 kap, .bool cl, .slice bo b.length bc, .slice so s.length sc, .slice ro r.length rc]) ∧ Hid (Bx wr (w.heap.size + 1) [.slice so s.length sc, .slice ro r.length rc]) ∧ Below w.heap.size w wr ∧ w.heap.size + 1 + 1 ≤ wr.heap.size) (fun _ i _ => 2 - (intOf i).toNat)
  case atStart => exact ⟨0, _, rfl, Nat.zero_le _, rfl, Kind.Own.nil _ _ _, A0, C0, hB0, by simp⟩
  case round =>
    obtain ⟨m, v, rfl, hm, rfl, hO, hA, hC, hB, hs⟩ := hrel
    by_cases hm2 : m < 2
    · obtain ⟨lo, lc, l, hcl, hll0, hzl, hsu⟩ : ∃ lo lc l, wr.cell? ⟨w.heap.size + 1, m, none⟩ = some (.slice lo l.length lc) ∧ l.length ≤ 1048576 ∧ kL.In w.heap.size w lo l ∧ ids2 s r (m + 1) = ids2 s r m ++ idsOf l := by
        rcases (show m = 0 ∨ m = 1 from by omega) with rfl | rfl
        · exact ⟨so, sc, s, hC.out.c 0 rfl, hls, hzs, by simp [ids2]⟩
        · exact ⟨ro, rc, r, hC.out.c 1 rfl, hlr, hzr, by simp [ids2]⟩
      have HSU : Hid (ids2 s r (m + 1) = ids2 s r m ++ idsOf l) := hsu
      have hpC := hC.out.size
      have hid2 : (ids2 s r m).length ≤ 2097152 := by
        rcases (show m = 0 ∨ m = 1 from by omega) with rfl | rfl <;> simp [ids2, idsOf] <;> omega
      have hm2' : decide ((m : Int) < 2) = true := by simp; omega
      clear hsu
      go_wp2
      go_loopw [3, 20] (fun u i wr => ∃ (k : Nat) (v : Value), v = u ∧ k ≤ l.length ∧ i = .int .i64 k ∧ Hid (kI.Own (w.heap.size + 1 + 1) wr v (ids2 s r m ++ idsOf (l.take k))) ∧ Hid (Bx wr (w.heap.size) [.int .i64 kap, .bool cl, .slice bo b.length bc, .slice so s.length sc, .slice ro r.length rc]) ∧ Hid (Bx wr (w.heap.size + 1) [.slice so s.length sc, .slice ro r.length rc]) ∧ Below w.heap.size w wr ∧ w.heap.size + 1 + 1 ≤ wr.heap.size) (fun _ i _ => l.length - (intOf i).toNat)
      case atStart => exact ⟨0, _, rfl, Nat.zero_le _, rfl, by simpa [idsOf] using hO, hA, hC, hB, hs⟩
      case round =>
        obtain ⟨k, v, rfl, hk, rfl, hO, hA, hC, hB, hs⟩ := hrel
        have hpA := hA.out.size
        have a0 := hA.out.c 0 rfl
        have a1 := hA.out.c 1 rfl
        have a2 := hA.out.c 2 rfl
        have a3 := hA.out.c 3 rfl
        have a4 := hA.out.c 4 rfl
        have hpC := hC.out.size
        have c0 := hC.out.c 0 rfl
        have c1 := hC.out.c 1 rfl
        by_cases hlt : k < l.length
        · obtain ⟨bb, off, rfl, hbb, hc⟩ := kL_at hzl hlt
          have d1 := (hB.cell (p := ⟨bb, off + k * 3, none⟩) hbb).trans (hc k hlt).1
          have d2 := (hB.cell (p := ⟨bb, off + k * 3 + 1, none⟩) hbb).trans (hc k hlt).2.1
          have d3 := (hB.cell (p := ⟨bb, off + k * 3 + 2, none⟩) hbb).trans (hc k hlt).2.2
          obtain ⟨⟨y1, y2, y3⟩, ey⟩ : ∃ v, v = el l k := ⟨_, rfl⟩
          rw [← ey] at d1 d2 d3
          have HY : Hid (el l k = (y1, y2, y3)) := ey.symm
          clear ey hc
          dsimp only at d1 d2 d3
          have HA : Hid (kI.Own (w.heap.size + 1 + 1) ((wr.alloc (.cells #[.int .i64 y1, .int .i64 y2, .int .i64 y3] 29)).alloc (.cells #[.int .i64 y1] 3)) v (ids2 s r m ++ idsOf (l.take k))) := (hO.out.below (below1 _ _)).below (below1 _ _)
          have HN : Hid (kI.In (wr.heap.size + 1 + 1) ((wr.alloc (.cells #[.int .i64 y1, .int .i64 y2, .int .i64 y3] 29)).alloc (.cells #[.int .i64 y1] 3)) (some ⟨wr.heap.size + 1, 0, none⟩) [y1]) := int_one (by omega) (by simp)
          have hll : (ids2 s r m ++ idsOf (l.take k)).length + 1 ≤ 4194304 := by simp [idsOf] <;> omega
          have hBa : Below w.heap.size w ((wr.alloc (.cells #[.int .i64 y1, .int .i64 y2, .int .i64 y3] 29)).alloc (.cells #[.int .i64 y1] 3)) := Below.allocS (Below.allocS hB _) _
          have hA2 := hid ((hA.out.alloc (.cells #[.int .i64 y1, .int .i64 y2, .int .i64 y3] 29)).alloc (.cells #[.int .i64 y1] 3))
          have hC2 := hid ((hC.out.alloc (.cells #[.int .i64 y1, .int .i64 y2, .int .i64 y3] 29)).alloc (.cells #[.int .i64 y1] 3))
          go_wp2_with (at_builtin; refine Kind.app kI_ok ((wr.alloc (.cells #[.int .i64 y1, .int .i64 y2, .int .i64 y3] 29)).alloc (.cells #[.int .i64 y1] 3)) rfl (.tmp 24) (.tmp 27) rfl (w.heap.size + 1 + 1) v (ids2 s r m ++ idsOf (l.take k)) rfl HA.out (by simp; omega) (some ⟨wr.heap.size + 1, 0, none⟩) [y1] 1 1 rfl rfl (by simp) _ HN.out hll ?_; intro v' w' hO' hB' hG' hn'; have hB2 : Below w.heap.size w w' := hBa.trans (hB'.mono (by omega)); have hs2 : w.heap.size + 1 + 1 ≤ w'.heap.size := (by have := hB'.size; simp at this; omega); have HA3 := hid (hA2.out.below hB' (by omega)); have HC3 := hid (hC2.out.below hB' (by omega)); have HO' : Hid (kI.Own (w.heap.size + 1 + 1) w' v' (ids2 s r m ++ idsOf (l.take (k + 1)))) := (by rw [Hid, idsOf_succ hlt, HY.out]; simpa using hO'); clear hO' hB' hG' hn')
          go_roundw
          case rel => exact ⟨k + 1, v', rfl, by omega, by go_num, HO', HA3, HC3, hB2, hs2⟩
          case measure => simp [intOf]; omega
        · obtain rfl : k = l.length := by omega
          rw [List.take_length] at hO
          have HO2 : Hid (kI.Own (w.heap.size + 1 + 1) wr v (ids2 s r (m + 1))) := by rw [Hid, HSU.out]; exact hO.out
          clear hO
          go_wp2
          go_roundw
          case rel => exact ⟨m + 1, v, rfl, by omega, by go_num, HO2, hA, hC, hB, hs⟩
          case measure => simp [intOf]; omega
    · obtain rfl : m = 2 := by omega
      have e2 : ids2 s r 2 = idsOf s ++ idsOf r := by simp [ids2]
      rw [e2] at hO
      obtain ⟨qo, qc, rfl, _, hF⟩ := hO.out.fresh
      have HF : Hid (kI.Fresh w.heap.size wr.heap.size wr qo qc (idsOf s ++ idsOf r)) := hF.wide (by omega) (Nat.le_refl _)
      clear hF hO e2
      go_wp2
      go_ret
      exact ⟨⟨_, _, rfl, HF.out⟩, hB⟩
end Go.Proofs.Ytnnlbnbamhkcaaa
