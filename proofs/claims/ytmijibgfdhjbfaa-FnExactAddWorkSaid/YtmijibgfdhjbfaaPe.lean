
/- Whether a pool is good: the specification. No conditions but those written. -/
import Derived.Test.YtmijibgfdhjbfaaPd
namespace Go.Proofs.Ytmijibgfdhjbfaa
open Go.RowKit

/-- Found among the first k. -/
def foundL (fa : Int) (l : List Wo) (k : Nat) : Bool := (fa != 0) && tellsB fa (l.take k)
theorem foundL_succ {fa : Int} {l : List Wo} {k : Nat} (h : k < l.length) : foundL fa l (k + 1) = (foundL fa l k || (((el l k).2.2 == fa) && (fa != 0))) := by
  rw [foundL, foundL, tellsB_succ h]
  cases (fa != 0) <;> cases tellsB fa (l.take k) <;> simp
theorem foundL_end {fa : Int} {l : List Wo} : (decide (fa = 0) || tellsB fa l) = ((fa == 0) || foundL fa l l.length) := by
  rw [foundL, List.take_length]
  by_cases h : fa = 0
  · simp [h]
  · have : (fa != 0) = true := by simpa using h
    rw [this, decide_eq_false h]; simp [h]
theorem sizeB_1 {mo fa : Int} (h : (decide (1 ≤ mo) && decide (mo ≤ 20)) = false) : sizeB mo fa = false := by rw [sizeB, h]; rfl
theorem sizeB_2 {mo fa : Int} (h : (decide (0 ≤ fa) && decide (fa ≤ 1000000)) = false) : sizeB mo fa = false := by rw [sizeB, h]; simp
theorem sizeB_3 {mo fa : Int} (h : (decide (1 ≤ mo) && decide (mo ≤ 20)) = true) (h2 : (decide (0 ≤ fa) && decide (fa ≤ 1000000)) = true) : sizeB mo fa = true := by rw [sizeB, h, h2]; rfl
theorem poolB_once {mo fa : Int} {l : List Wo} (k j : Nat) (hk : k < l.length) (hj : j < k) (h : (el l j).1 = (el l k).1) : poolB mo fa l = false := by
  refine poolB_works ?_
  have : onceB (idsOf l) = false := by
    refine onceB_no k (by rw [idsOf_len]; exact hk) ?_
    have hjl : j < ((idsOf l).take k).length := by simp [idsOf_len]; omega
    refine hasB_yes hjl ?_
    rw [← idsOf_take, idsOf_el (by simp; omega), idsOf_el hk, ← h]
    simp [el, show j < l.length by omega, hj]
  rw [worksB, this]; simp
theorem poolB_work {mo fa : Int} {l : List Wo} (k : Nat) (hk : k < l.length) (h : workB (el l k) = false) : poolB mo fa l = false := poolB_works (worksB_no k hk h)
theorem ids_succ {l : List Wo} {k : Nat} (hk : k < l.length) (h : ((idsOf l).take k).Nodup) (hn : ∀ j, j < k → (el l j).1 ≠ (el l k).1) : ((idsOf l).take (k + 1)).Nodup := by
  refine nodup_succ (by rw [idsOf_len]; exact hk) h fun hm => ?_
  obtain ⟨j, hj, e⟩ := mem_el hm
  have hjk : j < k := by simp [idsOf_len] at hj; omega
  refine hn j hjk ?_
  rw [idsOf_el hk] at e
  rw [← e, ← idsOf_take, idsOf_el (by simp; omega)]
  simp [el, show j < l.length by omega, hjk]
theorem worksB_end {l : List Wo} (h : ∀ j, j < l.length → workB (el l j) = true) (h2 : ((idsOf l).take l.length).Nodup) : worksB l = true := by
  rw [worksB_all h]; exact onceB_yes (by rw [idsOf_len]; exact h2)
set_option maxRecDepth 10000 in
set_option maxHeartbeats 16000000 in
theorem specGoodPool_is (s1 s2 : Int) (lo : Option Addr) (lc : Nat) (l : List Wo) (w : World) (x : Bool) (hl : l.length ≤ 1048576) (hcap : l.length ≤ lc) (hz : kW.In w.heap.size w lo l) (hx : poolB s1 s2 l = x) :
    Calls Try.prog 8 #[.agg #[.int .i64 s1, .int .i64 s2, .slice lo l.length lc]] w fun e w' => e = .returned (.bool x) ∧ Below w.heap.size w w' := by
  have HX := hid hx
  have hB0 := below1 w (.cells #[.int .i64 s1, .int .i64 s2, .slice lo l.length lc] 29)
  have A0 := hid (Bx.new (w := w) (p := w.heap.size) [.int .i64 s1, .int .i64 s2, .slice lo l.length lc] 29 rfl)
  clear hx
  cases h1 : (decide (1 ≤ s1) && decide (s1 ≤ 20))
  · have H1 := hid h1
    have HV : Hid (x = false) := by rw [Hid, ← HX.out]; exact poolB_size (sizeB_1 h1)
    clear h1
    go_enter Try.func8, Try.ntmps8
    go_wp2_with fail
    refine (l1In_is s1 1 20 _ false H1.out).mono ?_
    rintro e w1 ⟨rfl, hw1⟩
    subst hw1
    go_wp2
    go_ret
    exact ⟨ret_bool HV.out.symm, hB0⟩
  have H1 := hid h1
  cases h2 : (decide (0 ≤ s2) && decide (s2 ≤ 1000000))
  · have H2 := hid h2
    have HV : Hid (x = false) := by rw [Hid, ← HX.out]; exact poolB_size (sizeB_2 h2)
    clear h1 h2
    go_enter Try.func8, Try.ntmps8
    go_wp2_with fail
    refine (l1In_is s1 1 20 _ true H1.out).mono ?_
    rintro e w1 ⟨rfl, hw1⟩
    subst hw1
    go_wp2_with fail
    refine (l1In_is s2 0 1000000 _ false H2.out).mono ?_
    rintro e w1 ⟨rfl, hw1⟩
    subst hw1
    go_wp2
    go_ret
    exact ⟨ret_bool HV.out.symm, hB0⟩
  have H2 := hid h2
  have HS := hid (sizeB_3 h1 h2)
  clear h1 h2
  by_cases h4 : 40 < l.length
  · have HV : Hid (x = false) := by rw [Hid, ← HX.out]; exact poolB_long h4
    have h4' : decide ((40 : Int) < (l.length : Int)) = true := by simp; omega
    go_enter Try.func8, Try.ntmps8
    go_wp2_with fail
    refine (l1In_is s1 1 20 _ true H1.out).mono ?_
    rintro e w1 ⟨rfl, hw1⟩
    subst hw1
    go_wp2_with fail
    refine (l1In_is s2 0 1000000 _ true H2.out).mono ?_
    rintro e w1 ⟨rfl, hw1⟩
    subst hw1
    go_wp2
    go_ret
    exact ⟨ret_bool HV.out.symm, hB0⟩
  have h4' : decide ((40 : Int) < (l.length : Int)) = false := by simp; omega
  go_enter Try.func8, Try.ntmps8
  go_wp2_with fail
  refine (l1In_is s1 1 20 _ true H1.out).mono ?_
  rintro e w1 ⟨rfl, hw1⟩
  subst hw1
  go_wp2_with fail
  refine (l1In_is s2 0 1000000 _ true H2.out).mono ?_
  rintro e w1 ⟨rfl, hw1⟩
  subst hw1
  go_wp2
  go_loopw [3, 4, 28] (fun u t i wr => ∃ (k : Nat) (r : Nat) (f : Bool), u = .int .i64 (r : Int) ∧ t = .bool f ∧ k ≤ l.length ∧ i = .int .i64 k ∧ r ≤ k ∧ Hid (r = (atL 2 (l.take k)).length) ∧ Hid (f = foundL s2 l k) ∧ Hid (∀ j, j < k → workB (el l j) = true) ∧ Hid (∀ j, j < k → lieB s2 (el l j) = true) ∧ Hid (((idsOf l).take k).Nodup) ∧ Hid (Bx wr w.heap.size [.int .i64 s1, .int .i64 s2, .slice lo l.length lc]) ∧ Below w.heap.size w wr) (fun _ _ i _ => l.length - (intOf i).toNat)
  case atStart => exact ⟨0, 0, false, rfl, rfl, Nat.zero_le _, rfl, Nat.zero_le _, rfl, by simp [Hid, foundL, tellsB], fun j hj => by omega, fun j hj => by omega, by simp [Hid], A0, hB0⟩
  case round =>
    obtain ⟨k, r, f, rfl, rfl, hk, rfl, hrk, HR, HF, hW, hL, hN, hA, hB⟩ := hrel
    have hpA := hA.out.size
    by_cases hlt : k < l.length
    · have HLT := hid hlt
      obtain ⟨bb, off, rfl, hbb, hc⟩ := kW_at hz hlt
      have d1 := (hB.cell (p := ⟨bb, off + k * 3, none⟩) hbb).trans (hc k hlt).1
      have d2 := (hB.cell (p := ⟨bb, off + k * 3 + 1, none⟩) hbb).trans (hc k hlt).2.1
      have d3 := (hB.cell (p := ⟨bb, off + k * 3 + 2, none⟩) hbb).trans (hc k hlt).2.2
      obtain ⟨⟨y1, y2, y3⟩, ey⟩ : ∃ v, v = el l k := ⟨_, rfl⟩
      rw [← ey] at d1 d2 d3
      have HY : Hid (el l k = (y1, y2, y3)) := ey.symm
      clear ey hc
      dsimp only at d1 d2 d3
      have hBa := Below.allocS hB (.cells #[.int .i64 y1, .int .i64 y2, .int .i64 y3] 47)
      have AA := hid (hA.out.alloc (.cells #[.int .i64 y1, .int .i64 y2, .int .i64 y3] 47))
      have YY := hid (Bx.new (w := wr) (p := wr.heap.size) [.int .i64 y1, .int .i64 y2, .int .i64 y3] 47 rfl)
      cases h5 : (decide (1 ≤ y2) && decide (y2 ≤ 5))
      · have H5 := hid h5
        have HV : Hid (x = false) := by rw [Hid, ← HX.out]; exact poolB_work k hlt (by rw [HY.out, workB_spec]; dsimp only; rw [h5]; rfl)
        clear h5
        go_wp2_with fail
        refine (l1In_is y2 1 5 _ false H5.out).mono ?_
        rintro e wz ⟨rfl, hwz⟩
        rw [hwz]; clear hwz wz
        go_wp2
        go_ret
        exact ⟨ret_bool HV.out.symm, hBa⟩
      have H5 := hid h5
      cases h6 : ((y2 == 4) == (y3 != 0))
      case false =>
        have HV : Hid (x = false) := by rw [Hid, ← HX.out]; exact poolB_work k hlt (by rw [HY.out, workB_spec]; dsimp only; rw [h6]; simp)
        clear h5
        obtain ⟨e4, e0⟩ | ⟨e4, e0⟩ : ((y2 == 4) = true ∧ (y3 != 0) = false) ∨ ((y2 == 4) = false ∧ (y3 != 0) = true) := by cases h : (y2 == 4) <;> cases h' : (y3 != 0) <;> simp_all
        · clear h6
          go_wp2_with fail
          refine (l1In_is y2 1 5 _ true H5.out).mono ?_
          rintro e wz ⟨rfl, hwz⟩
          rw [hwz]; clear hwz wz
          go_wp2
          go_ret
          exact ⟨ret_bool HV.out.symm, hBa⟩
        · clear h6
          go_wp2_with fail
          refine (l1In_is y2 1 5 _ true H5.out).mono ?_
          rintro e wz ⟨rfl, hwz⟩
          rw [hwz]; clear hwz wz
          go_wp2
          go_ret
          exact ⟨ret_bool HV.out.symm, hBa⟩
      cases h7 : (decide (0 ≤ y3) && decide (y3 ≤ 1000000))
      · have H7 := hid h7
        have HV : Hid (x = false) := by rw [Hid, ← HX.out]; exact poolB_work k hlt (by rw [HY.out, workB_spec]; dsimp only; rw [h7]; simp)
        clear h5 h7
        go_wp2_with fail
        refine (l1In_is y2 1 5 _ true H5.out).mono ?_
        rintro e wz ⟨rfl, hwz⟩
        rw [hwz]; clear hwz wz
        go_wp2_with fail
        refine (l1In_is y3 0 1000000 _ false H7.out).mono ?_
        rintro e wz ⟨rfl, hwz⟩
        rw [hwz]; clear hwz wz
        go_wp2
        go_ret
        exact ⟨ret_bool HV.out.symm, hBa⟩
      have H7 := hid h7
      have HWK : Hid (workB (y1, y2, y3) = true) := by rw [Hid, workB_spec]; dsimp only; rw [h5, h6, h7]; rfl
      clear h5 h7
      have hkc : (k : Int) ≤ (lc : Int) := by omega
      have hkc' : k ≤ lc := by omega
      have aa0 := AA.out.c 0 rfl
      have aa1 := AA.out.c 1 rfl
      have aa2 := AA.out.c 2 rfl
      go_wp2_with fail
      refine (l1In_is y2 1 5 _ true H5.out).mono ?_
      rintro e wz ⟨rfl, hwz⟩
      rw [hwz]; clear hwz wz
      go_wp2_with fail
      refine (l1In_is y3 0 1000000 _ true H7.out).mono ?_
      rintro e wz ⟨rfl, hwz⟩
      rw [hwz]; clear hwz wz
      go_wp2
      clear aa0 aa1 aa2 d1 d2 d3
      go_loopw [57] (fun i wn => ∃ j : Nat, j ≤ k ∧ i = .int .i64 j ∧ Hid (∀ q, q < j → (el l q).1 ≠ y1) ∧ Hid (Bx wn w.heap.size [.int .i64 s1, .int .i64 s2, .slice (some ⟨bb, off, none⟩) l.length lc]) ∧ Hid (Bx wn wr.heap.size [.int .i64 y1, .int .i64 y2, .int .i64 y3]) ∧ Below w.heap.size w wn) (fun i _ => k - (intOf i).toNat)
      case atStart => exact ⟨0, Nat.zero_le _, rfl, fun q hq => by omega, AA, YY, hBa⟩
      case round =>
        rename_i wn
        obtain ⟨j, hj, rfl, hno, hA2, hY2, hB2⟩ := hrel
        by_cases hjk : j < k
        · have hjl : j < l.length := by omega
          obtain ⟨b2, off2, eb, hb2, hc2⟩ := kW_at hz hjl
          obtain ⟨rfl, rfl⟩ : b2 = bb ∧ off2 = off := by simp at eb; exact ⟨eb.1.symm, eb.2.symm⟩
          clear eb
          have d1 := (hB2.cell (p := ⟨b2, off2 + j * 3, none⟩) hb2).trans (hc2 j hjl).1
          have d2 := (hB2.cell (p := ⟨b2, off2 + j * 3 + 1, none⟩) hb2).trans (hc2 j hjl).2.1
          have d3 := (hB2.cell (p := ⟨b2, off2 + j * 3 + 2, none⟩) hb2).trans (hc2 j hjl).2.2
          obtain ⟨⟨z1, z2, z3⟩, ez⟩ : ∃ v, v = el l j := ⟨_, rfl⟩
          rw [← ez] at d1 d2 d3
          have HZ : Hid (el l j = (z1, z2, z3)) := ez.symm
          clear ez hc2
          dsimp only at d1 d2 d3
          have hyz := hY2.out.size
          have yy0 := hY2.out.c 0 rfl
          have hB3 := Below.allocS hB2 (.cells #[.int .i64 z1, .int .i64 z2, .int .i64 z3] 47)
          have hA3 := hid (hA2.out.alloc (.cells #[.int .i64 z1, .int .i64 z2, .int .i64 z3] 47))
          have hY3 := hid (hY2.out.alloc (.cells #[.int .i64 z1, .int .i64 z2, .int .i64 z3] 47))
          cases he : (z1 == y1)
          · have HE : Hid (z1 ≠ y1) := by simpa [Hid] using he
            go_wp2
            go_roundw
            case rel => exact ⟨j + 1, by omega, by go_num, fun q hq => by
              rcases Nat.lt_succ_iff_lt_or_eq.1 hq with h | rfl
              · exact hno.out q h
              · rw [HZ.out]; exact HE.out, hA3, hY3, hB3⟩
            case measure => simp [intOf]; omega
          · have HV : Hid (x = false) := by
              rw [Hid, ← HX.out]
              exact poolB_once k j HLT.out hjk (by rw [HZ.out, HY.out]; simpa using he)
            go_wp2
            go_ret
            exact ⟨ret_bool HV.out.symm, hB3⟩
        · obtain rfl : j = k := by omega
          have HN2 := hid (ids_succ HLT.out hN.out (fun q hq => by rw [HY.out]; exact hno.out q hq))
          have HW2 : Hid (∀ q, q < j + 1 → workB (el l q) = true) := fun q hq => by
            rcases Nat.lt_succ_iff_lt_or_eq.1 hq with h | rfl
            · exact hW.out q h
            · rw [HY.out]; exact HWK.out
          have hyz := hY2.out.size
          have yy0 := hY2.out.c 0 rfl
          have yy1 := hY2.out.c 1 rfl
          have yy2 := hY2.out.c 2 rfl
          have hpA2 := hA2.out.size
          have a0 := hA2.out.c 0 rfl
          have a1 := hA2.out.c 1 rfl
          have a2 := hA2.out.c 2 rfl
          have hr1 : (r : Int) + 1 ≤ 2000000 := by omega
          clear hno h6
          cases he2 : (y2 == 2)
          · have HE2 := hid he2
            by_cases h0 : s2 = 0
            · have h01 : (s2 == 0) = true := by simpa using h0
              have h02 : (s2 != 0) = false := by simpa using h0
              cases h4 : (y2 == 4)
              · cases h5 : (y2 == 5)
                · have HL2 : Hid (∀ q, q < j + 1 → lieB s2 (el l q) = true) := fun q hq => by
                    rcases Nat.lt_succ_iff_lt_or_eq.1 hq with h | rfl
                    · exact hL.out q h
                    · rw [HY.out, lieB]; simp [*]
                  clear h0
                  cases f
                  · cases h9 : (y3 == s2)
                    · go_wp2
                      go_roundw
                      case rel => exact ⟨j + 1, r, _, rfl, rfl, by omega, by go_num, by omega, by rw [Hid, atL_out HLT.out (by rw [HY.out]; exact HE2.out), ← HR.out], by rw [Hid, foundL_succ HLT.out, ← HF.out, HY.out]; simp [*], HW2.out, HL2.out, HN2.out, hA2, hB2⟩
                      case measure => simp [intOf]; omega
                    · go_wp2
                      go_roundw
                      case rel => exact ⟨j + 1, r, _, rfl, rfl, by omega, by go_num, by omega, by rw [Hid, atL_out HLT.out (by rw [HY.out]; exact HE2.out), ← HR.out], by rw [Hid, foundL_succ HLT.out, ← HF.out, HY.out]; simp [*], HW2.out, HL2.out, HN2.out, hA2, hB2⟩
                      case measure => simp [intOf]; omega
                  · go_wp2
                    go_roundw
                    case rel => exact ⟨j + 1, r, _, rfl, rfl, by omega, by go_num, by omega, by rw [Hid, atL_out HLT.out (by rw [HY.out]; exact HE2.out), ← HR.out], by rw [Hid, foundL_succ HLT.out, ← HF.out, HY.out]; simp [*], HW2.out, HL2.out, HN2.out, hA2, hB2⟩
                    case measure => simp [intOf]; omega
                · have HV : Hid (x = false) := by rw [Hid, ← HX.out]; exact poolB_lie j HLT.out (by rw [HY.out, lieB]; simp [*])
                  go_wp2
                  go_ret
                  exact ⟨ret_bool HV.out.symm, hB2⟩
              · have HV : Hid (x = false) := by rw [Hid, ← HX.out]; exact poolB_lie j HLT.out (by rw [HY.out, lieB]; simp [*])
                go_wp2
                go_ret
                exact ⟨ret_bool HV.out.symm, hB2⟩
            · have h01 : (s2 == 0) = false := by simpa using h0
              have h02 : (s2 != 0) = true := by simpa using h0
              cases h4 : (y2 == 1)
              · have HL2 : Hid (∀ q, q < j + 1 → lieB s2 (el l q) = true) := fun q hq => by
                  rcases Nat.lt_succ_iff_lt_or_eq.1 hq with h | rfl
                  · exact hL.out q h
                  · rw [HY.out, lieB]; simp [*]
                clear h0
                cases f
                · cases h9 : (y3 == s2)
                  · go_wp2
                    go_roundw
                    case rel => exact ⟨j + 1, r, _, rfl, rfl, by omega, by go_num, by omega, by rw [Hid, atL_out HLT.out (by rw [HY.out]; exact HE2.out), ← HR.out], by rw [Hid, foundL_succ HLT.out, ← HF.out, HY.out]; simp [*], HW2.out, HL2.out, HN2.out, hA2, hB2⟩
                    case measure => simp [intOf]; omega
                  · go_wp2
                    go_roundw
                    case rel => exact ⟨j + 1, r, _, rfl, rfl, by omega, by go_num, by omega, by rw [Hid, atL_out HLT.out (by rw [HY.out]; exact HE2.out), ← HR.out], by rw [Hid, foundL_succ HLT.out, ← HF.out, HY.out]; simp [*], HW2.out, HL2.out, HN2.out, hA2, hB2⟩
                    case measure => simp [intOf]; omega
                · go_wp2
                  go_roundw
                  case rel => exact ⟨j + 1, r, _, rfl, rfl, by omega, by go_num, by omega, by rw [Hid, atL_out HLT.out (by rw [HY.out]; exact HE2.out), ← HR.out], by rw [Hid, foundL_succ HLT.out, ← HF.out, HY.out]; simp [*], HW2.out, HL2.out, HN2.out, hA2, hB2⟩
                  case measure => simp [intOf]; omega
              · have HV : Hid (x = false) := by rw [Hid, ← HX.out]; exact poolB_lie j HLT.out (by rw [HY.out, lieB]; simp [*])
                go_wp2
                go_ret
                exact ⟨ret_bool HV.out.symm, hB2⟩
          · have HE2 := hid he2
            by_cases h0 : s2 = 0
            · have h01 : (s2 == 0) = true := by simpa using h0
              have h02 : (s2 != 0) = false := by simpa using h0
              cases h4 : (y2 == 4)
              · cases h5 : (y2 == 5)
                · have HL2 : Hid (∀ q, q < j + 1 → lieB s2 (el l q) = true) := fun q hq => by
                    rcases Nat.lt_succ_iff_lt_or_eq.1 hq with h | rfl
                    · exact hL.out q h
                    · rw [HY.out, lieB]; simp [*]
                  clear h0
                  cases f
                  · cases h9 : (y3 == s2)
                    · go_wp2
                      go_roundw
                      case rel => exact ⟨j + 1, r + 1, _, by go_num, rfl, by omega, by go_num, by omega, by rw [Hid, atL_in HLT.out (by rw [HY.out]; exact HE2.out), List.length_append, ← HR.out]; rfl, by rw [Hid, foundL_succ HLT.out, ← HF.out, HY.out]; simp [*], HW2.out, HL2.out, HN2.out, hA2, hB2⟩
                      case measure => simp [intOf]; omega
                    · go_wp2
                      go_roundw
                      case rel => exact ⟨j + 1, r + 1, _, by go_num, rfl, by omega, by go_num, by omega, by rw [Hid, atL_in HLT.out (by rw [HY.out]; exact HE2.out), List.length_append, ← HR.out]; rfl, by rw [Hid, foundL_succ HLT.out, ← HF.out, HY.out]; simp [*], HW2.out, HL2.out, HN2.out, hA2, hB2⟩
                      case measure => simp [intOf]; omega
                  · go_wp2
                    go_roundw
                    case rel => exact ⟨j + 1, r + 1, _, by go_num, rfl, by omega, by go_num, by omega, by rw [Hid, atL_in HLT.out (by rw [HY.out]; exact HE2.out), List.length_append, ← HR.out]; rfl, by rw [Hid, foundL_succ HLT.out, ← HF.out, HY.out]; simp [*], HW2.out, HL2.out, HN2.out, hA2, hB2⟩
                    case measure => simp [intOf]; omega
                · have HV : Hid (x = false) := by rw [Hid, ← HX.out]; exact poolB_lie j HLT.out (by rw [HY.out, lieB]; simp [*])
                  go_wp2
                  go_ret
                  exact ⟨ret_bool HV.out.symm, hB2⟩
              · have HV : Hid (x = false) := by rw [Hid, ← HX.out]; exact poolB_lie j HLT.out (by rw [HY.out, lieB]; simp [*])
                go_wp2
                go_ret
                exact ⟨ret_bool HV.out.symm, hB2⟩
            · have h01 : (s2 == 0) = false := by simpa using h0
              have h02 : (s2 != 0) = true := by simpa using h0
              cases h4 : (y2 == 1)
              · have HL2 : Hid (∀ q, q < j + 1 → lieB s2 (el l q) = true) := fun q hq => by
                  rcases Nat.lt_succ_iff_lt_or_eq.1 hq with h | rfl
                  · exact hL.out q h
                  · rw [HY.out, lieB]; simp [*]
                clear h0
                cases f
                · cases h9 : (y3 == s2)
                  · go_wp2
                    go_roundw
                    case rel => exact ⟨j + 1, r + 1, _, by go_num, rfl, by omega, by go_num, by omega, by rw [Hid, atL_in HLT.out (by rw [HY.out]; exact HE2.out), List.length_append, ← HR.out]; rfl, by rw [Hid, foundL_succ HLT.out, ← HF.out, HY.out]; simp [*], HW2.out, HL2.out, HN2.out, hA2, hB2⟩
                    case measure => simp [intOf]; omega
                  · go_wp2
                    go_roundw
                    case rel => exact ⟨j + 1, r + 1, _, by go_num, rfl, by omega, by go_num, by omega, by rw [Hid, atL_in HLT.out (by rw [HY.out]; exact HE2.out), List.length_append, ← HR.out]; rfl, by rw [Hid, foundL_succ HLT.out, ← HF.out, HY.out]; simp [*], HW2.out, HL2.out, HN2.out, hA2, hB2⟩
                    case measure => simp [intOf]; omega
                · go_wp2
                  go_roundw
                  case rel => exact ⟨j + 1, r + 1, _, by go_num, rfl, by omega, by go_num, by omega, by rw [Hid, atL_in HLT.out (by rw [HY.out]; exact HE2.out), List.length_append, ← HR.out]; rfl, by rw [Hid, foundL_succ HLT.out, ← HF.out, HY.out]; simp [*], HW2.out, HL2.out, HN2.out, hA2, hB2⟩
                  case measure => simp [intOf]; omega
              · have HV : Hid (x = false) := by rw [Hid, ← HX.out]; exact poolB_lie j HLT.out (by rw [HY.out, lieB]; simp [*])
                go_wp2
                go_ret
                exact ⟨ret_bool HV.out.symm, hB2⟩
    · obtain rfl : k = l.length := by omega
      have a0 := hA.out.c 0 rfl
      have a1 := hA.out.c 1 rfl
      have a2 := hA.out.c 2 rfl
      rw [List.take_length] at HR
      have HE : Hid (x = (decide ((r : Int) ≤ s1) && ((s2 == 0) || f))) := by rw [Hid, ← HX.out, poolB_end HS.out (by simp at h4'; omega) (worksB_end hW.out hN.out) hL.out, foundL_end, ← HF.out, ← HR.out]
      clear hW hL hN
      cases h8 : decide ((r : Int) ≤ s1)
      · have HV : Hid (x = false) := by rw [Hid, HE.out, h8]; rfl
        go_wp2
        go_ret
        exact ⟨ret_bool HV.out.symm, hB⟩
      · cases h9 : (s2 == 0)
        · have HV : Hid (x = f) := by rw [Hid, HE.out, h8, h9]; rfl
          go_wp2
          go_ret
          exact ⟨ret_bool HV.out.symm, hB⟩
        · have HV : Hid (x = true) := by rw [Hid, HE.out, h8, h9]; rfl
          go_wp2
          go_ret
          exact ⟨ret_bool HV.out.symm, hB⟩
end Go.Proofs.Ytmijibgfdhjbfaa
