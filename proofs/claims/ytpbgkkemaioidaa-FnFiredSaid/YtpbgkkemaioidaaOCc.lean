
/- The contract of spec.GoodClock. No conditions but those written. -/
import Derived.Test.YtpbgkkemaioidaaOCa
namespace Go.Proofs.Ytpbgkkemaioidaa.Old
open Go.RowKit

theorem orderB_gt (p t : T3) (h : t.2.1 < p.2.1) : beforeB p t = false := by
  unfold beforeB; split
  · omega
  · simp; omega
theorem orderB_eq (p t : T3) (h : p.2.1 = t.2.1) (h' : t.2.2 ≤ p.2.2) : beforeB p t = false := by
  unfold beforeB; rw [if_pos h]; simp; omega
theorem orderB_ok (p t : T3) (h : ¬ t.2.1 < p.2.1) (h' : p.2.1 = t.2.1 → ¬ t.2.2 ≤ p.2.2) : beforeB p t = true := by
  unfold beforeB; split
  · rename_i e; have := h' e; simp; omega
  · simp; omega

set_option maxHeartbeats 400000 in
theorem specGood_head (now sq : Int) (ao : Option Addr) (cap : Nat) (ts : List T3) (w : World) (hl : ts.length ≤ 1048576) (h : now < 0 ∨ sq < 0 ∨ 1000000 < sq ∨ 30 < ts.length) :
    Calls Try.prog 17 #[.agg #[.int .i64 now, .int .i64 sq, .slice ao ts.length cap]] w fun e w' => e = .returned (.bool (goodB now sq ts)) ∧ Below w.heap.size w w' := by
  have HF : Hid (goodB now sq ts = false) := goodB_head _ _ _ h
  by_cases h1 : now < 0
  · clear h
    go_enter Try.func17, Try.ntmps17
    go_wp2
    go_ret
    exact ⟨ret_bool HF.out.symm, below1 _ _⟩
  have h1' : decide (now < 0) = false := by simpa using h1
  by_cases h2 : 0 ≤ sq ∧ sq ≤ 1000000
  · have h4 : 30 < ts.length := by omega
    have E : Hid ((decide ((0 : Int) ≤ sq) && decide (sq ≤ 1000000)) = true) := by simp [Hid, h2.1, h2.2]
    clear h h2 h1
    go_enter Try.func17, Try.ntmps17
    go_wp2_with fail
    refine (l1In_is _ _ _ _ true E.out).mono ?_
    rintro e w1 ⟨rfl, rfl⟩
    go_wp2
    go_ret
    exact ⟨ret_bool HF.out.symm, below1 _ _⟩
  · have E : Hid ((decide ((0 : Int) ≤ sq) && decide (sq ≤ 1000000)) = false) := by simp [Hid]; omega
    clear h h2 h1
    go_enter Try.func17, Try.ntmps17
    go_wp2_with fail
    refine (l1In_is _ _ _ _ false E.out).mono ?_
    rintro e w1 ⟨rfl, rfl⟩
    go_wp2
    go_ret
    exact ⟨ret_bool HF.out.symm, below1 _ _⟩

set_option maxRecDepth 100000 in
set_option maxHeartbeats 8000000 in
theorem specGood_few (now sq : Int) (ao : Option Addr) (cap : Nat) (ts : List T3) (w : World) (hn : 0 ≤ now) (hs0 : 0 ≤ sq) (hs1 : sq ≤ 1000000) (h30 : ts.length ≤ 30) (hcap : ts.length ≤ cap) (hz : TimersIn w.heap.size w ao ts) :
    Calls Try.prog 17 #[.agg #[.int .i64 now, .int .i64 sq, .slice ao ts.length cap]] w fun e w' => e = .returned (.bool (goodB now sq ts)) ∧ Below w.heap.size w w' := by
  have h1' : decide (now < 0) = false := by simpa using hn
  go_enter Try.func17, Try.ntmps17
  go_wp2_with fail
  refine (l1In_is _ _ _ _ true (by simp [hs0, hs1])).mono ?_
  rintro e w1 ⟨rfl, rfl⟩
  go_wp2
  go_loopw [26] (fun i wr => ∃ k : Nat, k ≤ ts.length ∧ i = .int .i64 k ∧ Hid (∀ j, j < k → rowB now sq ts j = true) ∧ Below (w.heap.size + 1) (w.alloc (.cells #[.int .i64 now, .int .i64 sq, .slice ao ts.length cap] 25)) wr) (fun i _ => ts.length - (intOf i).toNat)
  case atStart => exact ⟨0, Nat.zero_le _, rfl, fun j hj => by omega, Below.refl _ _⟩
  case round =>
    rename World => V
    obtain ⟨k, hk, rfl, hno, hnx⟩ := hrel
    have hsz := hnx.size
    simp only [World.size_alloc] at hsz
    have hbx0 : V.cell? ⟨w.heap.size, 0, none⟩ = some (.int .i64 now) := (hnx.cell (p := ⟨w.heap.size, 0, none⟩) (by simp)).trans (by simp)
    have hbx1 : V.cell? ⟨w.heap.size, 1, none⟩ = some (.int .i64 sq) := (hnx.cell (p := ⟨w.heap.size, 1, none⟩) (by simp)).trans (by simp)
    have hbx2 : V.cell? ⟨w.heap.size, 2, none⟩ = some (.slice ao ts.length cap) := (hnx.cell (p := ⟨w.heap.size, 2, none⟩) (by simp)).trans (by simp)
    have hlt0 : w.heap.size < V.heap.size := by omega
    have hB : Below w.heap.size w V := (below1 w _).trans (hnx.mono (by omega))
    by_cases hlt : k < ts.length
    · obtain ⟨b, off, rfl, hb, hc⟩ := hz.pos hlt
      have HC : Hid (∀ j, j < ts.length → w.cell? ⟨b, off + j * 3, none⟩ = some (.int .i64 (t3 ts j).1) ∧ w.cell? ⟨b, off + j * 3 + 1, none⟩ = some (.int .i64 (t3 ts j).2.1) ∧ w.cell? ⟨b, off + j * 3 + 2, none⟩ = some (.int .i64 (t3 ts j).2.2)) := hc
      obtain ⟨c1, c2, c3⟩ := hc k hlt
      have ck1 := (hB.cell (p := ⟨b, off + k * 3, none⟩) hb).trans c1
      have ck2 := (hB.cell (p := ⟨b, off + k * 3 + 1, none⟩) hb).trans c2
      have ck3 := (hB.cell (p := ⟨b, off + k * 3 + 2, none⟩) hb).trans c3
      obtain ⟨⟨x1, x2, x3⟩, ex⟩ : ∃ v, v = t3 ts k := ⟨_, rfl⟩
      rw [← ex] at ck1 ck2 ck3
      have HX : Hid (t3 ts k = (x1, x2, x3)) := ex.symm
      clear ex hc hz c1 c2 c3
      dsimp only at ck1 ck2 ck3
      have hbr : b < V.heap.size := by omega
      have hkc : (k : Int) ≤ (cap : Int) := by omega
      have hki : (k : Int) < (ts.length : Int) := by omega
      by_cases h1 : x2 < now
      · have HF : Hid (goodB now sq ts = false) := goodB_row _ _ _ k hlt (rowB_at _ _ _ _ (.inl (by rw [HX.out]; exact h1)))
        go_wp2
        go_ret
        exact ⟨ret_bool HF.out.symm, hB.alloc (by omega) _⟩
      have h1'' : decide (x2 < now) = false := by simpa using h1
      by_cases h2 : 1 ≤ x3 ∧ x3 ≤ sq
      · have E2 : Hid ((decide ((1 : Int) ≤ x3) && decide (x3 ≤ sq)) = true) := by simp [Hid, h2.1, h2.2]
        obtain ⟨h2a, h2b⟩ := h2
        have hB1 : Below w.heap.size w (V.alloc (.cells #[.int .i64 x1, .int .i64 x2, .int .i64 x3] 49)) := hB.alloc (by omega) _
        -- the order of the neighbours
        have hord : (k = 0 ∨ beforeB (t3 ts (k - 1)) (t3 ts k) = true) ∨ (k ≠ 0 ∧ beforeB (t3 ts (k - 1)) (t3 ts k) = false) := by
          by_cases e : k = 0
          · exact .inl (.inl e)
          · cases hbb : beforeB (t3 ts (k - 1)) (t3 ts k)
            · exact .inr ⟨e, rfl⟩
            · exact .inl (.inr rfl)
        go_wp2_with fail
        refine (l1In_is _ _ _ _ true E2.out).mono ?_
        rintro e w1 ⟨rfl, rfl⟩
        obtain ⟨W1, hW1⟩ : ∃ W1, W1 = V.alloc (.cells #[.int .i64 x1, .int .i64 x2, .int .i64 x3] 49) := ⟨_, rfl⟩
        rw [← hW1]
        have hs1W : W1.heap.size = V.heap.size + 1 := by rw [hW1]; simp
        have hbW : Below V.heap.size V W1 := by rw [hW1]; exact below1 _ _
        have a0 : W1.cell? ⟨V.heap.size, 0, none⟩ = some (.int .i64 x1) := by rw [hW1]; simp
        have a1 : W1.cell? ⟨V.heap.size, 1, none⟩ = some (.int .i64 x2) := by rw [hW1]; simp
        have a2 : W1.cell? ⟨V.heap.size, 2, none⟩ = some (.int .i64 x3) := by rw [hW1]; simp
        have a3 : W1.cell? ⟨w.heap.size, 2, none⟩ = some (.slice (some ⟨b, off, none⟩) ts.length cap) := (hbW.cell (p := ⟨w.heap.size, 2, none⟩) hlt0).trans hbx2
        have hBW : Below w.heap.size w W1 := hB.trans (hbW.mono (by omega))
        have hnW : Below (w.heap.size + 1) (w.alloc (.cells #[.int .i64 now, .int .i64 sq, .slice (some ⟨b, off, none⟩) ts.length cap] 25)) W1 := hnx.trans (hbW.mono (by omega))
        clear hW1 hnx hbx0 hbx1 hbx2 ck1 ck2 ck3 hB hB1
        have hRow : Hid ((∀ j, j < k → clashB (t3 ts j) (t3 ts k) = false) → (k = 0 ∨ beforeB (t3 ts (k - 1)) (t3 ts k) = true) → ∀ j, j < k + 1 → rowB now sq ts j = true) := by
          intro hc ho j hj
          rcases Nat.lt_succ_iff_lt_or_eq.1 hj with h | rfl
          · exact hno.out j h
          · exact rowB_end _ _ _ _ (by rw [HX.out]; dsimp only; omega) (by rw [HX.out]; exact h2a) (by rw [HX.out]; exact h2b) hc ho
        by_cases hk0 : k = 0
        · have hk0' : decide ((0 : Int) < (k : Int)) = false := by simp; omega
          have hk0n : decide (0 < k) = false := by simp; omega
          have HK0 : Hid (k = 0) := hk0
          clear hk0 hord
          go_wp2
          go_loopw [76] (fun i wq => i = .int .i64 0 ∧ wq = W1) (fun i _ => 0)
          case atStart => exact ⟨rfl, rfl⟩
          case round =>
            obtain ⟨rfl, rfl⟩ := hrel
            go_wp2
            go_roundw
            case rel => exact ⟨k + 1, by omega, by go_num, hRow.out (fun j hj => by have := HK0.out; omega) (.inl HK0.out), hnW⟩
            case measure => simp [intOf]; omega
        · have hk0' : (0 : Int) < (k : Int) := by omega
          obtain ⟨c1, c2, c3⟩ := HC.out (k - 1) (by omega)
          have cp1 := (hBW.cell (p := ⟨b, off + (k - 1) * 3, none⟩) hb).trans c1
          have cp2 := (hBW.cell (p := ⟨b, off + (k - 1) * 3 + 1, none⟩) hb).trans c2
          have cp3 := (hBW.cell (p := ⟨b, off + (k - 1) * 3 + 2, none⟩) hb).trans c3
          obtain ⟨⟨p1, p2, p3⟩, ep⟩ : ∃ v, v = t3 ts (k - 1) := ⟨_, rfl⟩
          rw [← ep] at cp1 cp2 cp3
          have HP : Hid (t3 ts (k - 1) = (p1, p2, p3)) := ep.symm
          clear ep c1 c2 c3
          dsimp only at cp1 cp2 cp3
          have hbW1 : b < W1.heap.size := by omega
          have hltW : V.heap.size < W1.heap.size := by omega
          have hltW0 : w.heap.size < W1.heap.size := by omega
          by_cases hg : x2 < p2
          · have HF : Hid (goodB now sq ts = false) := goodB_row _ _ _ k hlt (rowB_order _ _ _ _ hk0 (by rw [HX.out, HP.out]; exact orderB_gt _ _ hg))
            clear hord
            go_wp2
            go_ret
            exact ⟨ret_bool HF.out.symm, hBW.alloc (by omega) _⟩
          have hg' : decide (x2 < p2) = false := by simpa using hg
          by_cases he : p2 = x2
          · by_cases hge : x3 ≤ p3
            · have HF : Hid (goodB now sq ts = false) := goodB_row _ _ _ k hlt (rowB_order _ _ _ _ hk0 (by rw [HX.out, HP.out]; exact orderB_eq _ _ he hge))
              subst he
              clear hord
              go_wp2
              go_ret
              exact ⟨ret_bool HF.out.symm, hBW.alloc (by omega) _⟩
            · have HO : Hid (beforeB (t3 ts (k - 1)) (t3 ts k) = true) := by rw [HX.out, HP.out]; exact orderB_ok _ _ hg (fun _ => hge)
              have hge' : decide (x3 ≤ p3) = false := by simpa using hge
              have he' : (p2 == x2) = true := by simpa using he
              clear hord he
              go_wp2
              go_loopw [76] (fun i wq => ∃ j : Nat, j ≤ k ∧ i = .int .i64 j ∧ Hid (∀ j', j' < j → clashB (t3 ts j') (t3 ts k) = false) ∧ Below (W1.heap.size + 1) (W1.alloc (.cells #[.int .i64 p1, .int .i64 p2, .int .i64 p3] 49)) wq) (fun i _ => k - (intOf i).toNat)
              case atStart => exact ⟨0, Nat.zero_le _, rfl, fun j hj => by omega, Below.refl _ _⟩
              case round =>
                obtain ⟨j, hj, rfl, hcl, hnq⟩ := hrel
                have hsq := hnq.size
                simp only [World.size_alloc] at hsq
                have hbq : Below W1.heap.size W1 wr := (below1 W1 _).trans (hnq.mono (by omega))
                have q0 : wr.cell? ⟨V.heap.size, 0, none⟩ = some (.int .i64 x1) := (hbq.cell (p := ⟨V.heap.size, 0, none⟩) hltW).trans a0
                have q2 : wr.cell? ⟨V.heap.size, 2, none⟩ = some (.int .i64 x3) := (hbq.cell (p := ⟨V.heap.size, 2, none⟩) hltW).trans a2
                have hBq : Below w.heap.size w wr := hBW.trans (hbq.mono (by omega))
                have hltq : V.heap.size < wr.heap.size := by omega
                by_cases hjk : j < k
                · obtain ⟨c1, c2, c3⟩ := HC.out j (by omega)
                  have d1 := (hBq.cell (p := ⟨b, off + j * 3, none⟩) hb).trans c1
                  have d2 := (hBq.cell (p := ⟨b, off + j * 3 + 1, none⟩) hb).trans c2
                  have d3 := (hBq.cell (p := ⟨b, off + j * 3 + 2, none⟩) hb).trans c3
                  obtain ⟨⟨y1, y2, y3⟩, ey⟩ : ∃ v, v = t3 ts j := ⟨_, rfl⟩
                  rw [← ey] at d1 d2 d3
                  have HY : Hid (t3 ts j = (y1, y2, y3)) := ey.symm
                  clear ey c1 c2 c3
                  dsimp only at d1 d2 d3
                  by_cases hid : y1 = x1
                  · have hid' : (y1 == x1) = true := by simpa using hid
                    have HF : Hid (goodB now sq ts = false) := goodB_row _ _ _ k hlt (rowB_clash _ _ _ k j hjk (by rw [HX.out, HY.out]; simp [clashB, hid]))
                    clear hid
                    go_wp2
                    go_ret
                    exact ⟨ret_bool HF.out.symm, hBq.alloc (by omega) _⟩
                  have hid' : (y1 == x1) = false := by simpa using hid
                  by_cases hsq3 : y3 = x3
                  · have hsq' : (y3 == x3) = true := by simpa using hsq3
                    have HF : Hid (goodB now sq ts = false) := goodB_row _ _ _ k hlt (rowB_clash _ _ _ k j hjk (by rw [HX.out, HY.out]; simp [clashB, hsq3]))
                    clear hid hsq3
                    go_wp2
                    go_ret
                    exact ⟨ret_bool HF.out.symm, hBq.alloc (by omega) _⟩
                  have hsq' : (y3 == x3) = false := by simpa using hsq3
                  have HN : Hid (clashB (t3 ts j) (t3 ts k) = false) := by rw [HX.out, HY.out]; simp [Hid, clashB, hid, hsq3]
                  clear hid hsq3
                  go_wp2
                  go_roundw
                  case rel => exact ⟨j + 1, by omega, by go_num, fun j' hj' => by
                    rcases Nat.lt_succ_iff_lt_or_eq.1 hj' with h | rfl
                    · exact hcl.out j' h
                    · exact HN.out, hnq.alloc (by omega) _⟩
                  case measure => simp [intOf]; omega
                · obtain rfl : j = k := by omega
                  have hnn : Below (w.heap.size + 1) (w.alloc (.cells #[.int .i64 now, .int .i64 sq, .slice (some ⟨b, off, none⟩) ts.length cap] 25)) wr := hnW.trans (hbq.mono (by omega))
                  go_wp2
                  go_roundw
                  case rel => exact ⟨j + 1, by omega, by go_num, hRow.out hcl.out (.inr HO.out), hnn⟩
                  case measure => simp [intOf]; omega
          · have HO : Hid (beforeB (t3 ts (k - 1)) (t3 ts k) = true) := by rw [HX.out, HP.out]; exact orderB_ok _ _ hg (fun e => absurd e he)
            have he' : (p2 == x2) = false := by simpa using he
            clear hord he
            go_wp2
            go_loopw [76] (fun i wq => ∃ j : Nat, j ≤ k ∧ i = .int .i64 j ∧ Hid (∀ j', j' < j → clashB (t3 ts j') (t3 ts k) = false) ∧ Below (W1.heap.size + 1) (W1.alloc (.cells #[.int .i64 p1, .int .i64 p2, .int .i64 p3] 49)) wq) (fun i _ => k - (intOf i).toNat)
            case atStart => exact ⟨0, Nat.zero_le _, rfl, fun j hj => by omega, Below.refl _ _⟩
            case round =>
              obtain ⟨j, hj, rfl, hcl, hnq⟩ := hrel
              have hsq := hnq.size
              simp only [World.size_alloc] at hsq
              have hbq : Below W1.heap.size W1 wr := (below1 W1 _).trans (hnq.mono (by omega))
              have q0 : wr.cell? ⟨V.heap.size, 0, none⟩ = some (.int .i64 x1) := (hbq.cell (p := ⟨V.heap.size, 0, none⟩) hltW).trans a0
              have q2 : wr.cell? ⟨V.heap.size, 2, none⟩ = some (.int .i64 x3) := (hbq.cell (p := ⟨V.heap.size, 2, none⟩) hltW).trans a2
              have hBq : Below w.heap.size w wr := hBW.trans (hbq.mono (by omega))
              have hltq : V.heap.size < wr.heap.size := by omega
              by_cases hjk : j < k
              · obtain ⟨c1, c2, c3⟩ := HC.out j (by omega)
                have d1 := (hBq.cell (p := ⟨b, off + j * 3, none⟩) hb).trans c1
                have d2 := (hBq.cell (p := ⟨b, off + j * 3 + 1, none⟩) hb).trans c2
                have d3 := (hBq.cell (p := ⟨b, off + j * 3 + 2, none⟩) hb).trans c3
                obtain ⟨⟨y1, y2, y3⟩, ey⟩ : ∃ v, v = t3 ts j := ⟨_, rfl⟩
                rw [← ey] at d1 d2 d3
                have HY : Hid (t3 ts j = (y1, y2, y3)) := ey.symm
                clear ey c1 c2 c3
                dsimp only at d1 d2 d3
                by_cases hid : y1 = x1
                · have hid' : (y1 == x1) = true := by simpa using hid
                  have HF : Hid (goodB now sq ts = false) := goodB_row _ _ _ k hlt (rowB_clash _ _ _ k j hjk (by rw [HX.out, HY.out]; simp [clashB, hid]))
                  clear hid
                  go_wp2
                  go_ret
                  exact ⟨ret_bool HF.out.symm, hBq.alloc (by omega) _⟩
                have hid' : (y1 == x1) = false := by simpa using hid
                by_cases hsq3 : y3 = x3
                · have hsq' : (y3 == x3) = true := by simpa using hsq3
                  have HF : Hid (goodB now sq ts = false) := goodB_row _ _ _ k hlt (rowB_clash _ _ _ k j hjk (by rw [HX.out, HY.out]; simp [clashB, hsq3]))
                  clear hid hsq3
                  go_wp2
                  go_ret
                  exact ⟨ret_bool HF.out.symm, hBq.alloc (by omega) _⟩
                have hsq' : (y3 == x3) = false := by simpa using hsq3
                have HN : Hid (clashB (t3 ts j) (t3 ts k) = false) := by rw [HX.out, HY.out]; simp [Hid, clashB, hid, hsq3]
                clear hid hsq3
                go_wp2
                go_roundw
                case rel => exact ⟨j + 1, by omega, by go_num, fun j' hj' => by
                  rcases Nat.lt_succ_iff_lt_or_eq.1 hj' with h | rfl
                  · exact hcl.out j' h
                  · exact HN.out, hnq.alloc (by omega) _⟩
                case measure => simp [intOf]; omega
              · obtain rfl : j = k := by omega
                have hnn : Below (w.heap.size + 1) (w.alloc (.cells #[.int .i64 now, .int .i64 sq, .slice (some ⟨b, off, none⟩) ts.length cap] 25)) wr := hnW.trans (hbq.mono (by omega))
                go_wp2
                go_roundw
                case rel => exact ⟨j + 1, by omega, by go_num, hRow.out hcl.out (.inr HO.out), hnn⟩
                case measure => simp [intOf]; omega
      · have E2 : Hid ((decide ((1 : Int) ≤ x3) && decide (x3 ≤ sq)) = false) := by simp [Hid]; omega
        have HF : Hid (goodB now sq ts = false) := goodB_row _ _ _ k hlt (rowB_at _ _ _ _ (.inr (by rw [HX.out]; dsimp only; omega)))
        clear h2
        go_wp2_with fail
        refine (l1In_is _ _ _ _ false E2.out).mono ?_
        rintro e w1 ⟨rfl, rfl⟩
        go_wp2
        go_ret
        exact ⟨ret_bool HF.out.symm, hB.alloc (by omega) _⟩
    · obtain rfl : k = ts.length := by omega
      have HT : Hid (goodB now sq ts = true) := goodB_end _ _ _ hn hs0 hs1 h30 hno.out
      go_wp2
      go_ret
      exact ⟨ret_bool HT.out.symm, hB⟩
theorem specGood_any (now sq : Int) (ao : Option Addr) (cap : Nat) (ts : List T3) (w : World) (hl : ts.length ≤ 1048576) (hcap : ts.length ≤ cap) (hz : TimersIn w.heap.size w ao ts) :
    Calls Try.prog 17 #[.agg #[.int .i64 now, .int .i64 sq, .slice ao ts.length cap]] w fun e w' => e = .returned (.bool (goodB now sq ts)) ∧ Below w.heap.size w w' := by
  by_cases h : now < 0 ∨ sq < 0 ∨ 1000000 < sq ∨ 30 < ts.length
  · exact specGood_head now sq ao cap ts w hl h
  · exact specGood_few now sq ao cap ts w (by omega) (by omega) (by omega) (by omega) hcap hz
end Go.Proofs.Ytpbgkkemaioidaa.Old
