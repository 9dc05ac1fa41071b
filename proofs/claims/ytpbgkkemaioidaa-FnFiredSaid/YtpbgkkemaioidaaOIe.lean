
/- A clock with a timer more: the specification's. No conditions but those written. -/
import Derived.Test.YtpbgkkemaioidaaOIb
import Derived.Test.YtpbgkkemaioidaaOPc
import Derived.Deep.QuietTactic
import Derived.BigQuiet
namespace Go.Proofs.Ytpbgkkemaioidaa.Old
open Go.RowKit

theorem below_draws {B : Nat} {a w : World} (h : Below B a w) (n : Nat) : Below B a (w.drewN n) := h.trans ⟨rfl, rfl, rfl, Nat.le_refl _, fun _ _ => rfl⟩

set_option maxRecDepth 100000 in
set_option maxHeartbeats 8000000 in
theorem l2Arm_some (now sq : Int) (b off cap : Nat) (ts : List T3) (id d : Int) (w : World) (T : List T3) (hT : T = insT ts (id, laterI now d, sq + 1)) (hl : ts.length ≤ 1048576) (hcap : ts.length ≤ cap) (hn : I64 now) (hd : I64 d) (hsq : sq ≤ 1000000) (hsq0 : 0 ≤ sq) (hz : TimersIn w.heap.size w (some ⟨b, off, none⟩) ts) :
    Calls Try.prog 32 #[.agg #[.int .i64 now, .int .i64 sq, .slice (some ⟨b, off, none⟩) ts.length cap], .int .i64 id, .int .i64 d] w fun e w' => AnsC w.heap.size now (sq + 1) T e w' ∧ Below w.heap.size w w' := by
  obtain ⟨a, ha⟩ : ∃ a, a = laterI now d := ⟨_, rfl⟩
  rw [← ha] at hT
  have HA : Hid (a = laterI now d) := ha
  have HTT : Hid (T = insT ts (id, a, sq + 1)) := hT
  clear ha hT
  obtain ⟨W2, hW2⟩ : ∃ W2, W2 = (w.alloc (.cells #[.int .i64 now, .int .i64 (sq + 1), .slice (some ⟨b, off, none⟩) ts.length cap] 25)).alloc (.cells #[.int .i64 0, .int .i64 0, .slice none 0 0] 25) := ⟨_, rfl⟩
  have hB2 : Below w.heap.size w W2 := by rw [hW2]; exact below2 _ _ _
  have hs2 : W2.heap.size = w.heap.size + 1 + 1 := by rw [hW2]; simp
  have X2 : Boxes W2 w.heap.size now (sq + 1) (.slice (some ⟨b, off, none⟩) ts.length cap) := by rw [hW2]; exact Boxes.new _ _ _ _
  have HW : Hid (W2 = (w.alloc (.cells #[.int .i64 now, .int .i64 (sq + 1), .slice (some ⟨b, off, none⟩) ts.length cap] 25)).alloc (.cells #[.int .i64 0, .int .i64 0, .slice none 0 0] 25)) := hW2
  obtain ⟨b0, b1, b2, bf0, bf1, bf2, r0, r1, r2, f0, f1, f2, l1⟩ := _root_.id X2
  clear hW2
  go_enter Try.func32, Try.ntmps32
  go_wp2
  rw [← HW.out]
  go_region_held3 (fun X => X.cell? ⟨w.heap.size, 0, none⟩ = some (.int .i64 now) ∧ X.cell? ⟨w.heap.size, 1, none⟩ = some (.int .i64 (sq + 1))) (first | exact ⟨b0, b1⟩ | exact ⟨(X2.alloc _).b0, (X2.alloc _).b1⟩ | exact ⟨(X2.drew.alloc _).b0, (X2.drew.alloc _).b1⟩ | exact ⟨(X2.alloc _).drew.b0, (X2.alloc _).drew.b1⟩ | assumption | go_keep)
    (first | (go_at_call 37; refine (specLater_any now d _ hn hd).mono ?_; rintro e w1 ⟨rfl, rfl⟩; rw [← HA.out]))
  all_goals
    go_wp2
    obtain ⟨W3, hW3⟩ : ∃ W3, W3 = (W2.alloc (.cells #[.int .i64 id, .int .i64 a, .int .i64 (sq + 1)] 49)).drew := ⟨_, rfl⟩
    rw [← hW3]
    have hs3 : W3.heap.size = w.heap.size + 1 + 1 + 1 := by rw [hW3]; simp [hs2]
    have hb23 : Below W2.heap.size W2 W3 := by rw [hW3]; exact (below1 _ _).drew
    have hB3 : Below w.heap.size w W3 := hB2.trans (hb23.mono hB2.size)
    have X3 : Boxes W3 w.heap.size now (sq + 1) (.slice (some ⟨b, off, none⟩) ts.length cap) := X2.later hb23
    have t0 : W3.cell? ⟨w.heap.size + 1 + 1, 0, none⟩ = some (.int .i64 id) := by rw [hW3, ← hs2]; simp
    have t1 : W3.cell? ⟨w.heap.size + 1 + 1, 1, none⟩ = some (.int .i64 a) := by rw [hW3, ← hs2]; simp
    have t2 : W3.cell? ⟨w.heap.size + 1 + 1, 2, none⟩ = some (.int .i64 (sq + 1)) := by rw [hW3, ← hs2]; simp
    have HT : Hid (∀ X, Below (w.heap.size + 1 + 1 + 1) W3 X → X.cell? ⟨w.heap.size, 0, none⟩ = some (.int .i64 now) ∧ X.cell? ⟨w.heap.size, 1, none⟩ = some (.int .i64 (sq + 1)) ∧ X.cell? ⟨w.heap.size, 2, none⟩ = some (.slice (some ⟨b, off, none⟩) ts.length cap) ∧ X.frozen? ⟨w.heap.size, 2, none⟩ = false ∧ X.cell? ⟨w.heap.size + 1, 0, none⟩ = some (.int .i64 0) ∧ X.cell? ⟨w.heap.size + 1, 1, none⟩ = some (.int .i64 0) ∧ X.cell? ⟨w.heap.size + 1, 2, none⟩ = some (.slice none 0 0) ∧ X.frozen? ⟨w.heap.size + 1, 0, none⟩ = false ∧ X.frozen? ⟨w.heap.size + 1, 1, none⟩ = false ∧ X.frozen? ⟨w.heap.size + 1, 2, none⟩ = false ∧ X.cell? ⟨w.heap.size + 1 + 1, 0, none⟩ = some (.int .i64 id) ∧ X.cell? ⟨w.heap.size + 1 + 1, 1, none⟩ = some (.int .i64 a) ∧ X.cell? ⟨w.heap.size + 1 + 1, 2, none⟩ = some (.int .i64 (sq + 1))) := fun X h => by
      have h' : Below W3.heap.size W3 X := by rw [hs3]; exact h
      obtain ⟨p0, p1, p2, _, _, pf, q0, q1, q2, u0, u1, u2, _⟩ := X3.later h'
      exact ⟨p0, p1, p2, pf, q0, q1, q2, u0, u1, u2, (h.cell (p := ⟨w.heap.size + 1 + 1, 0, none⟩) (by simp)).trans t0, (h.cell (p := ⟨w.heap.size + 1 + 1, 1, none⟩) (by simp)).trans t1, (h.cell (p := ⟨w.heap.size + 1 + 1, 2, none⟩) (by simp)).trans t2⟩
    have HZ : Hid (∀ X, Below (w.heap.size + 1 + 1 + 1) W3 X → TimersIn w.heap.size X (some ⟨b, off, none⟩) ts) := fun X h => hz.below (hB3.trans (h.mono (by omega)))
    have hs3a : w.heap.size + 1 + 1 + 1 ≤ W3.heap.size := by omega
    clear hs3 hW3 hb23 X2 b0 b1 b2 bf0 bf1 bf2 r0 r1 r2 f0 f1 f2 l1 t0 t1 t2 X3
    go_loopw [8] (fun i wr => ∃ k : Nat, k ≤ ts.length ∧ i = .int .i64 (k : Int) ∧ Hid (∀ j, j < k → (t3 ts j).2.1 ≤ a) ∧ Below (w.heap.size + 1 + 1 + 1) W3 wr) (fun i _ => ts.length - (intOf i).toNat)
    case atStart => exact ⟨0, Nat.zero_le _, rfl, fun j hj => by omega, Below.refl _ _⟩
    case round =>
      obtain ⟨k, hk, rfl, hno, hB⟩ := hrel
      have hsr := hB.size
      obtain ⟨a0, a1, a2, af, c0, c1, c2, e0, e1, e2, g0, g1, g2⟩ := HT.out wr hB
      by_cases hlt : k < ts.length
      · have hki : (k : Int) < (ts.length : Int) := by omega
        obtain ⟨b', off', eb, hb', hc⟩ := (HZ.out wr hB).pos hlt
        cases eb
        have d2 := (hc k hlt).2.1
        obtain ⟨y, ey⟩ : ∃ y, y = (t3 ts k).2.1 := ⟨_, rfl⟩
        rw [← ey] at d2
        have HY : Hid (y = (t3 ts k).2.1) := ey
        clear ey hc
        by_cases hle : y ≤ a
        · have HN : Hid ((t3 ts k).2.1 ≤ a) := by rw [← HY.out]; exact hle
          go_wp2
          go_quiet (fail)
          go_wp2
          go_roundw
          case rel => exact ⟨k + 1, by omega, by go_num, fun j hj => by
            rcases Nat.lt_succ_iff_lt_or_eq.1 hj with h | rfl
            · exact hno.out j h
            · exact HN.out, below_draws hB _⟩
          case measure => simp [intOf]; omega
        · have hle' : decide (y ≤ a) = false := by simpa using hle
          have HN : Hid (a < (t3 ts k).2.1) := by rw [← HY.out]; exact Int.not_le.1 hle
          clear hle
          go_wp2
          go_quiet (fail)
          obtain ⟨WQ, hWQ⟩ : ∃ WQ, WQ = wr.drewN nq := ⟨_, rfl⟩
          rw [← hWQ]
          have hBQ : Below (w.heap.size + 1 + 1 + 1) W3 WQ := by rw [hWQ]; exact below_draws hB _
          have hsQ := hBQ.size
          clear hWQ a0 a1 a2 af c0 c1 c2 e0 e1 e2 g0 g1 g2 d2
          obtain ⟨a0, a1, a2, af, c0, c1, c2, e0, e1, e2, g0, g1, g2⟩ := HT.out WQ hBQ
          clear hB hsr
          have HI : Hid (insK ts a = k) := (Ins.eq ⟨hk, hno.out, fun _ => HN.out⟩).symm
          have hkc : (k : Int) ≤ (cap : Int) := by omega
          have hkl : (k : Int) ≤ (ts.length : Int) := by omega
          have hkl2 : (ts.take k).length = k := by simp; omega
          have HIF : Hid ((if cap = k then some (⟨b, off, none⟩ : Addr) else some ⟨b, off + k * 3, none⟩) = some (if cap = k then ⟨b, off, none⟩ else ⟨b, off + k * 3, none⟩)) := by unfold Hid; by_cases e : cap = k <;> simp only [e, if_true, if_false]
          have HDR : Hid (∀ X, TimersIn w.heap.size X (some ⟨b, off, none⟩) ts → TimersIn w.heap.size X (some (if cap = k then ⟨b, off, none⟩ else ⟨b, off + k * 3, none⟩)) (ts.drop k)) := by
            intro X h
            by_cases e : cap = k
            · exact .inl (List.drop_eq_nil_of_le (by omega))
            · rw [if_neg e]; exact h.drop k
          go_wp2_with (at_builtin; first
            | (refine wpList_app51 WQ rfl (.tmp 40) (.tmp 44) rfl (w.heap.size + 1 + 1 + 1) (.slice none 0 0) [] rfl (OwnV.nil _ _) (by omega) ⟨b, off, none⟩ (ts.take k) k cap rfl hkl2 _ ((HZ.out _ hBQ).take k) (by simp; omega) ?_; intro v4 w4 hO4 hB4 hg4 hn4; have T4 := hBQ.trans hB4; obtain ⟨a40, a41, a42, a4f, c40, c41, c42, e40, e41, e42, g40, g41, g42⟩ := HT.out _ T4; have HO4 : Hid (OwnV (w.heap.size + 1 + 1 + 1) w4 v4 (ts.take k)) := hO4; clear hO4 hg4 hn4)
            | (refine wpList_pushC (w4.alloc (.cells #[.int .i64 id, .int .i64 a, .int .i64 (sq + 1)] 49)) rfl (.tmp 46) (.tmp 48) rfl (w.heap.size + 1 + 1 + 1) v4 (ts.take k) rfl (HO4.out.below (below1 _ _)) (by have := T4.size; simp; omega) (by omega) w4.heap.size (id, a, sq + 1) 1 rfl ⟨by simp, by simp, by simp⟩ ?_; intro v5 w5 hO5 _ hg5; have hB5 : Below (w.heap.size + 1 + 1 + 1) w4 w5 := ((below1 w4 (.cells #[.int .i64 id, .int .i64 a, .int .i64 (sq + 1)] 49)).mono (by have := T4.size; omega)).trans ((HO4.out.below (below1 _ _)).belowG hg5 (by have := T4.size; simp; omega)); have T5 := T4.trans hB5; obtain ⟨a50, a51, a52, a5f, c50, c51, c52, e50, e51, e52, g50, g51, g52⟩ := HT.out _ T5; have HO5 : Hid (OwnV (w.heap.size + 1 + 1 + 1) w5 v5 (ts.take k ++ [(id, a, sq + 1)])) := hO5; clear hO5 hg5 a40 a41 a42 a4f c40 c41 c42 e40 e41 e42 g40 g41 g42)
            | (refine wpList_app51 w5 rfl (.tmp 50) (.tmp 54) rfl (w.heap.size + 1 + 1 + 1) v5 (ts.take k ++ [(id, a, sq + 1)]) rfl HO5.out (by have := T5.size; omega) ⟨b, off + k * 3, none⟩ (ts.drop k) (ts.length - k) (cap - k) rfl (by simp) _ ((HZ.out _ T5).drop k) (by simp <;> omega) ?_; intro v6 w6 hO6 hB6 hg6 hn6; have T6 := T5.trans hB6; obtain ⟨a60, a61, a62, a6f, c60, c61, c62, e60, e61, e62, g60, g61, g62⟩ := HT.out _ T6; have hO7 : OwnV (w.heap.size + 1 + 1 + 1) w6 v6 T := (by rw [HTT.out, insT]; dsimp only; rw [HI.out]; simpa using hO6); have HO6 : Hid (OwnV (w.heap.size + 1 + 1 + 1) w6 v6 T) := hO7; obtain ⟨to, tc, rfl, _, _⟩ := HO6.out.fresh; clear hO7 hO6 hg6 hn6 hB6 a50 a51 a52 a5f c50 c51 c52 e50 e51 e52 g50 g51 g52))
          all_goals
            obtain ⟨to', tc', e', hF, hwf⟩ := HO6.out.fresh
            simp only [Value.slice.injEq, true_and] at e'
            obtain ⟨rfl, rfl⟩ := e'
            have hBe : Below w.heap.size w w6 := hB3.trans (T6.mono (by omega))
            refine bodyPost_ret (v := .agg #[.int .i64 now, .int .i64 (sq + 1), .slice to T.length tc]) (by simp [results, Try.results32, go_sem, c60, c61, c62]) rfl ⟨⟨to, tc, rfl, ?_⟩, ?_⟩
            · exact ((((hF.setBelow (a := ⟨w.heap.size, 2, none⟩) (by simp <;> omega) _).setBelow (a := ⟨w.heap.size + 1, 0, none⟩) (by simp <;> omega) _).setBelow (a := ⟨w.heap.size + 1, 1, none⟩) (by simp <;> omega) _).setBelow (a := ⟨w.heap.size + 1, 2, none⟩) (by simp <;> omega) _).wide (by omega) (by simp)
            · exact (((hBe.setCell (p := ⟨w.heap.size, 2, none⟩) (by simp) _).setCell (p := ⟨w.heap.size + 1, 0, none⟩) (by simp) _).setCell (p := ⟨w.heap.size + 1, 1, none⟩) (by simp) _).setCell (p := ⟨w.heap.size + 1, 2, none⟩) (by simp) _
      · have hki : decide ((k : Int) < (ts.length : Int)) = false := by simp; omega
        go_wp2
        go_quiet (fail)
        obtain ⟨WQ, hWQ⟩ : ∃ WQ, WQ = wr.drewN nq := ⟨_, rfl⟩
        rw [← hWQ]
        have hBQ : Below (w.heap.size + 1 + 1 + 1) W3 WQ := by rw [hWQ]; exact below_draws hB _
        have hsQ := hBQ.size
        clear hWQ a0 a1 a2 af c0 c1 c2 e0 e1 e2 g0 g1 g2
        obtain ⟨a0, a1, a2, af, c0, c1, c2, e0, e1, e2, g0, g1, g2⟩ := HT.out WQ hBQ
        clear hB hsr
        have HI : Hid (insK ts a = k) := (Ins.eq ⟨hk, hno.out, fun h => absurd h hlt⟩).symm
        have hkc : (k : Int) ≤ (cap : Int) := by omega
        have hkl : (k : Int) ≤ (ts.length : Int) := by omega
        have hkl2 : (ts.take k).length = k := by simp; omega
        have HIF : Hid ((if cap = k then some (⟨b, off, none⟩ : Addr) else some ⟨b, off + k * 3, none⟩) = some (if cap = k then ⟨b, off, none⟩ else ⟨b, off + k * 3, none⟩)) := by unfold Hid; by_cases e : cap = k <;> simp only [e, if_true, if_false]
        have HDR : Hid (∀ X, TimersIn w.heap.size X (some ⟨b, off, none⟩) ts → TimersIn w.heap.size X (some (if cap = k then ⟨b, off, none⟩ else ⟨b, off + k * 3, none⟩)) (ts.drop k)) := by
          intro X h
          by_cases e : cap = k
          · exact .inl (List.drop_eq_nil_of_le (by omega))
          · rw [if_neg e]; exact h.drop k
        go_wp2_with (at_builtin; first
          | (refine wpList_app51 WQ rfl (.tmp 40) (.tmp 44) rfl (w.heap.size + 1 + 1 + 1) (.slice none 0 0) [] rfl (OwnV.nil _ _) (by omega) ⟨b, off, none⟩ (ts.take k) k cap rfl hkl2 _ ((HZ.out _ hBQ).take k) (by simp; omega) ?_; intro v4 w4 hO4 hB4 hg4 hn4; have T4 := hBQ.trans hB4; obtain ⟨a40, a41, a42, a4f, c40, c41, c42, e40, e41, e42, g40, g41, g42⟩ := HT.out _ T4; have HO4 : Hid (OwnV (w.heap.size + 1 + 1 + 1) w4 v4 (ts.take k)) := hO4; clear hO4 hg4 hn4)
          | (refine wpList_pushC (w4.alloc (.cells #[.int .i64 id, .int .i64 a, .int .i64 (sq + 1)] 49)) rfl (.tmp 46) (.tmp 48) rfl (w.heap.size + 1 + 1 + 1) v4 (ts.take k) rfl (HO4.out.below (below1 _ _)) (by have := T4.size; simp; omega) (by omega) w4.heap.size (id, a, sq + 1) 1 rfl ⟨by simp, by simp, by simp⟩ ?_; intro v5 w5 hO5 _ hg5; have hB5 : Below (w.heap.size + 1 + 1 + 1) w4 w5 := ((below1 w4 (.cells #[.int .i64 id, .int .i64 a, .int .i64 (sq + 1)] 49)).mono (by have := T4.size; omega)).trans ((HO4.out.below (below1 _ _)).belowG hg5 (by have := T4.size; simp; omega)); have T5 := T4.trans hB5; obtain ⟨a50, a51, a52, a5f, c50, c51, c52, e50, e51, e52, g50, g51, g52⟩ := HT.out _ T5; have HO5 : Hid (OwnV (w.heap.size + 1 + 1 + 1) w5 v5 (ts.take k ++ [(id, a, sq + 1)])) := hO5; clear hO5 hg5 a40 a41 a42 a4f c40 c41 c42 e40 e41 e42 g40 g41 g42)
          | (refine wpList_app51 w5 rfl (.tmp 50) (.tmp 54) rfl (w.heap.size + 1 + 1 + 1) v5 (ts.take k ++ [(id, a, sq + 1)]) rfl HO5.out (by have := T5.size; omega) _ (ts.drop k) (ts.length - k) (cap - k) (congrArg (fun q => Value.slice q (ts.length - k) (cap - k)) HIF.out) (by simp) _ (HDR.out _ (HZ.out _ T5)) (by simp <;> omega) ?_; intro v6 w6 hO6 hB6 hg6 hn6; have T6 := T5.trans hB6; obtain ⟨a60, a61, a62, a6f, c60, c61, c62, e60, e61, e62, g60, g61, g62⟩ := HT.out _ T6; have hO7 : OwnV (w.heap.size + 1 + 1 + 1) w6 v6 T := (by rw [HTT.out, insT]; dsimp only; rw [HI.out]; simpa using hO6); have HO6 : Hid (OwnV (w.heap.size + 1 + 1 + 1) w6 v6 T) := hO7; obtain ⟨to, tc, rfl, _, _⟩ := HO6.out.fresh; clear hO7 hO6 hg6 hn6 hB6 a50 a51 a52 a5f c50 c51 c52 e50 e51 e52 g50 g51 g52))
        all_goals
          obtain ⟨to', tc', e', hF, hwf⟩ := HO6.out.fresh
          simp only [Value.slice.injEq, true_and] at e'
          obtain ⟨rfl, rfl⟩ := e'
          have hBe : Below w.heap.size w w6 := hB3.trans (T6.mono (by omega))
          refine bodyPost_ret (v := .agg #[.int .i64 now, .int .i64 (sq + 1), .slice to T.length tc]) (by simp [results, Try.results32, go_sem, c60, c61, c62]) rfl ⟨⟨to, tc, rfl, ?_⟩, ?_⟩
          · exact ((((hF.setBelow (a := ⟨w.heap.size, 2, none⟩) (by simp <;> omega) _).setBelow (a := ⟨w.heap.size + 1, 0, none⟩) (by simp <;> omega) _).setBelow (a := ⟨w.heap.size + 1, 1, none⟩) (by simp <;> omega) _).setBelow (a := ⟨w.heap.size + 1, 2, none⟩) (by simp <;> omega) _).wide (by omega) (by simp)
          · exact (((hBe.setCell (p := ⟨w.heap.size, 2, none⟩) (by simp) _).setCell (p := ⟨w.heap.size + 1, 0, none⟩) (by simp) _).setCell (p := ⟨w.heap.size + 1, 1, none⟩) (by simp) _).setCell (p := ⟨w.heap.size + 1, 2, none⟩) (by simp) _
end Go.Proofs.Ytpbgkkemaioidaa.Old
