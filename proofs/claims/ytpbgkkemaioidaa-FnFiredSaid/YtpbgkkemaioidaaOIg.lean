
/- A clock with a first timer: the specification's. No conditions but those written. -/
import Derived.Test.YtpbgkkemaioidaaOIe
namespace Go.Proofs.Ytpbgkkemaioidaa.Old
open Go.RowKit

theorem wpList_app_none {ops : Array Oper} {rest : List Oper} {o : Oper} {a : Act} {Q : Exit → Act → World → Prop} (W : World) (hg : o.guard = none) (s x : Operand) (hop : o.op = Op.call { callee := Callee.builtin Builtin.append, args := #[s, x], argTypes := #[23, 23] })
    (lo : Nat) (v : Value) (xs : List T3) (hs : a.eval s = v) (hown : OwnV lo W v xs) (hx : a.eval x = .slice none 0 0) (hK : wpList Try.prog ops Q rest (a.put o.dst v) W) :
    wpList Try.prog ops Q (o :: rest) a W := by
  obtain ⟨i0, hin, hz0, hz1, hz2⟩ := info_parts Try.info49
  refine wpList_plain hg fun K hK' => ?_
  have hrun := run_append_owned_none (P := Try.prog) W lo 23 o.type 49 i0 3 Try.underlying23 hin v xs.length (tcells xs) hown
  unfold Oper.wp
  simp [execOp, hop, resolve, invoke, builtin, hs, hx, hrun, Result.andThen]
  exact hK' _ _ hK

set_option maxRecDepth 100000 in
set_option maxHeartbeats 8000000 in
theorem l2Arm_nil (now sq : Int) (id d : Int) (w : World) (T : List T3) (hT : T = [(id, laterI now d, sq + 1)]) (hn : I64 now) (hd : I64 d) (hsq : sq ≤ 1000000) (hsq0 : 0 ≤ sq) :
    Calls Try.prog 32 #[.agg #[.int .i64 now, .int .i64 sq, .slice none 0 0], .int .i64 id, .int .i64 d] w fun e w' => AnsC w.heap.size now (sq + 1) T e w' ∧ Below w.heap.size w w' := by
  obtain ⟨a, ha⟩ : ∃ a, a = laterI now d := ⟨_, rfl⟩
  rw [← ha] at hT
  have HA : Hid (a = laterI now d) := ha
  have HTT : Hid (T = [(id, a, sq + 1)]) := hT
  clear ha hT
  obtain ⟨W2, hW2⟩ : ∃ W2, W2 = (w.alloc (.cells #[.int .i64 now, .int .i64 (sq + 1), .slice none 0 0] 25)).alloc (.cells #[.int .i64 0, .int .i64 0, .slice none 0 0] 25) := ⟨_, rfl⟩
  have hB2 : Below w.heap.size w W2 := by rw [hW2]; exact below2 _ _ _
  have hs2 : W2.heap.size = w.heap.size + 1 + 1 := by rw [hW2]; simp
  have X2 : Boxes W2 w.heap.size now (sq + 1) (.slice none 0 0) := by rw [hW2]; exact Boxes.new _ _ _ _
  have HW : Hid (W2 = (w.alloc (.cells #[.int .i64 now, .int .i64 (sq + 1), .slice none 0 0] 25)).alloc (.cells #[.int .i64 0, .int .i64 0, .slice none 0 0] 25)) := hW2
  obtain ⟨b0, b1, b2, bf0, bf1, bf2, r0, r1, r2, f0, f1, f2, l1⟩ := _root_.id X2
  clear hW2
  go_enter Try.func32, Try.ntmps32
  go_wp2
  rw [← HW.out]
  go_region_held3 (fun X => X.cell? ⟨w.heap.size, 0, none⟩ = some (.int .i64 now) ∧ X.cell? ⟨w.heap.size, 1, none⟩ = some (.int .i64 (sq + 1))) (first | exact ⟨b0, b1⟩ | exact ⟨(X2.alloc _).b0, (X2.alloc _).b1⟩ | exact ⟨(X2.drew.alloc _).b0, (X2.drew.alloc _).b1⟩ | exact ⟨(X2.alloc _).drew.b0, (X2.alloc _).drew.b1⟩ | assumption | go_keep)
    (first | (go_at_call 37; refine (specLater_any now d _ hn hd).mono ?_; rintro e w1 ⟨rfl, rfl⟩; rw [← HA.out]))
  all_goals
    go_wp2
    obtain ⟨W3, hW3⟩ : ∃ W3, W3 = (W2.alloc (.cells #[.int .i64 id, .int .i64 a, .int .i64 (sq + 1)] 49)).drew := ⟨_, rfl⟩
    rw [← hW3]
    have hs3 : W3.heap.size = w.heap.size + 1 + 1 + 1 := by rw [hW3]; simp [hs2]
    have hb23 : Below W2.heap.size W2 W3 := by rw [hW3]; exact (below1 _ _).drew
    have hB3 : Below w.heap.size w W3 := hB2.trans (hb23.mono hB2.size)
    have X3 : Boxes W3 w.heap.size now (sq + 1) (.slice none 0 0) := X2.later hb23
    have t0 : W3.cell? ⟨w.heap.size + 1 + 1, 0, none⟩ = some (.int .i64 id) := by rw [hW3, ← hs2]; simp
    have t1 : W3.cell? ⟨w.heap.size + 1 + 1, 1, none⟩ = some (.int .i64 a) := by rw [hW3, ← hs2]; simp
    have t2 : W3.cell? ⟨w.heap.size + 1 + 1, 2, none⟩ = some (.int .i64 (sq + 1)) := by rw [hW3, ← hs2]; simp
    have HT : Hid (∀ X, Below (w.heap.size + 1 + 1 + 1) W3 X → X.cell? ⟨w.heap.size, 0, none⟩ = some (.int .i64 now) ∧ X.cell? ⟨w.heap.size, 1, none⟩ = some (.int .i64 (sq + 1)) ∧ X.cell? ⟨w.heap.size, 2, none⟩ = some (.slice none 0 0) ∧ X.frozen? ⟨w.heap.size, 2, none⟩ = false ∧ X.cell? ⟨w.heap.size + 1, 0, none⟩ = some (.int .i64 0) ∧ X.cell? ⟨w.heap.size + 1, 1, none⟩ = some (.int .i64 0) ∧ X.cell? ⟨w.heap.size + 1, 2, none⟩ = some (.slice none 0 0) ∧ X.frozen? ⟨w.heap.size + 1, 0, none⟩ = false ∧ X.frozen? ⟨w.heap.size + 1, 1, none⟩ = false ∧ X.frozen? ⟨w.heap.size + 1, 2, none⟩ = false ∧ X.cell? ⟨w.heap.size + 1 + 1, 0, none⟩ = some (.int .i64 id) ∧ X.cell? ⟨w.heap.size + 1 + 1, 1, none⟩ = some (.int .i64 a) ∧ X.cell? ⟨w.heap.size + 1 + 1, 2, none⟩ = some (.int .i64 (sq + 1))) := fun X h => by
      have h' : Below W3.heap.size W3 X := by rw [hs3]; exact h
      obtain ⟨p0, p1, p2, _, _, pf, q0, q1, q2, u0, u1, u2, _⟩ := X3.later h'
      exact ⟨p0, p1, p2, pf, q0, q1, q2, u0, u1, u2, (h.cell (p := ⟨w.heap.size + 1 + 1, 0, none⟩) (by simp)).trans t0, (h.cell (p := ⟨w.heap.size + 1 + 1, 1, none⟩) (by simp)).trans t1, (h.cell (p := ⟨w.heap.size + 1 + 1, 2, none⟩) (by simp)).trans t2⟩
    have hs3a : w.heap.size + 1 + 1 + 1 ≤ W3.heap.size := by omega
    clear hs3 hW3 hb23 X2 b0 b1 b2 bf0 bf1 bf2 r0 r1 r2 f0 f1 f2 l1 t0 t1 t2 X3
    obtain ⟨a0, a1, a2, af, c0, c1, c2, e0, e1, e2, g0, g1, g2⟩ := HT.out W3 (Below.refl _ _)
    go_loopw [8] (fun i wr => i = .int .i64 0 ∧ Below (w.heap.size + 1 + 1 + 1) W3 wr) (fun i _ => 0)
    case atStart => exact ⟨rfl, Below.refl _ _⟩
    case round =>
      obtain ⟨rfl, hB⟩ := hrel
      clear a0 a1 a2 af c0 c1 c2 e0 e1 e2 g0 g1 g2
      obtain ⟨a0, a1, a2, af, c0, c1, c2, e0, e1, e2, g0, g1, g2⟩ := HT.out wr hB
      have hki : decide ((0 : Int) < ((0 : Nat) : Int)) = false := by simp
      go_wp2
      go_quiet (fail)
      obtain ⟨WQ, hWQ⟩ : ∃ WQ, WQ = wr.drewN nq := ⟨_, rfl⟩
      rw [← hWQ]
      have hBQ : Below (w.heap.size + 1 + 1 + 1) W3 WQ := by rw [hWQ]; exact below_draws hB _
      have hsQ := hBQ.size
      clear hWQ a0 a1 a2 af c0 c1 c2 e0 e1 e2 g0 g1 g2
      obtain ⟨a0, a1, a2, af, c0, c1, c2, e0, e1, e2, g0, g1, g2⟩ := HT.out WQ hBQ
      clear hB
      go_wp2_with (at_builtin; first
        | (refine wpList_app_none WQ rfl (.tmp 40) (.tmp 44) rfl (w.heap.size + 1 + 1 + 1) (.slice none 0 0) [] rfl (OwnV.nil _ _) rfl ?_)
        | (refine wpList_pushC (WQ.alloc (.cells #[.int .i64 id, .int .i64 a, .int .i64 (sq + 1)] 49)) rfl (.tmp 46) (.tmp 48) rfl (w.heap.size + 1 + 1 + 1) (.slice none 0 0) [] rfl (OwnV.nil _ _) (by simp; omega) (by simp) WQ.heap.size (id, a, sq + 1) 1 rfl ⟨by simp, by simp, by simp⟩ ?_; intro v5 w5 hO5 _ hg5; have hB5 : Below (w.heap.size + 1 + 1 + 1) WQ w5 := ((below1 WQ (.cells #[.int .i64 id, .int .i64 a, .int .i64 (sq + 1)] 49)).mono (by omega)).trans ((OwnV.nil (w.heap.size + 1 + 1 + 1) (WQ.alloc (.cells #[.int .i64 id, .int .i64 a, .int .i64 (sq + 1)] 49))).belowG hg5 (by simp; omega)); have T5 := hBQ.trans hB5; obtain ⟨a50, a51, a52, a5f, c50, c51, c52, e50, e51, e52, g50, g51, g52⟩ := HT.out _ T5; have hO7 : OwnV (w.heap.size + 1 + 1 + 1) w5 v5 T := (by rw [HTT.out]; exact hO5); have HO5 : Hid (OwnV (w.heap.size + 1 + 1 + 1) w5 v5 T) := hO7; clear hO5 hO7 hg5)
        | (refine wpList_app_none w5 rfl (.tmp 50) (.tmp 54) rfl (w.heap.size + 1 + 1 + 1) v5 T rfl HO5.out rfl ?_; obtain ⟨to, tc, rfl, _, _⟩ := HO5.out.fresh))
      all_goals
        obtain ⟨to', tc', e', hF, hwf⟩ := HO5.out.fresh
        simp only [Value.slice.injEq, true_and] at e'
        obtain ⟨rfl, rfl⟩ := e'
        have hBe : Below w.heap.size w w5 := hB3.trans (T5.mono (by omega))
        refine bodyPost_ret (v := .agg #[.int .i64 now, .int .i64 (sq + 1), .slice to T.length tc]) (by simp [results, Try.results32, go_sem, c50, c51, c52]) rfl ⟨⟨to, tc, rfl, ?_⟩, ?_⟩
        · exact ((((hF.setBelow (a := ⟨w.heap.size, 2, none⟩) (by simp <;> omega) _).setBelow (a := ⟨w.heap.size + 1, 0, none⟩) (by simp <;> omega) _).setBelow (a := ⟨w.heap.size + 1, 1, none⟩) (by simp <;> omega) _).setBelow (a := ⟨w.heap.size + 1, 2, none⟩) (by simp <;> omega) _).wide (by omega) (by simp)
        · exact (((hBe.setCell (p := ⟨w.heap.size, 2, none⟩) (by simp) _).setCell (p := ⟨w.heap.size + 1, 0, none⟩) (by simp) _).setCell (p := ⟨w.heap.size + 1, 1, none⟩) (by simp) _).setCell (p := ⟨w.heap.size + 1, 2, none⟩) (by simp) _
theorem l2Arm_wf (now sq : Int) (to : Option Addr) (cap : Nat) (ts : List T3) (id d : Int) (w : World) (T : List T3) (hT : T = insT ts (id, laterI now d, sq + 1)) (hwf : Wf to cap) (hl : ts.length ≤ 1048576) (hcap : ts.length ≤ cap) (hn : I64 now) (hd : I64 d) (hsq : sq ≤ 1000000) (hsq0 : 0 ≤ sq) (hz : TimersIn w.heap.size w to ts) :
    Calls Try.prog 32 #[.agg #[.int .i64 now, .int .i64 sq, .slice to ts.length cap], .int .i64 id, .int .i64 d] w fun e w' => AnsC w.heap.size now (sq + 1) T e w' ∧ Below w.heap.size w w' := by
  rcases hwf with ⟨rfl, rfl⟩ | ⟨g, rfl⟩
  · have e : ts = [] := List.length_eq_zero_iff.1 (by omega)
    subst e
    exact l2Arm_nil now sq id d w T (by rw [hT]; rfl) hn hd hsq hsq0
  · exact l2Arm_some now sq g 0 cap ts id d w T hT hl hcap hn hd hsq hsq0 hz
end Go.Proofs.Ytpbgkkemaioidaa.Old
