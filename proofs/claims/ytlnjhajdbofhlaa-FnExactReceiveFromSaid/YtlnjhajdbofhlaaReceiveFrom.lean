/- ReceiveFrom answers at every channel and waiter as the specification does, writes into no argument, and its answer owns its memory. No conditions. -/
import Derived.Test.YtlnjhajdbofhlaaLr
import Derived.Test.YtlnjhajdbofhlaaRa
namespace Go.Proofs.Ytlnjhajdbofhlaa
open Go.ChangeShapes Go.WideShapes Go.ChangeAt Go.RowKit Go.Joins Go.Deep

set_option maxRecDepth 100000 in
theorem receiveFrom_lifted (os : Os) (started : os.Started) (H : Type) (enc : TypeId × Value → H) :
    ReturnsInHanded {} Try.checked os 5 .any (Rows.fnExactReceiveFromSpec.pre6 enc Try.prog Try.f5 Rows.fnExactReceiveFromRow.domain false) (Rows.fnExactReceiveFromSpec.post enc Try.prog Try.f5 false true false false) := by
  refine returnsInHanded_of_change (C := Try.checked) Try.own started (by kernel_rfl) Try.func5
    (ChangeSpec.witness6 (enc := enc) (C := Try.checked) false ⟨#[], #[.agg #[.int .i64 0, .bool false, .slice none 0 0, .slice none 0 0, .slice none 0 0], .agg #[.int .i64 0, .int .i64 0, .int .i64 0]], []⟩ 8 (by kernel_rfl) (by kernel_rfl) (by kernel_rfl) (by kernel_rfl)) ?_
  intro W base args ds gs before hval0 hW hcnd _
  have hval : ∀ (j : Nat) t v, Try.f5.params[j]? = some t → args[j]? = some v → Value.okWide Try.prog W .any base t v := hval0
  have hW' := hW
  obtain ⟨p, q, hA0, hV, rfl, hfz, hnd⟩ := hW
  have hA : DataW.TrodAll enc Try.prog W 0 (fun _ => true) true Try.f5.params.toList args.toList ds p := hA0
  rw [Try.params5] at hA hval
  obtain ⟨v0, v1, d0, d1, p0, p1, rfl, rfl, rfl, h0, h1⟩ := trodAll_two hA
  have k1 := h1
  have lt1 : ∀ x ∈ p1, x.block < W.heap.size := by obtain ⟨m, hm⟩ := k1; exact DataW.trod_lt m _ _ _ hm
  obtain ⟨rfl, rfl⟩ := trodVars_none hV
  have k0 := h0
  have lt0 : ∀ x ∈ p0, x.block < W.heap.size := by obtain ⟨m, hm⟩ := k0; exact DataW.trod_lt m _ _ _ hm
  obtain ⟨kap, cl, bo, bc, b, so, sc, s, ro, rc, r, rfl, hkap, hlb, hls, hlr, hZ⟩ := read_chan (hval 0 39 v0 rfl rfl) h0
  obtain ⟨q0, q1, q2, z0, z1, z2, m, rfl, _, _, hy0, hy1, hy2⟩ := open_agg3 Try.underlying40 (by kernel_rfl) Try.cells40 (hval 1 40 v1 rfl rfl) h1
  obtain ⟨tk, e0, _, wtk⟩ := DataW.trod_int Try.underlying3 hy0
  obtain ⟨cs, e1, _, wcs⟩ := DataW.trod_int Try.underlying3 hy1
  obtain ⟨vl, e2, _, wvl⟩ := DataW.trod_int Try.underlying3 hy2
  simp at e0 e1 e2
  subst e0 e1 e2
  clear hA0 hval0
  refine (recv_law kap cl bo bc b so sc s ro rc r tk cs vl W hlb hls hlr hZ).mono fun e W' ⟨he, bel⟩ => ?_
  subst he
  exact ⟨_, rfl, _, _, _, [], _, [], hW', trodAll_mk1 (shut_bool Try.underlying4 _), trodAll_mk2 (Below.trod Try.laidOut (by kernel_rfl) (of_decide_eq_true (by kernel_rfl)) k0 bel lt0) (Below.trod Try.laidOut (by kernel_rfl) (of_decide_eq_true (by kernel_rfl)) k1 bel lt1), rfl, bel.frame _, fun h => by cases h⟩

theorem receiveFrom_holds : Rows.FnExactReceiveFromSaid :=
  OpenClaim.holds_of_wide 5 Try.f5 rfl rfl rfl rfl rfl rfl rfl ⟨rfl, rfl, rfl, rfl, rfl⟩ rfl rfl rfl rfl rfl (by kernel_rfl) Try.func5 (by kernel_rfl)
    (of_decide_eq_true (by kernel_rfl)) (by unfold Func.isWrapper; first | (rw [if_pos (by decide +kernel)]; kernel_rfl) | (rw [if_neg (by decide +kernel)]; exact ⟨rfl, rfl⟩))
    (fun os started H enc _ => receiveFrom_lifted os started H enc)
#print axioms receiveFrom_holds
end Go.Proofs.Ytlnjhajdbofhlaa
