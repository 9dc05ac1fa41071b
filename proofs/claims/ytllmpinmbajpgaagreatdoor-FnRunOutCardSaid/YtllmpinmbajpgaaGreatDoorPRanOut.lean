
/- The law of running out holds at every text of bytes, and writes into no argument. No conditions. -/
import Derived.Test.YtllmpinmbajpgaaGreatDoorPRoaLfr
import Derived.Test.YtllmpinmbajpgaaGreatDoorPMnHs
import Derived.ProofKit
import Derived.Deep.SlicePairs
import Derived.Lib.SmallJoins
import Derived.Test.YtllmpinmbajpgaaGreatDoorTie
import Derived.Test.YtllmpinmbajpgaaGreatDoorCards
import Derived.SevenTiedAt
import Derived.OpenVars
namespace Go.Proofs.YtllmpinmbajpgaaGreatDoor
open Go.ChangeShapes Go.WideShapes Go.ChangeAt Go.RowKit Go.Joins Go.Deep

theorem Tryz.cells5 : Tryz.prog.cellsOf 5 = 1 := by kernel_rfl


theorem read_bytes {H : Type} {enc : TypeId × Value → H} {W : World} {spare : Nat → Bool} {held : Bool} {fuel : Nat} {c : Value} {x : DataW H × List MemPlace}
  (h : DataW.trod enc Tryz.prog W 0 spare held fuel 22 [c] = some x) : ∃ ao cap zs, c = .slice ao (zs : List Int).length cap ∧ zs.length ≤ 9223372036854775807 ∧ BytesIn W.heap.size W ao zs := by
 rcases open_slice1 Tryz.underlying22 Tryz.cells5 h with ⟨hcs, _⟩ | ⟨a, len, cap, m, n, V, D, Pl, hcs, hb, hl, hm, hmm, hx, hel⟩
 ·simp at hcs; subst hcs; exact ⟨none, 0, [], rfl, by simp, .inl rfl⟩
 ·simp at hcs; subst hcs
  have hlm : len ≤ m := by rw [hmm]; split <;> omega
  refine ⟨some a, cap, (List.range len).map (fun i => intOf (V i)), by simp, by simp; unfold maxLen at hm; omega, ?_⟩
  by_cases h0 : len = 0
  ·subst h0; exact .inl (by simp)
  ·obtain ⟨b, off, spot⟩ := a;have hs : spot = none := addr_none (hel 0 (by omega)).1;subst hs;refine .inr ⟨b, off, rfl, ?_, fun j hj => ?_⟩
   ·have := World.block_lt_of_cell? _ _ (hel 0 (by omega)).1
    simpa [Addr.add] using this
   ·simp at hj
    obtain ⟨h1, h2⟩ := hel j (by omega);obtain ⟨z, e, e2, e3⟩ := DataW.trod_int Tryz.underlying5 h2
    simp at e
    rw [e, add_none] at h1;have ez : ((List.range len).map (fun i => intOf (V i)))[j]?.getD 0 = z := by simp [hj, e, intOf]
    rw [ez]
    simp [Lit.wf, IntKind.min, IntKind.max, IntKind.bits, IntKind.signed] at e3
    exact ⟨h1, by omega⟩
theorem ranOut_seven {H : Type} {enc : TypeId × Value → H} {P : Program} {W : World} {sp : Nat → Bool} : ∀ {ns : List String} {gs : List (DataW H)} {q : List MemPlace}, DataW.TrodVars enc P W sp ns gs q → gs.length = ns.length
 | [], [], _, _ => rfl
 | [], _ :: _, _, h => h.elim
 | _ :: _, [], _, h => h.elim
 | _ :: ns, _ :: gs, _, h => by
  obtain ⟨_, _, _, _, _, _, _, _, _, _, h', _⟩ := h;have := ranOut_seven h'
  simp [this]
set_option maxRecDepth 100000 in
theorem ranOut_lifted (os : Os) (started : os.Started) (H : Type) (enc : TypeId × Value → H) :
  ReturnsInHanded {} Tryz.checked os 4 .any (fun w args => (Rows.fnRunOutSpec.pre enc Tryz.prog Tryz.f4 [] false w args ∧ laidMetH Tryz.prog laidL w) ∧ sizedMet enc Tryz.prog Tryz.f4 (OpenSpec.ofChange Rows.fnRunOutSpec) false w args)
   (Rows.fnRunOutSpec.post enc Tryz.prog Tryz.f4 false true false false) := by
 refine returnsInHanded_of_change_and (C := Tryz.checked) (X := fun w _ => laidMetH Tryz.prog laidL w) (fun _ _ _ hh h => h.of_heap hh) Tryz.own started (by kernel_rfl) Tryz.func4
  (ChangeSpec.witness_at (enc := enc) (C := Tryz.checked) (os := os) (X := fun w _ => laidMetH Tryz.prog laidL w) false (laidWorld os) #[.slice none 0 0] 8 rfl (by kernel_rfl) (by kernel_rfl) (by kernel_rfl) (by kernel_rfl) (by kernel_rfl) (laidWorld_met os _)) ?_
 intro W base args ds gs before hval0 hW _ _ hL _;have hval : ∀ (j : Nat) t v, Tryz.f4.params[j]? = some t → args[j]? = some v → Value.okWide Tryz.prog W .any base t v := hval0;have hW' := hW;obtain ⟨p, q, hA0, hV0, rfl, hfz, hnd⟩ := hW;have hA : DataW.TrodAll enc Tryz.prog W 0 (fun _ => true) true Tryz.f4.params.toList args.toList ds p := hA0;have hV : DataW.TrodVars enc Tryz.prog W (fun _ => true) ["loop.example/g00145/impl.errMany", "loop.example/g00145/impl.errCycle", "loop.example/g00145/impl.errName", "loop.example/g00145/impl.errTwice", "loop.example/g00145/impl.errStage", "loop.example/g00145/impl.errCap", "loop.example/g00145/impl.errEdge"] gs q := hV0;rw [Tryz.params4] at hA hval;obtain ⟨v0, d0, rfl, rfl, h0⟩ := trodAll_one hA;obtain ⟨ea, hE, hne⟩ := errs_of_laid hL;have hg7 : gs.length = 7 := ranOut_seven hV;obtain ⟨g1, g2, g3, g4, g5, g6, g7, rfl⟩ : ∃ g1 g2 g3 g4 g5 g6 g7, gs = [g1, g2, g3, g4, g5, g6, g7] := by
  match gs, hg7 with
  | [g1, g2, g3, g4, g5, g6, g7], _ => exact ⟨g1, g2, g3, g4, g5, g6, g7, rfl⟩
 have k0 := h0;have lt0 : ∀ x ∈ p, x.block < W.heap.size := by obtain ⟨m, hm⟩ := k0; exact DataW.trod_lt m _ _ _ hm
 obtain ⟨a0, n0, c0, rfl⟩ := okWide_slice Tryz.underlying22 (hval 0 22 v0 rfl rfl);obtain ⟨m0, hm0⟩ := h0;obtain ⟨co, cap, bs, e0, hl, hb⟩ := read_bytes (c := .slice a0 n0 c0) hm0
 simp at e0
 obtain ⟨rfl, rfl, rfl⟩ := e0;clear hA0 hval0;refine (lawRunOut_any a0 c0 bs ea W hl hb hE).mono fun e W' ⟨he, bel⟩ => ?_
 subst he;exact ⟨_, rfl, _, _, _, [], _, _, hW', trodAll_mk1 (shut_bool Tryz.underlying4 _), trodAll_mk1 (Below.trod Tryz.laidOut (by kernel_rfl) (of_decide_eq_true (by kernel_rfl)) k0 bel lt0), Below.trodVars Tryz.laidOut bel (by kernel_rfl) hV, bel.frame _, fun h => by cases h⟩

theorem ranOut_row : Rows.FnRunOutSaid :=
 OpenClaim.holds_of_wide 4 Tryz.f4 rfl rfl rfl rfl rfl rfl rfl ⟨rfl, rfl, rfl, rfl, rfl⟩ rfl rfl rfl rfl rfl (by kernel_rfl) Tryz.func4 (by kernel_rfl)
  (of_decide_eq_true (by kernel_rfl)) (by unfold Func.isWrapper; first | (rw [if_pos (by decide +kernel)]; kernel_rfl) | (rw [if_neg (by decide +kernel)]; exact ⟨rfl, rfl⟩))
  (fun os started H enc _ => ranOut_lifted os started H enc)

theorem ranOut_holds : Rows.FnRunOutCardSaid :=
 Claim7.holds_tied_plain_at .later [] [.sentinel, .sentinel, .sentinel, .sentinel, .sentinel, .sentinel, .sentinel] true (true, "d3d255f7b6a3c72addde4a598733f26e7be5905368e397b23c44ef0f66b4e6c1") false
  ranOut_row (fun _ h => by cases h) (by kernel_rfl) (fun _ h => by cases h) fnRunOut_row_tie rfl ⟨rfl, rfl⟩ (by kernel_rfl) rfl
  (fun f fn hf hfn => by
   obtain rfl : f = 4 := Option.some.inj ((show Tryz.prog.funcNamed "loop.example/g00145/laws.FnRunOut" = some 4 by kernel_rfl).symm.trans hf) |>.symm
   obtain rfl : fn = Tryz.f4 := (Option.some.inj (Tryz.func4.symm.trans hfn)).symm;exact ⟨by kernel_rfl, fun j t ht => by
    rw [Tryz.params4] at ht
    rcases j with _ | j
    ·obtain rfl : t = 22 := by simpa using ht.symm
     exact (show Tryz.prog.wantsStandIn 22 = false by kernel_rfl)
    ·simp at ht⟩)
  (by kernel_rfl)
#print axioms ranOut_holds
end Go.Proofs.YtllmpinmbajpgaaGreatDoor
