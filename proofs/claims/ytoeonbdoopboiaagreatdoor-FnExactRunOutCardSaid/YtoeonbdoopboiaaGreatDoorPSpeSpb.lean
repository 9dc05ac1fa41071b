/- The specification's fault of the first token. No conditions but those written. What holds of a pipe that plays on a good graph, plainly. No conditions but those written. -/
import Derived.Test.YtoeonbdoopboiaaGreatDoorPSpaSpd
import Derived.Test.YtoeonbdoopboiaaGreatDoorPYtYj
namespace Go.Proofs.YtoeonbdoopboiaaGreatDoor
section
open Go.RowKit

set_option maxRecDepth 100000 in
set_option maxHeartbeats 8000000 in
theorem faultS_any (lo : Nat) (W : World) (p bb : Nat) (gv : Value) (xs : List Value) (ev fv uv : Value) (s : PP) (k : Nat) (t1 t2 t3 : Int) (r : List (Int × Int × Int)) (h : FlowS lo W p bb gv xs ev fv uv s) (hk : k < s.bx.length) (hr : el s.bx k = (t1, t2, t3) :: r) (hn : s.bx.length ≤ 10) (ht : totT s.bx + s.fa.length ≤ 100000) (hfu : s.fu.length ≤ 100) (h0 : 0 ≤ s.ti) (h1 : s.ti ≤ 1000000) (h3 : 0 ≤ t3) (h4 : t3 ≤ 1000) :
    Calls Tryz.prog 91 #[.pointer (some ⟨p, 0, none⟩), .int .i64 (k : Int)] W fun e W' => e = .returned (.int .i64 0) ∧ FStepS lo p gv (FO p bb xs ev fv uv) W W' (failP s k t1 t2 t3 r) := by
  have hxk : k < xs.length := by rw [h.hnd.len]; exact hk
  obtain ⟨ho, hc, hsl, hcn, hFr⟩ := h.hnd.slice hk
  rw [hr] at hsl hFr
  obtain ⟨g, rfl, hg1, hg2, hg3, hgo⟩ := hFr.at (by simp)
  simp only [List.length_cons] at hsl
  have c4 := h.box.c 4 rfl
  have ck := (h.head hk).1
  rw [hsl] at ck
  have hki : (k : Int) < (s.bx.length : Int) := by omega
  have hr1 : (0 : Int) < ((r.length + 1 : Nat) : Int) := by omega
  obtain ⟨b0, off0, e0, hbl, hcs⟩ := kTk_at hFr.in (k := 0) (by simp)
  simp at e0
  obtain ⟨rfl, rfl⟩ := e0
  have d2 : W.cell? ⟨g, 2, none⟩ = some (.int .i64 t3) := (hcs 0 (by simp)).2.2
  have e2 : W.frozen? ⟨g, 2, none⟩ = false := hgo.frozenAt 2
  have F1 := h.putTry hk hr hsl (t3 + 1)
  have hlow : lo ≤ g := Nat.le_trans h.lob (by omega)
  have hin1 : FO p bb xs ev fv uv g := .inr (.inr (.inl ⟨k, hxk, by rw [hsl]; rfl⟩))
  have X1 : FX lo p gv (FO p bb xs ev fv uv) W (W.setCell ⟨g, 2, none⟩ (.int .i64 (t3 + 1))) bb xs ev fv uv { s with bx := s.bx.set k ((t1, t2, t3 + 1) :: r) } := ⟨F1, fun b hb => .inl hb, (Below.refl _ _).setCell (p := ⟨g, 2, none⟩) hlow _, fun b hb hO => Below.heap_setCell _ _ _ _ (fun e => hO (by rw [show b = g from e]; exact hin1))⟩
  obtain ⟨W1, hW1⟩ : ∃ W1, W1 = W.setCell ⟨g, 2, none⟩ (.int .i64 (t3 + 1)) := ⟨_, rfl⟩
  rw [← hW1] at X1
  have HW1 := hid hW1
  have HX1 := hid X1
  have hTS := totT_set (ls := s.bx) (k := k) ((t1, t2, t3 + 1) :: r) hk
  rw [hr] at hTS
  simp only [List.length_cons] at hTS
  have hTS2 := totT_set (ls := s.bx) (k := k) r hk
  rw [hr] at hTS2
  simp only [List.length_cons] at hTS2
  have HTS := hid hTS
  have HTS2 := hid hTS2
  clear hW1 X1 F1 hcs hFr hgo hbl hTS hTS2
  go_enter Tryz.func91, Tryz.ntmps91
  by_cases hp3 : 3 < t3 + 1
  · have hd3 : decide (3 < t3 + 1) = true := by simpa using hp3
    have HFI := hid (firstS_any lo W1 p bb gv xs ev fv uv _ k t1 t2 (t3 + 1) r HX1.out.flow (by simp only [List.length_set]; exact hk) (el_set_same hk) (by have := HTS.out; dsimp only; omega))
    go_wp2_with fail
    rw [← HW1.out]
    refine HFI.out.mono ?_
    rintro e w2 ⟨rfl, hs0⟩
    rw [List.set_set] at hs0
    obtain ⟨bb2, xs2, ev2, fv2, uv2, X2⟩ := hs0.fx
    have X3 := HX1.out.trans X2
    have hb0 := below1 w2 (.cells #[.int .i64 t1, .int .i64 t2, .int .i64 (t3 + 1)] 104)
    have T0 := Bx.new (w := w2) [.int .i64 t1, .int .i64 t2, .int .i64 (t3 + 1)] 104 rfl
    have X0 := hid (X3.later hb0)
    obtain ⟨V, hV⟩ : ∃ V, V = w2.alloc (.cells #[.int .i64 t1, .int .i64 t2, .int .i64 (t3 + 1)] 104) := ⟨_, rfl⟩
    rw [← hV] at hb0 T0 X0
    have HV := hid hV
    have hVs : w2.heap.size < V.heap.size := by rw [hV]; simp
    have hfl : s.fa.length ≤ 100000 := by omega
    obtain ⟨fo, fc, hfv, hfn, _⟩ := X0.out.flow.fao.fresh
    have c6 := X0.out.flow.box.c 6 rfl
    rw [hfv] at c6
    dsimp only at c6
    have hp := X0.out.flow.box.size
    have hlo := X0.out.flow.lo_le
    have t0 := T0.c 0 rfl
    have t1' := T0.c 1 rfl
    have hnw : fv2.ownBlock ≠ some w2.heap.size := fun e => by
      have := (own_block_lt X3.flow.fao e).2; omega
    have hnp : fv2.ownBlock ≠ some p := X3.flow.pf
    have HFV := hid hfv
    rw [hfv] at hnw hnp
    dsimp only at hnw hnp
    clear hV hb0 T0 hfv X3 X2 hs0 HFI HX1 c4 ck d2 e2
    go_wp2_with fail
    rw [← HV.out]
    refine wp_walks (zl := [17]) (S := fun Y => Y.cell? ⟨p, 6, none⟩ = some (.slice fo s.fa.length fc) ∧ Y.cell? ⟨w2.heap.size, 0, none⟩ = some (.int .i64 t1) ∧ Y.cell? ⟨w2.heap.size, 1, none⟩ = some (.int .i64 t2)) (by kernel_rfl) ⟨c6, t0, t1'⟩ (fun hH => ?_)
    refine Walks.take (i := 0) (v := ?va0) rfl (by kernel_rfl) (by kernel_rfl) (fun _ _ _ h => h) _ _ _ _ (by kernel_rfl) (by kernel_rfl) (Or.inl ⟨by rfl, ?hya0⟩) hH ?resta0
    case hya0 => (intro w' hSw; (try dsimp only at hSw); go_simp <;> with_reducible rfl)
    refine Walks.take (i := 1) (v := ?va1) rfl (by kernel_rfl) (by kernel_rfl) (fun _ _ _ h => h) _ _ _ _ (by kernel_rfl) (by kernel_rfl) (Or.inl ⟨by rfl, ?hya1⟩) hH ?resta1
    case hya1 => (intro w' hSw; (try dsimp only at hSw); go_simp <;> with_reducible rfl)
    refine Walks.take (i := 2) (v := ?va2) rfl (by kernel_rfl) (by kernel_rfl) (fun _ _ _ h => h) _ _ _ _ (by kernel_rfl) (by kernel_rfl) (Or.inl ⟨by rfl, ?hya2⟩) hH ?resta2
    case hya2 => (intro w' hSw; (try dsimp only at hSw); go_simp <;> with_reducible rfl)
    refine Walks.take (i := 3) (v := ?va3) rfl (by kernel_rfl) (by kernel_rfl) (fun _ _ _ h => h) _ _ _ _ (by kernel_rfl) (by kernel_rfl) (Or.inl ⟨by rfl, ?hya3⟩) hH ?resta3
    case hya3 => (intro w' hSw; (try dsimp only at hSw); go_simp <;> with_reducible rfl)
    refine Walks.take (i := 4) (v := ?va4) rfl (by kernel_rfl) (by kernel_rfl) (fun _ _ _ h => h) _ _ _ _ (by kernel_rfl) (by kernel_rfl) (Or.inl ⟨by rfl, ?hya4⟩) hH ?resta4
    case hya4 => (intro w' hSw; (try dsimp only at hSw); go_simp <;> with_reducible rfl)
    refine Walks.take (i := 5) (v := ?va5) rfl (by kernel_rfl) (by kernel_rfl) (fun _ _ _ h => h) _ _ _ _ (by kernel_rfl) (by kernel_rfl) (Or.inl ⟨by rfl, ?hya5⟩) hH ?resta5
    case hya5 => (intro w' hSw; (try dsimp only at hSw); go_simp <;> with_reducible rfl)
    refine Walks.take (i := 6) (v := ?va6) rfl (by kernel_rfl) (by kernel_rfl) (fun _ _ _ h => h) _ _ _ _ (by kernel_rfl) (by kernel_rfl) (Or.inl ⟨by rfl, ?hya6⟩) hH ?resta6
    case hya6 => (intro w' hSw; (try dsimp only at hSw); go_simp <;> with_reducible rfl)
    refine Walks.take (i := 7) (v := ?va7) rfl (by kernel_rfl) (by kernel_rfl) (fun _ _ _ h => h) _ _ _ _ (by kernel_rfl) (by kernel_rfl) (Or.inl ⟨by rfl, ?hya7⟩) hH ?resta7
    case hya7 => (intro w' hSw; (try dsimp only at hSw); go_simp <;> with_reducible rfl)
    refine Walks.take (i := 8) (v := ?va8) rfl (by kernel_rfl) (by kernel_rfl) (fun _ _ _ h => h) _ _ _ _ (by kernel_rfl) (by kernel_rfl) (Or.inl ⟨by rfl, ?hya8⟩) hH ?resta8
    case hya8 => (intro w' hSw; (try dsimp only at hSw); go_simp <;> with_reducible rfl)
    refine Walks.take (i := 9) (v := ?va9) rfl (by kernel_rfl) (by kernel_rfl) (fun _ _ _ h => h) _ _ _ _ (by kernel_rfl) (by kernel_rfl) (Or.inl ⟨by rfl, ?hya9⟩) hH ?resta9
    case hya9 => (intro w' hSw; (try dsimp only at hSw); go_simp <;> with_reducible rfl)
    refine Walks.take (i := 10) (v := ?va10) rfl (by kernel_rfl) (by kernel_rfl) (fun _ _ _ h => h) _ _ _ _ (by kernel_rfl) (by kernel_rfl) (Or.inl ⟨by rfl, ?hya10⟩) hH ?resta10
    case hya10 => (intro w' hSw; (try dsimp only at hSw); go_simp <;> with_reducible rfl)
    refine Walks.take (i := 11) (v := ?va11) rfl (by kernel_rfl) (by kernel_rfl) (fun _ _ _ h => h) _ _ _ _ (by kernel_rfl) (by kernel_rfl) (Or.inl ⟨by rfl, ?hya11⟩) hH ?resta11
    case hya11 => (intro w' hSw; (try dsimp only at hSw); go_simp <;> with_reducible rfl)
    refine Walks.one (i := 12) (o := _) (by kernel_rfl) rfl (fun K hK => ?_)
    go_simp
    obtain ⟨U, hU⟩ : ∃ U, U = (V.alloc (.cells #[.int .i64 t1, .int .i64 (k : Int), .int .i64 t2, .int .i64 1] 107)).drew := ⟨_, rfl⟩
    rw [← hU]
    have hbU : Below V.heap.size V U := by rw [hU]; exact (below1 V _).drew
    have hN : kLo.In U.heap.size U (some ⟨V.heap.size, 0, none⟩) [(t1, (k : Int), t2, 1)] := by
      have hx : Bx U V.heap.size [.int .i64 t1, .int .i64 (k : Int), .int .i64 t2, .int .i64 1] := by rw [hU]; exact (Bx.new (w := V) [.int .i64 t1, .int .i64 (k : Int), .int .i64 t2, .int .i64 1] 107 rfl).drew
      exact kLo_one hx.size (hx.c 0 rfl) (hx.c 1 rfl) (hx.c 2 rfl) (hx.c 3 rfl)
    have hUs := hbU.size
    have SU : U.cell? ⟨p, 6, none⟩ = some (.slice fo s.fa.length fc) ∧ U.cell? ⟨w2.heap.size, 0, none⟩ = some (.int .i64 t1) ∧ U.cell? ⟨w2.heap.size, 1, none⟩ = some (.int .i64 t2) := ⟨(hbU.cell (p := ⟨p, 6, none⟩) hp).trans c6, (hbU.cell (p := ⟨w2.heap.size, 0, none⟩) hVs).trans t0, (hbU.cell (p := ⟨w2.heap.size, 1, none⟩) hVs).trans t1'⟩
    refine hK.out _ _ (fun _ => SU) (fun _ => ?_)
    clear hK K hU
    have hOU : kLo.Own lo U (.slice fo s.fa.length fc) s.fa := by rw [← HFV.out]; exact (X0.out.later hbU).flow.fao
    refine Walks.one (i := 13) (o := _) (by kernel_rfl) rfl (fun K hK => ?_)
    refine Kind.appZ kLo_ok U (by rfl) (.tmp 36) (.tmp 43) (by rfl) lo (.slice fo s.fa.length fc) s.fa (by rfl) hOU (by omega) (some ⟨V.heap.size, 0, none⟩) [(t1, (k : Int), t2, 1)] 1 1 (by rfl) rfl (by simp) _ hN (by rw [List.length_singleton]; omega) ?_
    intro v' w3 hO2 hB2 hG2 hw2
    obtain ⟨L2, hL2⟩ : ∃ L2, L2 = s.fa ++ [(t1, (k : Int), t2, 1)] := ⟨_, rfl⟩
    rw [← hL2] at hO2
    have HL2 := hid hL2
    clear hL2
    obtain ⟨vo, vc, hv', _, _⟩ := hO2.fresh
    have S2 : w3.cell? ⟨p, 6, none⟩ = some (.slice fo s.fa.length fc) ∧ w3.cell? ⟨w2.heap.size, 0, none⟩ = some (.int .i64 t1) ∧ w3.cell? ⟨w2.heap.size, 1, none⟩ = some (.int .i64 t2) := ⟨(World.cell?_of_block (a := ⟨p, 6, none⟩) (hG2.block p (Nat.lt_of_lt_of_le hp hUs) (fun e => hnp e.symm))).trans SU.1, (World.cell?_of_block (a := ⟨w2.heap.size, 0, none⟩) (hG2.block w2.heap.size (Nat.lt_of_lt_of_le hVs hUs) (fun e => hnw e.symm))).trans SU.2.1, (World.cell?_of_block (a := ⟨w2.heap.size, 1, none⟩) (hG2.block w2.heap.size (Nat.lt_of_lt_of_le hVs hUs) (fun e => hnw e.symm))).trans SU.2.2⟩
    refine hK.out _ _ (fun _ => S2) (fun _ => ?_)
    clear hK K
    refine Walks.one (i := 14) (o := _) (by kernel_rfl) rfl (fun K hK => ?_)
    go_simp
    refine hK.out _ _ (fun _ => S2) (fun _ => ?_)
    clear hK K
    refine Walks.one (i := 15) (o := _) (by kernel_rfl) rfl (fun K hK => ?_)
    go_simp
    refine hK.out _ _ (fun _ => S2) (fun _ => ?_)
    clear hK K
    refine Walks.take (i := 16) (v := ?vaz16) rfl (by kernel_rfl) (by kernel_rfl) (fun _ _ _ h => h) _ _ _ _ (by kernel_rfl) (by kernel_rfl) (Or.inl ⟨by rfl, ?hyaz16⟩) S2 ?restaz16
    case hyaz16 => (intro w' hSw; (try dsimp only at hSw); go_simp <;> with_reducible rfl)
    refine Walks.one (i := 17) (o := _) (by kernel_rfl) rfl (fun K hK => ?_)
    have FU := (X0.out.later hbU).flow
    have f6 : w3.frozen? ⟨p, 6, none⟩ = false := (World.frozen?_of_block (a := ⟨p, 6, none⟩) (hG2.block p (Nat.lt_of_lt_of_le hp hUs) (fun e => hnp e.symm))).trans (FU.box.f 6 rfl)
    have HX2 := hid ((X0.out.later hbU).trans (FU.putFa hO2 hB2 (by rw [HFV.out]; exact hG2) (by rw [HFV.out]; exact hw2)))
    have c62 := S2.1
    rw [hv'] at HX2
    (try rw [hv'])
    go_simp
    refine hK.out _ _ (fun h => absurd h (by decide)) (fun _ => ?_)
    refine Walks.done (by kernel_rfl) ?_ _
    clear hK K
    obtain ⟨Vn, hVn⟩ : ∃ Vn, Vn = w3.setCell ⟨p, 6, none⟩ (.slice vo L2.length vc) := ⟨_, rfl⟩
    rw [← hVn] at HX2 ⊢
    rw [HL2.out] at HX2
    obtain ⟨s2, hs2⟩ : ∃ s2 : PP, s2 = { s with bx := s.bx.set k r, fa := s.fa ++ [(t1, (k : Int), t2, 1)] } := ⟨_, rfl⟩
    have HFT : Hid (failP s k t1 t2 t3 r = failT s2) := by rw [Hid, failP, if_pos hp3, hs2]
    have HQ : Hid (s2.ti = s.ti ∧ s2.fu = s.fu ∧ s2.bx.length = s.bx.length ∧ totT s2.bx + s2.fa.length ≤ 100000) := by
      have hq := HTS2.out
      rw [Hid, hs2]
      exact ⟨rfl, rfl, List.length_set, by show totT (s.bx.set k r) + (s.fa ++ [_]).length ≤ 100000; rw [List.length_append, List.length_singleton]; omega⟩
    rw [← hs2] at HX2
    clear hVn hs2 FU X0 S2 SU hOU hN hbU hO2 hB2 hG2 hw2 f6 c62 c6 t0 t1' HL2 HFV hH HV
    have hti0 : 0 ≤ s2.ti := by rw [HQ.out.1]; exact h0
    have hti1 : s2.ti ≤ 1000000 := by rw [HQ.out.1]; exact h1
    have hfu2 : s2.fu.length ≤ 100 := by rw [HQ.out.2.1]; exact hfu
    have hn2 : s2.bx.length ≤ 10 := by rw [HQ.out.2.2.1]; exact hn
    have ht2 : totT s2.bx + s2.fa.length ≤ 100000 := HQ.out.2.2.2
    have F2 := HX2.out.flow
    obtain ⟨uo, uc, huv, _, _⟩ := F2.fuo.fresh
    obtain ⟨uo2, uc2, huv2, _, hIU⟩ := F2.fuo.in
    have hIU2 : kI.In Vn.heap.size Vn uo s2.fu := by rw [huv] at huv2; simp at huv2; rw [huv2.1]; exact hIU
    have HIU := hid hIU2
    have SU := And.intro (F2.box.c 7 rfl) (F2.box.c 1 rfl)
    rw [huv] at SU
    have hpw := F2.box.size
    have hlo := F2.lo_le
    have HF2 := hid F2
    clear hIU hIU2 huv2 huv F2
    go_wp2_with fail
    refine wp_walks (zl := [15]) (S := fun Y => Y.cell? ⟨p, 7, none⟩ = some (.slice uo s2.fu.length uc) ∧ Y.cell? ⟨p, 1, none⟩ = some (.int .i64 s2.ti)) (by kernel_rfl) SU (fun hH => ?_)
    refine Walks.take (i := 0) (v := ?vl0) rfl (by kernel_rfl) (by kernel_rfl) (fun _ _ _ h => h) _ _ _ _ (by kernel_rfl) (by kernel_rfl) (Or.inl ⟨by rfl, ?hyl0⟩) hH ?restl0
    case hyl0 => (intro w' hSw; (try dsimp only at hSw); go_simp <;> with_reducible rfl)
    refine Walks.take (i := 1) (v := ?vl1) rfl (by kernel_rfl) (by kernel_rfl) (fun _ _ _ h => h) _ _ _ _ (by kernel_rfl) (by kernel_rfl) (Or.inl ⟨by rfl, ?hyl1⟩) hH ?restl1
    case hyl1 => (intro w' hSw; (try dsimp only at hSw); go_simp <;> with_reducible rfl)
    refine Walks.take (i := 2) (v := ?vl2) rfl (by kernel_rfl) (by kernel_rfl) (fun _ _ _ h => h) _ _ _ _ (by kernel_rfl) (by kernel_rfl) (Or.inl ⟨by rfl, ?hyl2⟩) hH ?restl2
    case hyl2 => (intro w' hSw; (try dsimp only at hSw); go_simp <;> with_reducible rfl)
    refine Walks.take (i := 3) (v := ?vl3) rfl (by kernel_rfl) (by kernel_rfl) (fun _ _ _ h => h) _ _ _ _ (by kernel_rfl) (by kernel_rfl) (Or.inl ⟨by rfl, ?hyl3⟩) hH ?restl3
    case hyl3 => (intro w' hSw; (try dsimp only at hSw); go_simp <;> with_reducible rfl)
    refine Walks.take (i := 4) (v := ?vl4) rfl (by kernel_rfl) (by kernel_rfl) (fun _ _ _ h => h) _ _ _ _ (by kernel_rfl) (by kernel_rfl) (Or.inl ⟨by rfl, ?hyl4⟩) hH ?restl4
    case hyl4 => (intro w' hSw; (try dsimp only at hSw); go_simp <;> with_reducible rfl)
    refine Walks.take (i := 5) (v := ?vl5) rfl (by kernel_rfl) (by kernel_rfl) (fun _ _ _ h => h) _ _ _ _ (by kernel_rfl) (by kernel_rfl) (Or.inl ⟨by rfl, ?hyl5⟩) hH ?restl5
    case hyl5 => (intro w' hSw; (try dsimp only at hSw); go_simp <;> with_reducible rfl)
    refine Walks.take (i := 6) (v := ?vl6) rfl (by kernel_rfl) (by kernel_rfl) (fun _ _ _ h => h) _ _ _ _ (by kernel_rfl) (by kernel_rfl) (Or.inl ⟨by rfl, ?hyl6⟩) hH ?restl6
    case hyl6 => (intro w' hSw; (try dsimp only at hSw); go_simp <;> with_reducible rfl)
    refine Walks.take (i := 7) (v := ?vl7) rfl (by kernel_rfl) (by kernel_rfl) (fun _ _ _ h => h) _ _ _ _ (by kernel_rfl) (by kernel_rfl) (Or.inl ⟨by rfl, ?hyl7⟩) hH ?restl7
    case hyl7 => (intro w' hSw; (try dsimp only at hSw); go_simp <;> with_reducible rfl)
    refine Walks.take (i := 8) (v := ?vl8) rfl (by kernel_rfl) (by kernel_rfl) (fun _ _ _ h => h) _ _ _ _ (by kernel_rfl) (by kernel_rfl) (Or.inl ⟨by rfl, ?hyl8⟩) hH ?restl8
    case hyl8 => (intro w' hSw; (try dsimp only at hSw); go_simp <;> with_reducible rfl)
    refine Walks.take (i := 9) (v := ?vl9) rfl (by kernel_rfl) (by kernel_rfl) (fun _ _ _ h => h) _ _ _ _ (by kernel_rfl) (by kernel_rfl) (Or.inl ⟨by rfl, ?hyl9⟩) hH ?restl9
    case hyl9 => (intro w' hSw; (try dsimp only at hSw); go_simp <;> with_reducible rfl)
    refine Walks.take (i := 10) (v := ?vl10) rfl (by kernel_rfl) (by kernel_rfl) (fun _ _ _ h => h) _ _ _ _ (by kernel_rfl) (by kernel_rfl) (Or.inl ⟨by rfl, ?hyl10⟩) hH ?restl10
    case hyl10 => (intro w' hSw; (try dsimp only at hSw); go_simp <;> with_reducible rfl)
    refine Walks.one (i := 11) (o := _) (by kernel_rfl) rfl (fun K hK => ?_)
    go_simp
    refine (l10Recent_any uo uc s2.fu s2.ti 10 Vn.drew (by omega) hti0 hti1 (by omega) (by omega) (by exact HIU.out)).mono ?_
    rintro e w1 ⟨⟨v1, rfl, hO1⟩, hb10⟩
    have hb1 : Below Vn.heap.size Vn w1 := (Below.refl Vn.heap.size Vn).drew.trans hb10
    clear hb10
    have S1 := And.intro ((hb1.cell (p := ⟨p, 7, none⟩) hpw).trans SU.1) ((hb1.cell (p := ⟨p, 1, none⟩) hpw).trans SU.2)
    refine hK.out _ _ (fun _ => S1) (fun _ => ?_)
    clear hK K
    refine Walks.one (i := 12) (o := _) (by kernel_rfl) rfl (fun K hK => ?_)
    go_simp
    refine hK.out _ _ (fun _ => S1) (fun _ => ?_)
    clear hK K
    refine Walks.one (i := 13) (o := _) (by kernel_rfl) rfl (fun K hK => ?_)
    go_simp
    refine hK.out _ _ (fun _ => S1) (fun _ => ?_)
    clear hK K
    refine Walks.take (i := 14) (v := ?vlz14) rfl (by kernel_rfl) (by kernel_rfl) (fun _ _ _ h => h) _ _ _ _ (by kernel_rfl) (by kernel_rfl) (Or.inl ⟨by rfl, ?hylz14⟩) S1 ?restlz14
    case hylz14 => (intro w' hSw; (try dsimp only at hSw); go_simp <;> with_reducible rfl)
    obtain ⟨L, hL⟩ : ∃ L, L = above s2.fu (s2.ti - 10) ++ [s2.ti] := ⟨_, rfl⟩
    rw [← hL] at hO1
    have HL := hid hL
    clear hL
    obtain ⟨vo, vc, hv1, _, _⟩ := hO1.fresh
    have hfl : ∀ b, v1.ownBlock = some b → Vn.heap.size ≤ b := fun b hb => (own_block_lt hO1 hb).1
    have f7 := ((HF2.out.later hb1).box.f 7 rfl)
    have HX4 := hid (HX2.out.trans (HF2.out.putFu (L := L) (own_low hO1 hlo) (hb1.mono hlo) ⟨hb1.os, hb1.tape, hb1.output, hb1.size, fun b h1 _ => hb1.block b h1⟩ (fun b hb => .inr (hfl b hb))))
    have S10 := S1.1
    refine Walks.one (i := 15) (o := _) (by kernel_rfl) rfl (fun K hK => ?_)
    rw [hv1] at HX4
    rw [hv1]
    go_simp
    refine hK.out _ _ (fun h => absurd h (by decide)) (fun _ => ?_)
    refine Walks.done (by kernel_rfl) ?_ _
    clear hK K
    obtain ⟨w4, h4⟩ : ∃ w4, w4 = w1.setCell ⟨p, 7, none⟩ (.slice vo L.length vc) := ⟨_, rfl⟩
    rw [← h4] at HX4 ⊢
    have c7 := HX4.out.flow.box.c 7 rfl
    have f74 := HX4.out.flow.box.f 7 rfl
    clear h4 S10 S1 f7 hO1 hb1 HF2 HX2 SU HIU hH
    by_cases h5 : 5 < L.length
    · have hd5 : decide (5 < (L.length : Int)) = true := by simp; omega
      have HX5 := hid (HX4.out.trans (HX4.out.flow.putFu (v' := .slice none 0 0) (L := []) (Kind.Own.nil _ _ _) (Below.refl _ _) ⟨rfl, rfl, rfl, Nat.le_refl _, fun _ _ _ => rfl⟩ (fun g hg => by simp [Value.ownBlock] at hg)))
      obtain ⟨w5, hw5⟩ : ∃ w5, w5 = w4.setCell ⟨p, 7, none⟩ (.slice none 0 0) := ⟨_, rfl⟩
      rw [← hw5] at HX5
      have HW5 := hid hw5
      have HA := hid (abortS_any lo w5 p _ gv _ _ _ _ _ HX5.out.flow hn2 ht2)
      clear hw5 HX4
      go_wp2_with fail
      rw [← HW5.out]
      refine HA.out.mono ?_
      rintro e w6 ⟨⟨v6, rfl⟩, hs6⟩
      obtain ⟨bb6, xs6, ev6, fv6, uv6, X6⟩ := hs6.fx
      have HX7 := hid (HX5.out.trans X6).step
      clear hs6 X6 HA HX5
      go_wp2
      go_ret
      have hf : failT s2 = { abortP s2 with fu := [] } := by rw [failT, if_pos (by rw [← HL.out]; exact h5)]
      rw [HFT.out, hf]
      exact ⟨rfl, HX7.out⟩
    · have hd5 : decide (5 < (L.length : Int)) = false := by simp; omega
      go_wp2
      go_ret
      have hf : failT s2 = { s2 with fu := L } := by rw [failT, if_neg (by rw [← HL.out]; exact h5), ← HL.out]
      rw [HFT.out, hf]
      exact ⟨rfl, HX4.out.step⟩
  · have hd3 : decide (3 < t3 + 1) = false := by simpa using hp3
    obtain ⟨s2, hs2⟩ : ∃ s2 : PP, s2 = { s with bx := s.bx.set k ((t1, t2, t3 + 1) :: r) } := ⟨_, rfl⟩
    have HFT : Hid (failP s k t1 t2 t3 r = failT s2) := by rw [Hid, failP, if_neg hp3, hs2]
    have HQ : Hid (s2.ti = s.ti ∧ s2.fu = s.fu ∧ s2.bx.length = s.bx.length ∧ totT s2.bx + s2.fa.length ≤ 100000) := by
      have hq := HTS.out
      rw [Hid, hs2]
      exact ⟨rfl, rfl, List.length_set, by show totT (s.bx.set k ((t1, t2, t3 + 1) :: r)) + s.fa.length ≤ 100000; omega⟩
    have HX2 := HX1
    rw [← hs2] at HX2
    clear hs2 HX1 
    have hti0 : 0 ≤ s2.ti := by rw [HQ.out.1]; exact h0
    have hti1 : s2.ti ≤ 1000000 := by rw [HQ.out.1]; exact h1
    have hfu2 : s2.fu.length ≤ 100 := by rw [HQ.out.2.1]; exact hfu
    have hn2 : s2.bx.length ≤ 10 := by rw [HQ.out.2.2.1]; exact hn
    have ht2 : totT s2.bx + s2.fa.length ≤ 100000 := HQ.out.2.2.2
    have F2 := HX2.out.flow
    obtain ⟨uo, uc, huv, _, _⟩ := F2.fuo.fresh
    obtain ⟨uo2, uc2, huv2, _, hIU⟩ := F2.fuo.in
    have hIU2 : kI.In W1.heap.size W1 uo s2.fu := by rw [huv] at huv2; simp at huv2; rw [huv2.1]; exact hIU
    have HIU := hid hIU2
    have SU := And.intro (F2.box.c 7 rfl) (F2.box.c 1 rfl)
    rw [huv] at SU
    have hpw := F2.box.size
    have hlo := F2.lo_le
    have HF2 := hid F2
    clear hIU hIU2 huv2 huv F2
    go_wp2_with fail
    rw [← HW1.out]
    refine wp_walks (zl := [15]) (S := fun Y => Y.cell? ⟨p, 7, none⟩ = some (.slice uo s2.fu.length uc) ∧ Y.cell? ⟨p, 1, none⟩ = some (.int .i64 s2.ti)) (by kernel_rfl) SU (fun hH => ?_)
    refine Walks.take (i := 0) (v := ?vm0) rfl (by kernel_rfl) (by kernel_rfl) (fun _ _ _ h => h) _ _ _ _ (by kernel_rfl) (by kernel_rfl) (Or.inl ⟨by rfl, ?hym0⟩) hH ?restm0
    case hym0 => (intro w' hSw; (try dsimp only at hSw); go_simp <;> with_reducible rfl)
    refine Walks.take (i := 1) (v := ?vm1) rfl (by kernel_rfl) (by kernel_rfl) (fun _ _ _ h => h) _ _ _ _ (by kernel_rfl) (by kernel_rfl) (Or.inl ⟨by rfl, ?hym1⟩) hH ?restm1
    case hym1 => (intro w' hSw; (try dsimp only at hSw); go_simp <;> with_reducible rfl)
    refine Walks.take (i := 2) (v := ?vm2) rfl (by kernel_rfl) (by kernel_rfl) (fun _ _ _ h => h) _ _ _ _ (by kernel_rfl) (by kernel_rfl) (Or.inl ⟨by rfl, ?hym2⟩) hH ?restm2
    case hym2 => (intro w' hSw; (try dsimp only at hSw); go_simp <;> with_reducible rfl)
    refine Walks.take (i := 3) (v := ?vm3) rfl (by kernel_rfl) (by kernel_rfl) (fun _ _ _ h => h) _ _ _ _ (by kernel_rfl) (by kernel_rfl) (Or.inl ⟨by rfl, ?hym3⟩) hH ?restm3
    case hym3 => (intro w' hSw; (try dsimp only at hSw); go_simp <;> with_reducible rfl)
    refine Walks.take (i := 4) (v := ?vm4) rfl (by kernel_rfl) (by kernel_rfl) (fun _ _ _ h => h) _ _ _ _ (by kernel_rfl) (by kernel_rfl) (Or.inl ⟨by rfl, ?hym4⟩) hH ?restm4
    case hym4 => (intro w' hSw; (try dsimp only at hSw); go_simp <;> with_reducible rfl)
    refine Walks.take (i := 5) (v := ?vm5) rfl (by kernel_rfl) (by kernel_rfl) (fun _ _ _ h => h) _ _ _ _ (by kernel_rfl) (by kernel_rfl) (Or.inl ⟨by rfl, ?hym5⟩) hH ?restm5
    case hym5 => (intro w' hSw; (try dsimp only at hSw); go_simp <;> with_reducible rfl)
    refine Walks.take (i := 6) (v := ?vm6) rfl (by kernel_rfl) (by kernel_rfl) (fun _ _ _ h => h) _ _ _ _ (by kernel_rfl) (by kernel_rfl) (Or.inl ⟨by rfl, ?hym6⟩) hH ?restm6
    case hym6 => (intro w' hSw; (try dsimp only at hSw); go_simp <;> with_reducible rfl)
    refine Walks.take (i := 7) (v := ?vm7) rfl (by kernel_rfl) (by kernel_rfl) (fun _ _ _ h => h) _ _ _ _ (by kernel_rfl) (by kernel_rfl) (Or.inl ⟨by rfl, ?hym7⟩) hH ?restm7
    case hym7 => (intro w' hSw; (try dsimp only at hSw); go_simp <;> with_reducible rfl)
    refine Walks.take (i := 8) (v := ?vm8) rfl (by kernel_rfl) (by kernel_rfl) (fun _ _ _ h => h) _ _ _ _ (by kernel_rfl) (by kernel_rfl) (Or.inl ⟨by rfl, ?hym8⟩) hH ?restm8
    case hym8 => (intro w' hSw; (try dsimp only at hSw); go_simp <;> with_reducible rfl)
    refine Walks.take (i := 9) (v := ?vm9) rfl (by kernel_rfl) (by kernel_rfl) (fun _ _ _ h => h) _ _ _ _ (by kernel_rfl) (by kernel_rfl) (Or.inl ⟨by rfl, ?hym9⟩) hH ?restm9
    case hym9 => (intro w' hSw; (try dsimp only at hSw); go_simp <;> with_reducible rfl)
    refine Walks.take (i := 10) (v := ?vm10) rfl (by kernel_rfl) (by kernel_rfl) (fun _ _ _ h => h) _ _ _ _ (by kernel_rfl) (by kernel_rfl) (Or.inl ⟨by rfl, ?hym10⟩) hH ?restm10
    case hym10 => (intro w' hSw; (try dsimp only at hSw); go_simp <;> with_reducible rfl)
    refine Walks.one (i := 11) (o := _) (by kernel_rfl) rfl (fun K hK => ?_)
    go_simp
    refine (l10Recent_any uo uc s2.fu s2.ti 10 W1.drew (by omega) hti0 hti1 (by omega) (by omega) (by exact HIU.out)).mono ?_
    rintro e w1 ⟨⟨v1, rfl, hO1⟩, hb10⟩
    have hb1 : Below W1.heap.size W1 w1 := (Below.refl W1.heap.size W1).drew.trans hb10
    clear hb10
    have S1 := And.intro ((hb1.cell (p := ⟨p, 7, none⟩) hpw).trans SU.1) ((hb1.cell (p := ⟨p, 1, none⟩) hpw).trans SU.2)
    refine hK.out _ _ (fun _ => S1) (fun _ => ?_)
    clear hK K
    refine Walks.one (i := 12) (o := _) (by kernel_rfl) rfl (fun K hK => ?_)
    go_simp
    refine hK.out _ _ (fun _ => S1) (fun _ => ?_)
    clear hK K
    refine Walks.one (i := 13) (o := _) (by kernel_rfl) rfl (fun K hK => ?_)
    go_simp
    refine hK.out _ _ (fun _ => S1) (fun _ => ?_)
    clear hK K
    refine Walks.take (i := 14) (v := ?vmz14) rfl (by kernel_rfl) (by kernel_rfl) (fun _ _ _ h => h) _ _ _ _ (by kernel_rfl) (by kernel_rfl) (Or.inl ⟨by rfl, ?hymz14⟩) S1 ?restmz14
    case hymz14 => (intro w' hSw; (try dsimp only at hSw); go_simp <;> with_reducible rfl)
    obtain ⟨L, hL⟩ : ∃ L, L = above s2.fu (s2.ti - 10) ++ [s2.ti] := ⟨_, rfl⟩
    rw [← hL] at hO1
    have HL := hid hL
    clear hL
    obtain ⟨vo, vc, hv1, _, _⟩ := hO1.fresh
    have hfl : ∀ b, v1.ownBlock = some b → W1.heap.size ≤ b := fun b hb => (own_block_lt hO1 hb).1
    have f7 := ((HF2.out.later hb1).box.f 7 rfl)
    have HX4 := hid (HX2.out.trans (HF2.out.putFu (L := L) (own_low hO1 hlo) (hb1.mono hlo) ⟨hb1.os, hb1.tape, hb1.output, hb1.size, fun b h1 _ => hb1.block b h1⟩ (fun b hb => .inr (hfl b hb))))
    have S10 := S1.1
    refine Walks.one (i := 15) (o := _) (by kernel_rfl) rfl (fun K hK => ?_)
    rw [hv1] at HX4
    rw [hv1]
    go_simp
    refine hK.out _ _ (fun h => absurd h (by decide)) (fun _ => ?_)
    refine Walks.done (by kernel_rfl) ?_ _
    clear hK K
    obtain ⟨w4, h4⟩ : ∃ w4, w4 = w1.setCell ⟨p, 7, none⟩ (.slice vo L.length vc) := ⟨_, rfl⟩
    rw [← h4] at HX4 ⊢
    have c7 := HX4.out.flow.box.c 7 rfl
    have f74 := HX4.out.flow.box.f 7 rfl
    clear h4 S10 S1 f7 hO1 hb1 HF2 HX2 SU HIU hH
    by_cases h5 : 5 < L.length
    · have hd5 : decide (5 < (L.length : Int)) = true := by simp; omega
      have HX5 := hid (HX4.out.trans (HX4.out.flow.putFu (v' := .slice none 0 0) (L := []) (Kind.Own.nil _ _ _) (Below.refl _ _) ⟨rfl, rfl, rfl, Nat.le_refl _, fun _ _ _ => rfl⟩ (fun g hg => by simp [Value.ownBlock] at hg)))
      obtain ⟨w5, hw5⟩ : ∃ w5, w5 = w4.setCell ⟨p, 7, none⟩ (.slice none 0 0) := ⟨_, rfl⟩
      rw [← hw5] at HX5
      have HW5 := hid hw5
      have HA := hid (abortS_any lo w5 p _ gv _ _ _ _ _ HX5.out.flow hn2 ht2)
      clear hw5 HX4
      go_wp2_with fail
      rw [← HW5.out]
      refine HA.out.mono ?_
      rintro e w6 ⟨⟨v6, rfl⟩, hs6⟩
      obtain ⟨bb6, xs6, ev6, fv6, uv6, X6⟩ := hs6.fx
      have HX7 := hid (HX5.out.trans X6).step
      clear hs6 X6 HA HX5
      go_wp2
      go_ret
      have hf : failT s2 = { abortP s2 with fu := [] } := by rw [failT, if_pos (by rw [← HL.out]; exact h5)]
      rw [HFT.out, hf]
      exact ⟨rfl, HX7.out⟩
    · have hd5 : decide (5 < (L.length : Int)) = false := by simp; omega
      go_wp2
      go_ret
      have hf : failT s2 = { s2 with fu := L } := by rw [failT, if_neg (by rw [← HL.out]; exact h5), ← HL.out]
      rw [HFT.out, hf]
      exact ⟨rfl, HX4.out.step⟩
end
section
open Go.RowKit

/-- A good graph, plainly. -/
structure GoodE (gs : List PNode) : Prop where
  edg : EdgesIn gs
  cap : ∀ j, j < gs.length → 3 ≤ capP gs j ∧ capP gs j ≤ 8
  once : ∀ a, a < gs.length → (nxP gs a).Nodup
  st : ∀ k, k < gs.length → goodSt (el gs k).2.1 (el gs k).2.2.1 (el gs k).2.2.2.1 = true
theorem goodE_of {gs : List PNode} (h : codeG gs = 0) : GoodE gs := by
  obtain ⟨hm, hbk, _⟩ := codeG_zero h
  refine ⟨edges_of (by omega) (hbk 4 (by omega)), fun j hj => ?_, fun a ha => ?_, fun k hk => ?_⟩
  · have := brk_at (hbk 3 (by omega)) hj
    simp only [prule, Int.toNat_natCast, Bool.or_eq_false_iff, decide_eq_false_iff_not] at this
    rw [capP]; omega
  · have := brk_at (hbk 4 (by omega)) ha
    simp only [prule, Int.toNat_natCast] at this
    have h2 : goodNx (nxP gs a) (gs.length : Int) = true := by simpa [nxP] using this
    exact (goodNx_iff.1 h2).2
  · have := brk_at (hbk 2 (by omega)) hk
    simp only [prule, Int.toNat_natCast] at this
    simpa using this
theorem appR_val {k a b v : Int} : ∀ x ∈ (appR k a b v).1, valB x = true := by
  intro x hx
  unfold appR at hx
  split at hx
  · rename_i h
    simp at h; exact appSt_val h.1 h.2 x hx
  · cases hx
/-- Every token bears a value. -/
def VlB (bx : List (List (Int × Int × Int))) : Prop := ∀ k t, t ∈ el bx k → valB t.2.1 = true
theorem VlB.set {bx : List (List (Int × Int × Int))} (h : VlB bx) (k : Nat) {x : List (Int × Int × Int)} (hx : ∀ t ∈ x, valB t.2.1 = true) : VlB (bx.set k x) := fun j t ht => by
  by_cases e : j = k
  · subst e
    by_cases hj : j < bx.length
    · rw [el_set_same hj] at ht; exact hx t ht
    · rw [List.set_eq_of_length_le (by omega)] at ht; exact h j t ht
  · rw [el_set_far e] at ht; exact h j t ht
theorem VlB.put {bx : List (List (Int × Int × Int))} (h : VlB bx) (k : Nat) (a b : Int) (hb : valB b = true) : VlB (bx.set k (el bx k ++ [(a, b, 0)])) := h.set k fun t ht => by
  rcases List.mem_append.1 ht with h1 | h1
  · exact h k t h1
  · rw [List.mem_singleton.1 h1]; exact hb
theorem VlB.puts (a b : Int) (hb : valB b = true) : ∀ (l : List Int) {bx : List (List (Int × Int × Int))}, VlB bx → VlB (putsTo (a, b, 0) bx l)
  | [], _, h => h
  | x :: r, _, h => VlB.puts a b hb r (h.put x.toNat a b hb)
theorem el_clr (bx : List (List (Int × Int × Int))) (j : Nat) : el (clr bx bx.length) j = [] := by
  simp only [Go.Proofs.YtoeonbdoopboiaaGreatDoor.clr, el, List.drop_length, List.append_nil]
  by_cases hj : j < bx.length
  · simp [hj]
  · simp [hj]; rfl
/-- Boxes within their room. -/
def CpB (gs : List PNode) (bx : List (List (Int × Int × Int))) : Prop := ∀ k, k < gs.length → ((el bx k).length : Int) ≤ capP gs k
theorem CpB.set {gs : List PNode} {bx : List (List (Int × Int × Int))} (h : CpB gs bx) (k : Nat) {x : List (Int × Int × Int)} (hx : (x.length : Int) ≤ capP gs k) : CpB gs (bx.set k x) := fun j hj => by
  by_cases e : j = k
  · subst e
    by_cases hj2 : j < bx.length
    · rw [el_set_same hj2]; exact hx
    · rw [List.set_eq_of_length_le (by omega)]; exact h j hj
  · rw [el_set_far e]; exact h j hj
theorem putsTo_far (t : Int × Int × Int) {j : Nat} : ∀ (l : List Int) (bx : List (List (Int × Int × Int))), (∀ x ∈ l, x.toNat ≠ j) → el (putsTo t bx l) j = el bx j
  | [], _, _ => rfl
  | y :: r, bx, h => by
    rw [putsTo, putsTo_far t r _ (fun x hx => h x (List.mem_cons_of_mem _ hx)), el_set_far (fun e => h y (by simp) e.symm)]
theorem putsTo_len1 (t : Int × Int × Int) {j : Nat} : ∀ (l : List Int) (bx : List (List (Int × Int × Int))), (∀ x ∈ l, 0 ≤ x) → l.Nodup → (el (putsTo t bx l) j).length ≤ (el bx j).length + (if (j : Int) ∈ l then 1 else 0)
  | [], _, _, _ => Nat.le_add_right _ _
  | y :: r, bx, h, hn => by
    have h1 := List.nodup_cons.1 hn
    have hy := h y (by simp)
    rw [putsTo]
    by_cases e : y.toNat = j
    · have hyj : y = (j : Int) := by omega
      rw [putsTo_far t r _ (fun x hx e2 => h1.1 (by have := h x (List.mem_cons_of_mem _ hx); rw [show y = x by omega]; exact hx)), if_pos (by rw [hyj]; simp), e]
      by_cases hj : j < bx.length
      · rw [el_set_same hj]; simp
      · rw [List.set_eq_of_length_le (by omega)]; omega
    · have h2 := putsTo_len1 t (j := j) r (bx.set y.toNat (el bx y.toNat ++ [t])) (fun x hx => h x (List.mem_cons_of_mem _ hx)) h1.2
      rw [el_set_far (Ne.symm e)] at h2
      by_cases hm : (j : Int) ∈ r
      · rw [if_pos hm] at h2
        rw [if_pos (List.mem_cons_of_mem _ hm)]; exact h2
      · rw [if_neg hm] at h2
        omega
/-- What holds of a pipe that plays. -/
structure InvS (gs : List PNode) (s : PP) : Prop where
  cap : CpB gs s.bx
  val : VlB s.bx
theorem InvS.abort {gs : List PNode} {s : PP} (hG : GoodE gs) : InvS gs (abortP s) :=
  ⟨fun k hk => by show ((el (clr s.bx s.bx.length) k).length : Int) ≤ _; rw [el_clr]; have := (hG.cap k hk).1; simp only [List.length_nil]; omega, fun k t ht => by
    have ht2 : t ∈ el (clr s.bx s.bx.length) k := ht
    rw [el_clr] at ht2; cases ht2⟩
theorem InvS.failT {gs : List PNode} {s : PP} (hG : GoodE gs) (h : InvS gs s) : InvS gs (failT s) := by
  unfold Go.Proofs.YtoeonbdoopboiaaGreatDoor.failT
  split
  · have a := InvS.abort (s := s) hG
    exact ⟨a.cap, a.val⟩
  · exact ⟨h.cap, h.val⟩
theorem InvS.fail {gs : List PNode} {s : PP} (hG : GoodE gs) (h : InvS gs s) {k : Nat} {t1 t2 t3 : Int} {r : List (Int × Int × Int)} (hk : k < gs.length) (hr : el s.bx k = (t1, t2, t3) :: r) : InvS gs (failP s k t1 t2 t3 r) := by
  unfold failP
  have hv := h.val k (t1, t2, t3) (by rw [hr]; simp)
  have hrr : ∀ t ∈ r, valB t.2.1 = true := fun t ht => h.val k t (by rw [hr]; exact List.mem_cons_of_mem _ ht)
  have hc := h.cap k hk
  rw [hr] at hc
  simp only [List.length_cons] at hc
  refine InvS.failT hG ?_
  split
  · exact ⟨h.cap.set k (by omega), h.val.set k hrr⟩
  · refine ⟨h.cap.set k (by simp only [List.length_cons]; exact hc), h.val.set k fun t ht => ?_⟩
    rcases List.mem_cons.1 ht with rfl | h1
    · exact hv
    · exact hrr t h1
theorem leadAll_val (gs : List PNode) (k : Nat) (it : Int) : ∀ (l : List Int) (s : PP), (∀ v ∈ l, valB v = true) → VlB s.bx → VlB (leadAll gs k it l s).bx
  | [], _, _, h => h
  | y :: r, s, hl, h => by
    rw [leadAll]
    refine leadAll_val gs k it r _ (fun v hv => hl v (List.mem_cons_of_mem _ hv)) ?_
    unfold leadR; split
    · exact h
    · exact VlB.puts it y (hl y (by simp)) _ h
theorem leadAll_cap {gs : List PNode} {k : Nat} (it : Int) (h0 : ∀ x ∈ nxP gs k, 0 ≤ x) (hn : (nxP gs k).Nodup) : ∀ (l : List Int) (s : PP) (j : Nat), (el (leadAll gs k it l s).bx j).length ≤ (el s.bx j).length + (if (j : Int) ∈ nxP gs k then l.length else 0)
  | [], s, j => by rw [leadAll]; exact Nat.le_add_right _ _
  | y :: r, s, j => by
    have h1 := leadAll_cap it h0 hn r (leadR gs s k it y) j
    rw [leadAll]
    have h2 : (el (leadR gs s k it y).bx j).length ≤ (el s.bx j).length + (if (j : Int) ∈ nxP gs k then 1 else 0) := by
      unfold leadR; split
      · exact Nat.le_add_right _ _
      · exact putsTo_len1 _ _ _ h0 hn
    by_cases hm : (j : Int) ∈ nxP gs k
    · rw [if_pos hm] at h1 h2 ⊢
      simp only [List.length_cons]; omega
    · rw [if_neg hm] at h1 h2 ⊢
      omega
theorem InvS.step {gs : List PNode} {s : PP} (hG : GoodE gs) (h : InvS gs s) (hl : s.bx.length = gs.length) (m : Int) : InvS gs (stepR gs s m).2 := by
  unfold stepR
  split
  · rename_i hin
    have hk : m.toNat < s.bx.length := by omega
    have hkg : m.toNat < gs.length := by omega
    split
    · exact h
    · rename_i t r hr
      obtain ⟨t1, t2, t3⟩ := t
      split
      · exact h.fail hG hkg hr
      · split
        · exact h
        · rename_i hb
          have hrr : ∀ t ∈ r, valB t.2.1 = true := fun t ht => h.val m.toNat t (by rw [hr]; exact List.mem_cons_of_mem _ ht)
          refine ⟨fun j hj => ?_, leadAll_val gs _ _ _ _ (fun v hv => appR_val v hv) (h.val.set _ hrr)⟩
          have h0 : ∀ x ∈ nxP gs m.toNat, 0 ≤ x := fun x hx => by obtain ⟨a, _, rfl⟩ := hG.edg.rng _ hkg x hx; omega
          have h1 := leadAll_cap (gs := gs) (k := m.toNat) t1 h0 (hG.once _ hkg) (stApp gs m.toNat t2).1 { s with bx := s.bx.set m.toNat r } j
          have h2 : (el (s.bx.set m.toNat r) j).length ≤ (el s.bx j).length := by
            by_cases e : j = m.toNat
            · rw [e, el_set_same hk, hr]; simp
            · rw [el_set_far e]; exact Nat.le_refl _
          have hc := h.cap j hj
          dsimp only at h1 ⊢
          by_cases hm : (j : Int) ∈ nxP gs m.toNat
          · rw [if_pos hm] at h1
            have h3 : ¬ capP gs j - ((el s.bx j).length : Int) < ((stApp gs m.toNat t2).1.length : Int) := fun hlt => hb (by
              unfold blkP
              rw [List.any_eq_true]
              exact ⟨(j : Int), hm, by rw [Int.toNat_natCast]; exact decide_eq_true hlt⟩)
            omega
          · rw [if_neg hm] at h1
            omega
  · exact h
theorem InvS.fault {gs : List PNode} {s : PP} (hG : GoodE gs) (h : InvS gs s) (hl : s.bx.length = gs.length) (m : Int) : InvS gs (faultR s m).2 := by
  unfold faultR
  split
  · rename_i hin
    split
    · exact h
    · rename_i t r hr
      exact h.fail hG (by omega) hr
  · exact h
theorem InvS.offer {gs : List PNode} {src : List Int} {s : PP} (h : InvS gs s) (m v : Int) : InvS gs (offerR gs src s m v).2 := by
  unfold offerR
  split
  · rename_i hv
    split
    · exact h
    · split
      · exact h
      · rename_i hr
        refine ⟨h.cap.set _ ?_, h.val.put _ _ _ hv.2⟩
        rw [List.length_append, List.length_singleton]; omega
  · exact h
/-- A move keeps it. -/
theorem InvS.move {gs : List PNode} {src : List Int} {s : PP} (hG : GoodE gs) (h : InvS gs s) (hl : s.bx.length = gs.length) (m1 m2 m3 : Int) : InvS gs (doR gs src s m1 m2 m3).2 := by
  unfold doR
  split
  · exact h.offer m2 m3
  · split
    · exact h.step hG hl m2
    · split
      · exact h.fault hG hl m2
      · split
        · unfold tickR
          split
          · exact h
          · split
            · exact h
            · exact ⟨h.cap, h.val⟩
        · split
          · unfold drainR
            split
            · exact h
            · exact ⟨h.cap, h.val⟩
          · split
            · unfold abortR
              split
              · exact h
              · exact InvS.abort hG
            · exact h
theorem pp0_inv {gs : List PNode} (hG : GoodE gs) : InvS gs (pp0 gs.length) := by
  have e : ∀ k, el (pp0 gs.length).bx k = [] := fun k => by
    show el (List.replicate gs.length ([] : List (Int × Int × Int))) k = []
    by_cases hk : k < gs.length
    · simp [el, hk]
    · simp [el, hk]; rfl
  exact ⟨fun k hk => by rw [e]; have := (hG.cap k hk).1; simp only [List.length_nil]; omega, fun k t ht => by rw [e] at ht; cases ht⟩
theorem playP_inv {gs : List PNode} (src : List Int) (hG : GoodE gs) (l : List (Int × Int × Int)) {s : PP} (h : InvS gs s) (hB : BndP gs.length 0 s) : ∀ n, n ≤ l.length → InvS gs (playP gs src (l.take n) s).2
  | 0, _ => h
  | n + 1, hn => by
    rw [take_succ_el (by omega), playP_snoc]
    exact (playP_inv src hG l h hB n (by omega)).move hG ((playP_bnd src hG.edg l hB n (by omega)).len) _ _ _
end
end Go.Proofs.YtoeonbdoopboiaaGreatDoor
