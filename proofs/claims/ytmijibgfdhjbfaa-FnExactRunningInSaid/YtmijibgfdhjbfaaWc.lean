
/- Rows of works copied, and with one more. No conditions but those written. -/
import Derived.Test.YtmijibgfdhjbfaaWk
namespace Go.Proofs.Ytmijibgfdhjbfaa
open Go.RowKit

set_option maxHeartbeats 1000000 in
theorem copyListW_any (ao : Option Addr) (cap : Nat) (ts : List (Int × Int × Int)) (w : World) (hl : ts.length ≤ 1048576) (hz : kW.In w.heap.size w ao ts) :
    Calls Try.prog 47 #[.slice ao ts.length cap] w fun e w' => (∃ to, e = .returned (.slice to ts.length ts.length) ∧ kW.Fresh w.heap.size w'.heap.size w' to ts.length ts) ∧ Below w.heap.size w w' := by
  by_cases h0 : ts.length = 0
  · obtain rfl : ts = [] := List.length_eq_zero_iff.1 h0
    go_enter Try.func47, Try.ntmps47
    go_wp2
    go_ret
    exact ⟨⟨none, rfl, .inl rfl⟩, Below.refl _ _⟩
  · have h0' : ((ts.length : Int) == 0) = false := (len1 h0).1
    obtain ⟨i0, z0, hi, hz0, hz1, hz2, hz3⟩ := kW_ok.info
    have HZ : Hid (kW.In w.heap.size w ao ts) := hz
    have hby : i0.bytes * ts.length ≤ 281474976710656 := by have : i0.bytes * ts.length ≤ 4096 * 1048576 := Nat.mul_le_mul hz3 hl; omega
    clear hz
    go_enter Try.func47, Try.ntmps47
    go_wp2_with (at_make; refine wpList_make_full _ rfl _ _ kW.st rfl w.heap.size kW.ty i0 z0 kW.sz kW_ok.und hi hz0 hz1 .i64 .i64 _ _ ts.length rfl rfl rfl rfl hby (by unfold maxLen; omega) (Nat.le_refl _) ?_; intro w1 hown hgrow; obtain ⟨cur, hcur, hcl, _⟩ := owns_open hown; have hB1 : Below w.heap.size w w1 := (Below.refl _ _).grown hgrow (Nat.le_refl _) (fun k e => by cases e); obtain ⟨w2, hrun, hh, hO⟩ := Kind.run_copy (n := ts.length) (cap := cap) (ty := 3) kW_ok hcur hcl (Nat.le_refl _) HZ.out hB1; have hB2 : Below w.heap.size w w2 := hB1.trans (hO.below (Nat.le_refl _)); have HH := show Hid (_ ∧ _) from And.intro hcl hh; unfold kW at hrun; dsimp only at hrun; clear hown hgrow hcur hh hO hcl)
    go_ret
    have e : cur.drop (ts.length * kW.sz) = [] := List.drop_eq_nil_of_le (by rw [HH.out.1]; exact Nat.le_refl _)
    have hh := HH.out.2
    rw [e, List.append_nil] at hh
    exact ⟨⟨_, rfl, .inr ⟨w.heap.size, rfl, (Array.getElem?_eq_some_iff.1 hh).1, Kind.own_of_heap hh rfl (Nat.le_refl _) (by omega)⟩⟩, hB2⟩
set_option maxHeartbeats 1000000 in
theorem queueOfW_any (ao : Option Addr) (cap : Nat) (ts : List (Int × Int × Int)) (w : World) (hl : ts.length ≤ 1048576) (hz : kW.In w.heap.size w ao ts) :
    Calls Try.prog 35 #[.slice ao ts.length cap] w fun e w' => (∃ to, e = .returned (.agg #[.slice to ts.length ts.length]) ∧ kW.Fresh w.heap.size w'.heap.size w' to ts.length ts) ∧ Below w.heap.size w w' := by
  go_enter Try.func35, Try.ntmps35
  go_wp2_with fail
  refine (copyListW_any ao cap ts _ hl (hz.later (below1 _ _))).mono ?_
  rintro e w1 ⟨⟨go, rfl, hO⟩, hb1⟩
  have hB1 := (below1 w (.cells #[.slice none 0 0] 57)).trans (hb1.mono (by simp))
  have c1 : w1.cell? ⟨w.heap.size, 0, none⟩ = some (.slice none 0 0) := (hb1.cell (p := ⟨w.heap.size, 0, none⟩) (by simp)).trans (by simp [go_sem])
  have f1 : w1.frozen? ⟨w.heap.size, 0, none⟩ = false := (hb1.frozen (p := ⟨w.heap.size, 0, none⟩) (by simp)).trans (by simp [go_sem])
  have HO : Hid (kW.Fresh (w.heap.size + 1) w1.heap.size w1 go ts.length ts) := by rw [World.size_alloc] at hO; exact hO
  clear hO hb1
  go_wp2
  refine bodyPost_ret (v := .agg #[.slice go ts.length ts.length]) (by simp [results, Try.results35, go_sem, c1]) rfl ⟨⟨go, rfl, ?_⟩, ?_⟩
  · exact (HO.out.setBelow (by simp) _).wide (by omega) (by simp)
  · exact hB1.setCell (p := ⟨w.heap.size, 0, none⟩) (Nat.le_refl _) _
theorem run_field57 (a : Option Addr) (n c : Nat) (w : World) : (Instr.field 57 (.agg #[.slice a n c]) 0).run Try.prog w = .ok (.slice a n c) w := by
  simp [Instr.field, go_sem, run_underlying Try.underlying57, asAgg]
theorem with_flatW {ts : List (Int × Int × Int)} {rest : List Value} (hr : rest.length = 3) (x1 : Int) (x2 : Int) (x3 : Int) : ((((kW.flat ts ++ rest).set (ts.length * 3) (.int .i64 x1)).set (ts.length * 3 + 1) (.int .i64 x2)).set (ts.length * 3 + 2) (.int .i64 x3)) = kW.flat (ts ++ [(x1, x2, x3)]) := by
  have hl : (kW.flat ts).length = ts.length * 3 := by rw [kW.flat_len]; rfl
  match rest, hr with
  | [a, b, c], _ =>
    rw [← hl, Kind.flat_app, Kind.flat_cons, Kind.flat_nil, List.set_append_right _ _ (by omega), List.set_append_right _ _ (by omega), List.set_append_right _ _ (by omega)]
    simp [kW]
set_option maxHeartbeats 2000000 in
theorem withW_any (ao : Option Addr) (cap : Nat) (ts : List (Int × Int × Int)) (x1 : Int) (x2 : Int) (x3 : Int) (w : World) (hl : ts.length ≤ 1048576) (hz : kW.In w.heap.size w ao ts) :
    Calls Try.prog 36 #[.agg #[.slice ao ts.length cap], .agg #[.int .i64 x1, .int .i64 x2, .int .i64 x3]] w fun e w' => (∃ go, e = .returned (.agg #[.slice go (ts.length + 1) (ts.length + 1)]) ∧ kW.Fresh w.heap.size w'.heap.size w' go (ts.length + 1) (ts ++ [(x1, x2, x3)])) ∧ Below w.heap.size w w' := by
  obtain ⟨W2, hW2⟩ : ∃ W2, W2 = ((w.alloc (.cells #[.slice ao ts.length cap] 57)).alloc (.cells #[.int .i64 x1, .int .i64 x2, .int .i64 x3] 47)).alloc (.cells #[.slice none 0 0] 57) := ⟨_, rfl⟩
  have hB2 : Below w.heap.size w W2 := by rw [hW2]; exact below3 _ _ _ _
  have hs2 : W2.heap.size = w.heap.size + 1 + 1 + 1 := by rw [hW2]; simp
  have b0 : W2.cell? ⟨w.heap.size, 0, none⟩ = some (.slice ao ts.length cap) := by rw [hW2]; simp [go_sem]
  have c0 : W2.cell? ⟨w.heap.size + 1, 0, none⟩ = some (.int .i64 x1) := by rw [hW2]; simp [go_sem]
  have c1 : W2.cell? ⟨w.heap.size + 1, 1, none⟩ = some (.int .i64 x2) := by rw [hW2]; simp [go_sem]
  have c2 : W2.cell? ⟨w.heap.size + 1, 2, none⟩ = some (.int .i64 x3) := by rw [hW2]; simp [go_sem]
  have r0 : W2.cell? ⟨w.heap.size + 1 + 1, 0, none⟩ = some (.slice none 0 0) := by rw [hW2]; simp [go_sem]
  have f0 : W2.frozen? ⟨w.heap.size + 1 + 1, 0, none⟩ = false := by rw [hW2]; simp [go_sem]
  have HW : Hid (W2 = ((w.alloc (.cells #[.slice ao ts.length cap] 57)).alloc (.cells #[.int .i64 x1, .int .i64 x2, .int .i64 x3] 47)).alloc (.cells #[.slice none 0 0] 57)) := hW2
  clear hW2
  obtain ⟨i0, z0, hi, hz0, hz1, hz2, hz3⟩ := kW_ok.info
  have HZ : Hid (kW.In w.heap.size w ao ts) := hz
  have hby : i0.bytes * (ts.length + 1) ≤ 281474976710656 := by have : i0.bytes * (ts.length + 1) ≤ 4096 * 1048577 := Nat.mul_le_mul hz3 (by omega); omega
  have hn1 : ts.length < ts.length + 1 := by omega
  clear hz
  go_enter Try.func36, Try.ntmps36
  go_wp2_with (at_make; refine wpList_make_full _ rfl _ _ kW.st rfl (w.heap.size + 1 + 1 + 1) kW.ty i0 z0 kW.sz kW_ok.und hi hz0 hz1 .i64 .i64 _ _ (ts.length + 1) rfl rfl (by simp) (by simp) hby (by unfold maxLen; omega) (by simp) ?_; intro w1 hown hgrow; rw [← HW.out] at hown hgrow; rw [hs2] at hown; obtain ⟨cur, hcur, hcl, _⟩ := owns_open hown; have hB1 : Below W2.heap.size W2 w1 := (Below.refl _ _).grown hgrow (Nat.le_refl _) (fun k e => by cases e); have hB : Below w.heap.size w w1 := hB2.trans (hB1.mono hB2.size); obtain ⟨W3, hrun, hg3', ho3⟩ := Kind.run_copy (n := ts.length + 1) (cap := cap) (ty := 3) kW_ok hcur hcl (by omega) HZ.out hB; obtain ⟨xs, exs⟩ : ∃ xs, xs = kW.flat ts ++ cur.drop (ts.length * kW.sz) := ⟨_, rfl⟩; have hg3 : W3.heap[w.heap.size + 1 + 1 + 1]? = some (.cells xs.toArray kW.ty (0, 0)) := (by rw [exs]; exact hg3'); have hcl' : cur.length = (ts.length + 1) * 3 := hcl; have hx3 : xs.length = (ts.length + 1) * 3 := (by rw [exs, List.length_append, kW.flat_len, List.length_drop, hcl]; show ts.length * 3 + ((ts.length + 1) * 3 - ts.length * 3) = _; omega); unfold kW at hrun; dsimp only at hrun; have q0 : w1.cell? ⟨w.heap.size, 0, none⟩ = some (.slice ao ts.length cap) := (hB1.cell (p := ⟨w.heap.size, 0, none⟩) (by simp [hs2] <;> omega)).trans b0; have q1 : W3.cell? ⟨w.heap.size, 0, none⟩ = some (.slice ao ts.length cap) := (ho3.cell _ _ (by omega)).trans q0; have u0 : W3.cell? ⟨w.heap.size + 1, 0, none⟩ = some (.int .i64 x1) := (ho3.cell _ _ (by omega)).trans ((hB1.cell (p := ⟨w.heap.size + 1, 0, none⟩) (by simp [hs2] <;> omega)).trans c0); have u1 : W3.cell? ⟨w.heap.size + 1, 1, none⟩ = some (.int .i64 x2) := (ho3.cell _ _ (by omega)).trans ((hB1.cell (p := ⟨w.heap.size + 1, 1, none⟩) (by simp [hs2] <;> omega)).trans c1); have u2 : W3.cell? ⟨w.heap.size + 1, 2, none⟩ = some (.int .i64 x3) := (ho3.cell _ _ (by omega)).trans ((hB1.cell (p := ⟨w.heap.size + 1, 2, none⟩) (by simp [hs2] <;> omega)).trans c2); have q2 : W3.cell? ⟨w.heap.size + 1 + 1, 0, none⟩ = some (.slice none 0 0) := (ho3.cell _ _ (by omega)).trans ((hB1.cell (p := ⟨w.heap.size + 1 + 1, 0, none⟩) (by simp [hs2])).trans r0); have q3 : W3.frozen? ⟨w.heap.size + 1 + 1, 0, none⟩ = false := (ho3.frozen _ _ (by omega)).trans ((hB1.frozen (p := ⟨w.heap.size + 1 + 1, 0, none⟩) (by simp [hs2])).trans f0); have hx0 : ts.length * 3 < xs.length := (by rw [hx3]; omega); have v0 : W3.cell? ⟨w.heap.size + 1 + 1 + 1, ts.length * 3, none⟩ = some xs[ts.length * 3] := (by simp [World.cell?, hg3, hx0]); have z0 : W3.frozen? ⟨w.heap.size + 1 + 1 + 1, ts.length * 3, none⟩ = false := (by simp [World.frozen?, hg3]); have hx1 : ts.length * 3 + 1 < xs.length := (by rw [hx3]; omega); have v1 : W3.cell? ⟨w.heap.size + 1 + 1 + 1, ts.length * 3 + 1, none⟩ = some xs[ts.length * 3 + 1] := (by simp [World.cell?, hg3, hx1]); have z1 : W3.frozen? ⟨w.heap.size + 1 + 1 + 1, ts.length * 3 + 1, none⟩ = false := (by simp [World.frozen?, hg3]); have hx2 : ts.length * 3 + 2 < xs.length := (by rw [hx3]; omega); have v2 : W3.cell? ⟨w.heap.size + 1 + 1 + 1, ts.length * 3 + 2, none⟩ = some xs[ts.length * 3 + 2] := (by simp [World.cell?, hg3, hx2]); have z2 : W3.frozen? ⟨w.heap.size + 1 + 1 + 1, ts.length * 3 + 2, none⟩ = false := (by simp [World.frozen?, hg3]); have HX := show Hid (W3.heap[w.heap.size + 1 + 1 + 1]? = some (.cells xs.toArray kW.ty (0, 0)) ∧ xs = kW.flat ts ++ cur.drop (ts.length * kW.sz) ∧ cur.length = (ts.length + 1) * 3) from ⟨hg3, exs, hcl'⟩; clear hown hgrow hcur hg3 hg3' exs hcl hcl' hx3)
  have hh : (((W3.setCell ⟨w.heap.size + 1 + 1 + 1, ts.length * 3, none⟩ (.int .i64 x1)).setCell ⟨w.heap.size + 1 + 1 + 1, ts.length * 3 + 1, none⟩ (.int .i64 x2)).setCell ⟨w.heap.size + 1 + 1 + 1, ts.length * 3 + 2, none⟩ (.int .i64 x3)).heap[w.heap.size + 1 + 1 + 1]? = some (.cells (((xs.set (ts.length * 3) (.int .i64 x1)).set (ts.length * 3 + 1) (.int .i64 x2)).set (ts.length * 3 + 2) (.int .i64 x3)).toArray kW.ty (0, 0)) := by
    have h1 := heap_setCell_same W3 (w.heap.size + 1 + 1 + 1) (ts.length * 3) xs.toArray kW.ty (.int .i64 x1) HX.out.1
    have h2 := heap_setCell_same _ (w.heap.size + 1 + 1 + 1) (ts.length * 3 + 1) _ kW.ty (.int .i64 x2) h1
    have h3 := heap_setCell_same _ (w.heap.size + 1 + 1 + 1) (ts.length * 3 + 2) _ kW.ty (.int .i64 x3) h2
    simpa using h3
  have hlt : w.heap.size + 1 + 1 + 1 < W3.heap.size := (Array.getElem?_eq_some_iff.1 HX.out.1).1
  refine bodyPost_ret (v := .agg #[.slice (some ⟨w.heap.size + 1 + 1 + 1, 0, none⟩) (ts.length + 1) (ts.length + 1)]) (by simp [results, Try.results36, go_sem, q2]) rfl ⟨⟨_, rfl, ?_⟩, ?_⟩
  · rw [HX.out.2.1, with_flatW (by rw [List.length_drop, HX.out.2.2]; show (ts.length + 1) * 3 - ts.length * 3 = 3; omega)] at hh
    have ho := Kind.own_of_heap (lo := w.heap.size + 1 + 1 + 1) hh rfl (Nat.le_refl _) (by simp; omega)
    have hF : kW.Fresh (w.heap.size + 1 + 1 + 1) (w.heap.size + 1 + 1 + 1 + 1) _ (some ⟨w.heap.size + 1 + 1 + 1, 0, none⟩) (ts.length + 1) (ts ++ [(x1, x2, x3)]) := .inr ⟨_, rfl, Nat.lt_succ_self _, by simpa using ho⟩
    exact (hF.setBelow (a := ⟨w.heap.size + 1 + 1, 0, none⟩) (by simp) _).wide (by omega) (by simp; omega)
  · have hB3 : Below w.heap.size w W3 := hB.trans (ho3.below (by omega))
    exact (((hB3.setCell (p := ⟨w.heap.size + 1 + 1 + 1, ts.length * 3, none⟩) (by simp <;> omega) _).setCell (p := ⟨w.heap.size + 1 + 1 + 1, ts.length * 3 + 1, none⟩) (by simp <;> omega) _).setCell (p := ⟨w.heap.size + 1 + 1 + 1, ts.length * 3 + 2, none⟩) (by simp <;> omega) _).setCell (p := ⟨w.heap.size + 1 + 1, 0, none⟩) (by simp <;> omega) _
end Go.Proofs.Ytmijibgfdhjbfaa
