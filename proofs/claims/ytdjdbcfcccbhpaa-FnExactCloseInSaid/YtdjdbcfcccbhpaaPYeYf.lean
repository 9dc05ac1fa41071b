/- Closing a channel: the specification. No conditions but those written. Closing a closed channel. No conditions but those written. -/
import Derived.Test.YtdjdbcfcccbhpaaPYaYd
namespace Go.Proofs.Ytdjdbcfcccbhpaa
section
open Go.RowKit

/-- Those that are woken before list k. -/
def preC (r s : List (Int × Int × Int)) (k : Nat) : List (Int × Int × Int) := if k = 0 then [] else if k = 1 then r else r ++ s
set_option maxRecDepth 100000 in
set_option maxHeartbeats 16000000 in
theorem specClose_any (kap : Int) (bo : Option Addr) (bc : Nat) (b : List Int) (so : Option Addr) (sc : Nat) (s : List (Int × Int × Int)) (ro : Option Addr) (rc : Nat) (r : List (Int × Int × Int)) (w : World) (hlb : b.length ≤ 1048576) (hls : s.length ≤ 1048576) (hlr : r.length ≤ 1048576) (hz : InChan w.heap.size w bo b so s ro r) (hg : goodP (kap, false, b, s, r) = true) :
    Calls Try.prog 18 #[.agg #[.int .i64 kap, .bool false, .slice bo b.length bc, .slice so s.length sc, .slice ro r.length rc]] w fun e w' => (∃ bo' bc' wo wc, e = .returned (.tuple #[.agg #[.int .i64 kap, .bool true, .slice bo' b.length bc', .slice none 0 0, .slice none 0 0], .slice wo (wokeL (r ++ s)).length wc, .int .i64 0]) ∧ kI.Fresh w.heap.size w'.heap.size w' bo' bc' b ∧ kK.Fresh w.heap.size w'.heap.size w' wo wc (wokeL (r ++ s))) ∧ Below w.heap.size w w' := by
  obtain ⟨V0, hV0⟩ : ∃ V0, V0 = (w.alloc (.cells #[.int .i64 kap, .bool false, .slice bo b.length bc, .slice so s.length sc, .slice ro r.length rc] 45)).alloc (.cells #[.int .i64 0, .bool false, .slice none 0 0, .slice none 0 0, .slice none 0 0] 45) := ⟨_, rfl⟩
  have hB0 : Below w.heap.size w V0 := by rw [hV0]; exact below2 _ _ _
  have A0 : Hid (Bx V0 w.heap.size [.int .i64 kap, .bool false, .slice bo b.length bc, .slice so s.length sc, .slice ro r.length rc]) := by rw [hV0]; exact (Bx.new [.int .i64 kap, .bool false, .slice bo b.length bc, .slice so s.length sc, .slice ro r.length rc] _ rfl).alloc _
  have R0 : Hid (Bx V0 (w.heap.size + 1) [.int .i64 0, .bool false, .slice none 0 0, .slice none 0 0, .slice none 0 0]) := by rw [hV0]; exact Bx.new [.int .i64 0, .bool false, .slice none 0 0, .slice none 0 0, .slice none 0 0] _ (by simp)
  have hs0 : w.heap.size + 1 + 1 ≤ V0.heap.size := by rw [hV0]; simp
  have HV0 := hid hV0
  clear hV0
  go_enter Try.func18, Try.ntmps18
  go_wp2_with fail
  rw [← HV0.out]
  refine (specGoodC_is kap false bo bc b so sc s ro rc r V0 true hlb hls hlr (hz.later hB0) hg).mono ?_
  rintro e w1 ⟨rfl, hb1⟩
  have hB1 := hB0.trans (hb1.mono hB0.size)
  have A1 := hid (A0.out.later hb1)
  have R1 := hid (R0.out.later hb1)
  have hs1 : w.heap.size + 1 + 1 ≤ w1.heap.size := Nat.le_trans hs0 hb1.size
  have a0 := A1.out.c 0 rfl
  have a1 := A1.out.c 1 rfl
  have a2 := A1.out.c 2 rfl
  have a3 := A1.out.c 3 rfl
  have a4 := A1.out.c 4 rfl
  clear hb1 A0 R0 HV0
  go_wp2_with fail
  clear a0 a1 a2 a3 a4
  refine (ownChan_any kap false bo bc b so sc s ro rc r w1 hlb hls hlr (hz.later hB1)).mono ?_
  rintro e w2 ⟨⟨gb, bc', gs, sc', gr, rc', rfl, hO2⟩, hb2⟩
  have hB2 := hB1.trans (hb2.mono hB1.size)
  have A2 := hid (A1.out.later hb2)
  have R2 := hid (R1.out.later hb2)
  have hs2 : w.heap.size + 1 + 1 ≤ w2.heap.size := Nat.le_trans hs1 hb2.size
  have a0 := A2.out.c 0 rfl
  have a1 := A2.out.c 1 rfl
  have a2 := A2.out.c 2 rfl
  have a3 := A2.out.c 3 rfl
  have a4 := A2.out.c 4 rfl
  have f0 := A2.out.f 0 rfl
  have f1 := A2.out.f 1 rfl
  have f2 := A2.out.f 2 rfl
  have f3 := A2.out.f 3 rfl
  have f4 := A2.out.f 4 rfl
  have az := A2.out.size
  clear hb2 A1 R1
  go_wp2
  obtain ⟨W3, hW3⟩ : ∃ W3, W3 = (((((w2.setCell ⟨w.heap.size, 0, none⟩ (.int .i64 kap)).setCell ⟨w.heap.size, 1, none⟩ (.bool false)).setCell ⟨w.heap.size, 2, none⟩ (.slice (some ⟨gb, 0, none⟩) b.length bc')).setCell ⟨w.heap.size, 3, none⟩ (.slice (some ⟨gs, 0, none⟩) s.length sc')).setCell ⟨w.heap.size, 4, none⟩ (.slice (some ⟨gr, 0, none⟩) r.length rc')).setCell ⟨w.heap.size, 1, none⟩ (.bool true) := ⟨_, rfl⟩
  have hB3 : Below w.heap.size w W3 := by rw [hW3]; exact (((((hB2.setCell (p := ⟨w.heap.size, 0, none⟩) (by simp) _).setCell (p := ⟨w.heap.size, 1, none⟩) (by simp) _).setCell (p := ⟨w.heap.size, 2, none⟩) (by simp) _).setCell (p := ⟨w.heap.size, 3, none⟩) (by simp) _).setCell (p := ⟨w.heap.size, 4, none⟩) (by simp) _).setCell (p := ⟨w.heap.size, 1, none⟩) (by simp) _
  have A3 : Hid (Bx W3 w.heap.size [.int .i64 kap, .bool true, .slice (some ⟨gb, 0, none⟩) b.length bc', .slice (some ⟨gs, 0, none⟩) s.length sc', .slice (some ⟨gr, 0, none⟩) r.length rc']) := by rw [hW3]; exact (((((A2.out.set 0 _).set 1 _).set 2 _).set 3 _).set 4 _).set 1 _
  have R3 : Hid (Bx W3 (w.heap.size + 1) [.int .i64 0, .bool false, .slice none 0 0, .slice none 0 0, .slice none 0 0]) := by rw [hW3]; exact (((((R2.out.other (a := ⟨w.heap.size, 0, none⟩) (by simp) _).other (a := ⟨w.heap.size, 1, none⟩) (by simp) _).other (a := ⟨w.heap.size, 2, none⟩) (by simp) _).other (a := ⟨w.heap.size, 3, none⟩) (by simp) _).other (a := ⟨w.heap.size, 4, none⟩) (by simp) _).other (a := ⟨w.heap.size, 1, none⟩) (by simp) _
  have O3 : Hid (OChan w1.heap.size W3 gb bc' b gs sc' s gr rc' r) := by rw [hW3]; exact (((((hO2.setBelow (a := ⟨w.heap.size, 0, none⟩) (by dsimp only; omega) _).setBelow (a := ⟨w.heap.size, 1, none⟩) (by dsimp only; omega) _).setBelow (a := ⟨w.heap.size, 2, none⟩) (by dsimp only; omega) _).setBelow (a := ⟨w.heap.size, 3, none⟩) (by dsimp only; omega) _).setBelow (a := ⟨w.heap.size, 4, none⟩) (by dsimp only; omega) _).setBelow (a := ⟨w.heap.size, 1, none⟩) (by dsimp only; omega) _
  have hz3 : W3.heap.size = w2.heap.size := by rw [hW3]; simp [World.setCell]
  have HW3 := hid hW3
  obtain ⟨W4, hW4⟩ : ∃ W4, W4 = W3.alloc (.cells #[.slice (some ⟨gr, 0, none⟩) r.length rc', .slice (some ⟨gs, 0, none⟩) s.length sc'] 43) := ⟨_, rfl⟩
  have hb4 : Below W3.heap.size W3 W4 := by rw [hW4]; exact below1 _ _
  have hB4 := hB3.trans (hb4.mono hB3.size)
  have A4 := hid (A3.out.later hb4)
  have R4 := hid (R3.out.later hb4)
  have O4 := hid (O3.out.below hb4)
  have C4 : Hid (Bx W4 w2.heap.size [.slice (some ⟨gr, 0, none⟩) r.length rc', .slice (some ⟨gs, 0, none⟩) s.length sc']) := by rw [hW4, ← hz3]; exact Bx.new [.slice (some ⟨gr, 0, none⟩) r.length rc', .slice (some ⟨gs, 0, none⟩) s.length sc'] _ rfl
  have HW4 := hid hW4
  have hs4 := C4.out.size
  obtain ⟨pA, hpA⟩ : ∃ pA, pA = w2.heap.size := ⟨_, rfl⟩
  rw [← hpA] at C4 hs4
  have hI4 := O4.out.in
  have G4 := hid (own_frs O4.out.1)
  have hrow : Hid (∀ k, k < 2 → ∃ gx cx x, W4.cell? ⟨pA, k, none⟩ = some (.slice (some ⟨gx, 0, none⟩) x.length cx) ∧ kW.In W4.heap.size W4 (some ⟨gx, 0, none⟩) x ∧ preC r s (k + 1) = preC r s k ++ x ∧ x.length ≤ 1048576 ∧ (preC r s k).length ≤ 1048576) := fun k hk => by
    rcases (show k = 0 ∨ k = 1 by omega) with rfl | rfl
    · exact ⟨gr, rc', r, C4.out.c 0 rfl, hI4.2.2, by simp [preC], hlr, by simp [preC]⟩
    · exact ⟨gs, sc', s, C4.out.c 1 rfl, hI4.2.1, by simp [preC], hls, by simpa [preC] using hlr⟩
  rw [← HW3.out, ← HW4.out, ← hpA]
  clear hpA hW3 hW4 hb4 A2 R2 A3 R3 O3 hO2 HW3 HW4 a0 a1 a2 a3 a4 f0 f1 f2 f3 f4 hB2 hB3 hI4 az
  go_loopw [5, 26] (fun u i wr => ∃ (k : Nat) (v : Value), v = u ∧ k ≤ 2 ∧ i = .int .i64 (k : Int) ∧ Hid (kK.Own W4.heap.size wr v (wokeL (preC r s k))) ∧ Below W4.heap.size W4 wr) (fun _ i _ => 2 - (intOf i).toNat)
  case atStart => exact ⟨0, _, rfl, by omega, rfl, Kind.Own.nil _ _ _, Below.refl _ _⟩
  case round =>
    obtain ⟨k, v, rfl, hk, rfl, hO, hB⟩ := hrel
    by_cases hlt : k < 2
    · obtain ⟨gx, cx, x, hcell, hin, hpre, hxl, hpl⟩ := hrow.out k hlt
      obtain ⟨Pk, hPk⟩ : ∃ Pk, Pk = preC r s k := ⟨_, rfl⟩
      rw [← hPk] at hO hpre hpl
      have HP := hid hpre
      have e1 := (hB.cell (p := ⟨pA, k, none⟩) (by simpa using hs4)).trans hcell
      have hkl : (k : Int) < 2 := by omega
      clear hpre hPk hcell
      go_wp2
      clear e1
      go_loopw [5, 32] (fun u i wr2 => ∃ (j : Nat) (v2 : Value), v2 = u ∧ j ≤ x.length ∧ i = .int .i64 (j : Int) ∧ Hid (kK.Own W4.heap.size wr2 v2 (wokeL (Pk ++ x.take j))) ∧ Below W4.heap.size W4 wr2) (fun _ i _ => x.length - (intOf i).toNat)
      case atStart => exact ⟨0, _, rfl, Nat.zero_le _, rfl, by simpa using hO, hB⟩
      case round =>
        clear hO hB
        obtain ⟨j, v2, rfl, hj, rfl, hO, hB⟩ := hrel
        by_cases hlj : j < x.length
        · obtain ⟨bb, off, ebb, hbb, hc⟩ := kW_at hin hlj
          simp at ebb
          obtain ⟨rfl, rfl⟩ := ebb
          have d1 := (hB.cell (p := ⟨gx, 0 + j * 3, none⟩) hbb).trans (hc j hlj).1
          have d2 := (hB.cell (p := ⟨gx, 0 + j * 3 + 1, none⟩) hbb).trans (hc j hlj).2.1
          have d3 := (hB.cell (p := ⟨gx, 0 + j * 3 + 2, none⟩) hbb).trans (hc j hlj).2.2
          simp only [Nat.zero_add] at d1 d2 d3
          have htk := take_succ_el hlj
          obtain ⟨⟨y1, y2, y3⟩, ey⟩ : ∃ v, v = el x j := ⟨_, rfl⟩
          rw [← ey] at d1 d2 d3 htk
          have HS : Hid (wokeL (Pk ++ x.take (j + 1)) = wokeL (Pk ++ x.take j) ++ [(y1, y2, 0, false)]) := by rw [Hid, htk, ← List.append_assoc, wokeL_app]; rfl
          clear ey hc htk
          dsimp only at d1 d2 d3
          have hs := hB.size
          have HA : Hid (kK.Own W4.heap.size ((wr.alloc (.cells #[.int .i64 y1, .int .i64 y2, .int .i64 y3] 70)).alloc (.cells #[.int .i64 y1, .int .i64 y2, .int .i64 0, .bool false] 58)) v2 (wokeL (Pk ++ x.take j))) := (hO.out.below (below1 _ _)).below (below1 _ _)
          have HN : Hid (kK.In (wr.heap.size + 1 + 1) ((wr.alloc (.cells #[.int .i64 y1, .int .i64 y2, .int .i64 y3] 70)).alloc (.cells #[.int .i64 y1, .int .i64 y2, .int .i64 0, .bool false] 58)) (some ⟨wr.heap.size + 1, 0, none⟩) [(y1, y2, 0, false)]) := kK_one (by omega) (by simp) (by simp) (by simp) (by simp)
          have hll : (wokeL (Pk ++ x.take j)).length + 1 ≤ 4194304 := by rw [wokeL_len]; simp; omega
          have hBa : Below W4.heap.size W4 ((wr.alloc (.cells #[.int .i64 y1, .int .i64 y2, .int .i64 y3] 70)).alloc (.cells #[.int .i64 y1, .int .i64 y2, .int .i64 0, .bool false] 58)) := Below.allocS (Below.allocS hB _) _
          clear hO
          go_wp2_with (at_builtin; refine Kind.app kK_ok ((wr.alloc (.cells #[.int .i64 y1, .int .i64 y2, .int .i64 y3] 70)).alloc (.cells #[.int .i64 y1, .int .i64 y2, .int .i64 0, .bool false] 58)) rfl (.tmp 36) (.tmp 42) rfl W4.heap.size v2 (wokeL (Pk ++ x.take j)) rfl HA.out (by simp; omega) (some ⟨wr.heap.size + 1, 0, none⟩) [(y1, y2, 0, false)] 1 1 rfl rfl (by simp) _ HN.out (by simpa using hll) ?_; intro v' w' hO' hB' hG' hn'; have hB2 : Below W4.heap.size W4 w' := hBa.trans (hB'.mono (by omega)); have HO' : Hid (kK.Own W4.heap.size w' v' (wokeL (Pk ++ x.take (j + 1)))) := (by rw [Hid, HS.out]; exact hO'); clear hO' hB' hG' hn')
          go_roundw
          case rel => exact ⟨j + 1, v', rfl, by omega, by go_num, HO', hB2⟩
          case measure => simp [intOf]; omega
        · obtain rfl : j = x.length := by omega
          rw [List.take_length, ← HP.out] at hO
          go_wp2
          go_roundw
          case rel => exact ⟨k + 1, _, rfl, by omega, by go_num, hO, hB⟩
          case measure => simp [intOf]; omega
    · obtain rfl : k = 2 := by omega
      have hO2 : kK.Own W4.heap.size wr v (wokeL (r ++ s)) := by simpa [preC] using hO.out
      obtain ⟨qo, qc, rfl, _, hF⟩ := hO2.fresh
      have HF := hid hF
      have A5 := hid (A4.out.later hB)
      have R5 := hid (R4.out.later hB)
      have G5 := hid (G4.out.later hB)
      have hB5 := hB4.trans (hB.mono hB4.size)
      have hz5 := hB.size
      have hs5 : w.heap.size + 1 + 1 ≤ W4.heap.size := by have := R4.out.size; omega
      have a0 := A5.out.c 0 rfl
      have a1 := A5.out.c 1 rfl
      have a2 := A5.out.c 2 rfl
      have a3 := A5.out.c 3 rfl
      have a4 := A5.out.c 4 rfl
      have f3 := A5.out.f 3 rfl
      have f4 := A5.out.f 4 rfl
      have r0 := R5.out.c 0 rfl
      have r1 := R5.out.c 1 rfl
      have r2 := R5.out.c 2 rfl
      have r3 := R5.out.c 3 rfl
      have r4 := R5.out.c 4 rfl
      have h0 := R5.out.f 0 rfl
      have h1 := R5.out.f 1 rfl
      have h2 := R5.out.f 2 rfl
      have h3 := R5.out.f 3 rfl
      have h4 := R5.out.f 4 rfl
      have rz := R5.out.size
      have az := A5.out.size
      clear hF hO hO2
      go_wp2
      refine bodyPost_ret (v := .tuple #[.agg #[.int .i64 kap, .bool true, .slice (some ⟨gb, 0, none⟩) b.length bc', .slice none 0 0, .slice none 0 0], .slice qo (wokeL (r ++ s)).length qc, .int .i64 0]) (by simp [results, Try.results18, go_sem, r0, r1, r2, r3, r4]) rfl ⟨⟨_, _, qo, qc, rfl, ?_, ?_⟩, ?_⟩
      · exact Kind.Fresh.wide (((((((G5.out.setBelow (a := ⟨w.heap.size, 4, none⟩) (by dsimp only; omega) _).setBelow (a := ⟨w.heap.size, 3, none⟩) (by dsimp only; omega) _).setBelow (a := ⟨w.heap.size + 1, 0, none⟩) (by dsimp only; omega) _).setBelow (a := ⟨w.heap.size + 1, 1, none⟩) (by dsimp only; omega) _).setBelow (a := ⟨w.heap.size + 1, 2, none⟩) (by dsimp only; omega) _).setBelow (a := ⟨w.heap.size + 1, 3, none⟩) (by dsimp only; omega) _).setBelow (a := ⟨w.heap.size + 1, 4, none⟩) (by dsimp only; omega) _) (by omega) (by simp [World.setCell]; omega)
      · exact Kind.Fresh.wide (((((((HF.out.setBelow (a := ⟨w.heap.size, 4, none⟩) (by dsimp only; omega) _).setBelow (a := ⟨w.heap.size, 3, none⟩) (by dsimp only; omega) _).setBelow (a := ⟨w.heap.size + 1, 0, none⟩) (by dsimp only; omega) _).setBelow (a := ⟨w.heap.size + 1, 1, none⟩) (by dsimp only; omega) _).setBelow (a := ⟨w.heap.size + 1, 2, none⟩) (by dsimp only; omega) _).setBelow (a := ⟨w.heap.size + 1, 3, none⟩) (by dsimp only; omega) _).setBelow (a := ⟨w.heap.size + 1, 4, none⟩) (by dsimp only; omega) _) (by omega) (by simp [World.setCell])
      · exact (((((((hB5.setCell (p := ⟨w.heap.size, 4, none⟩) (by dsimp only; omega) _).setCell (p := ⟨w.heap.size, 3, none⟩) (by dsimp only; omega) _).setCell (p := ⟨w.heap.size + 1, 0, none⟩) (by dsimp only; omega) _).setCell (p := ⟨w.heap.size + 1, 1, none⟩) (by dsimp only; omega) _).setCell (p := ⟨w.heap.size + 1, 2, none⟩) (by dsimp only; omega) _).setCell (p := ⟨w.heap.size + 1, 3, none⟩) (by dsimp only; omega) _).setCell (p := ⟨w.heap.size + 1, 4, none⟩) (by dsimp only; omega) _)
end
section
open Go.RowKit

set_option maxRecDepth 100000 in
set_option maxHeartbeats 8000000 in
theorem implCloseC_any (kap : Int) (bo : Option Addr) (bc : Nat) (b : List Int) (so : Option Addr) (sc : Nat) (s : List (Int × Int × Int)) (ro : Option Addr) (rc : Nat) (r : List (Int × Int × Int)) (w : World) (hlb : b.length ≤ 1048576) (hls : s.length ≤ 1048576) (hlr : r.length ≤ 1048576) (hz : InChan w.heap.size w bo b so s ro r) (hg : goodP (kap, true, b, s, r) = true) :
    Calls Try.prog 23 #[.agg #[.int .i64 kap, .bool true, .slice bo b.length bc, .slice so s.length sc, .slice ro r.length rc]] w fun e w' => (∃ bo' bc' so' sc' ro' rc', e = .returned (.tuple #[.agg #[.int .i64 kap, .bool true, .slice bo' b.length bc', .slice so' s.length sc', .slice ro' r.length rc'], .slice none 0 0, .int .i64 3])) ∧ Below w.heap.size w w' := by
  obtain ⟨V0, hV0⟩ : ∃ V0, V0 = (w.alloc (.cells #[.int .i64 kap, .bool true, .slice bo b.length bc, .slice so s.length sc, .slice ro r.length rc] 45)).alloc (.cells #[.int .i64 0, .bool false, .slice none 0 0, .slice none 0 0, .slice none 0 0] 45) := ⟨_, rfl⟩
  have hB0 : Below w.heap.size w V0 := by rw [hV0]; exact below2 _ _ _
  have A0 : Hid (Bx V0 w.heap.size [.int .i64 kap, .bool true, .slice bo b.length bc, .slice so s.length sc, .slice ro r.length rc]) := by rw [hV0]; exact (Bx.new [.int .i64 kap, .bool true, .slice bo b.length bc, .slice so s.length sc, .slice ro r.length rc] _ rfl).alloc _
  have R0 : Hid (Bx V0 (w.heap.size + 1) [.int .i64 0, .bool false, .slice none 0 0, .slice none 0 0, .slice none 0 0]) := by rw [hV0]; exact Bx.new [.int .i64 0, .bool false, .slice none 0 0, .slice none 0 0, .slice none 0 0] _ (by simp)
  have HV0 := hid hV0
  clear hV0
  go_enter Try.func23, Try.ntmps23
  go_wp2_with fail
  rw [← HV0.out]
  refine (implGoodC_is kap true bo bc b so sc s ro rc r V0 true hlb hls hlr (hz.later hB0) hg).mono ?_
  rintro e w1 ⟨rfl, hb1⟩
  have hB1 := hB0.trans (hb1.mono hB0.size)
  have A1 := hid (A0.out.later hb1)
  have R1 := hid (R0.out.later hb1)
  have a0 := A1.out.c 0 rfl
  have af0 := A1.out.f 0 rfl
  have a1 := A1.out.c 1 rfl
  have af1 := A1.out.f 1 rfl
  have a2 := A1.out.c 2 rfl
  have af2 := A1.out.f 2 rfl
  have a3 := A1.out.c 3 rfl
  have af3 := A1.out.f 3 rfl
  have a4 := A1.out.c 4 rfl
  have af4 := A1.out.f 4 rfl
  have az := A1.out.size
  clear hb1 A0 R0 HV0
  go_wp2_with fail
  clear a0 a1 a2 a3 a4 af0 af1 af2 af3 af4 az
  refine (copyChan_any kap true bo bc b so sc s ro rc r w1 hlb hls hlr (hz.later hB1)).mono ?_
  rintro e w2 ⟨⟨bo', bc', so', sc', ro', rc', rfl, _⟩, hb2⟩
  have hB2 := hB1.trans (hb2.mono hB1.size)
  have A2 := hid (A1.out.later hb2)
  have R2 := hid (R1.out.later hb2)
  have a0 := A2.out.c 0 rfl
  have af0 := A2.out.f 0 rfl
  have a1 := A2.out.c 1 rfl
  have af1 := A2.out.f 1 rfl
  have a2 := A2.out.c 2 rfl
  have af2 := A2.out.f 2 rfl
  have a3 := A2.out.c 3 rfl
  have af3 := A2.out.f 3 rfl
  have a4 := A2.out.c 4 rfl
  have af4 := A2.out.f 4 rfl
  have az := A2.out.size
  have r0 := R2.out.c 0 rfl
  have rf0 := R2.out.f 0 rfl
  have r1 := R2.out.c 1 rfl
  have rf1 := R2.out.f 1 rfl
  have r2 := R2.out.c 2 rfl
  have rf2 := R2.out.f 2 rfl
  have r3 := R2.out.c 3 rfl
  have rf3 := R2.out.f 3 rfl
  have r4 := R2.out.c 4 rfl
  have rf4 := R2.out.f 4 rfl
  have rz := R2.out.size
  clear hb2 A1 R1
  go_wp2
  refine bodyPost_ret (v := .tuple #[.agg #[.int .i64 kap, .bool true, .slice bo' b.length bc', .slice so' s.length sc', .slice ro' r.length rc'], .slice none 0 0, .int .i64 3]) (by simp [results, Try.results23, go_sem, r0, r1, r2, r3, r4]) rfl ⟨⟨_, _, _, _, _, _, rfl⟩, ?_⟩
  exact (((((hB2.setCell (p := ⟨w.heap.size + 1, 0, none⟩) (by dsimp only; omega) _).setCell (p := ⟨w.heap.size + 1, 1, none⟩) (by dsimp only; omega) _).setCell (p := ⟨w.heap.size + 1, 2, none⟩) (by dsimp only; omega) _).setCell (p := ⟨w.heap.size + 1, 3, none⟩) (by dsimp only; omega) _).setCell (p := ⟨w.heap.size + 1, 4, none⟩) (by dsimp only; omega) _)
set_option maxRecDepth 100000 in
set_option maxHeartbeats 8000000 in
theorem specCloseC_any (kap : Int) (bo : Option Addr) (bc : Nat) (b : List Int) (so : Option Addr) (sc : Nat) (s : List (Int × Int × Int)) (ro : Option Addr) (rc : Nat) (r : List (Int × Int × Int)) (w : World) (hlb : b.length ≤ 1048576) (hls : s.length ≤ 1048576) (hlr : r.length ≤ 1048576) (hz : InChan w.heap.size w bo b so s ro r) (hg : goodP (kap, true, b, s, r) = true) :
    Calls Try.prog 18 #[.agg #[.int .i64 kap, .bool true, .slice bo b.length bc, .slice so s.length sc, .slice ro r.length rc]] w fun e w' => (∃ bo' bc' so' sc' ro' rc', e = .returned (.tuple #[.agg #[.int .i64 kap, .bool true, .slice bo' b.length bc', .slice so' s.length sc', .slice ro' r.length rc'], .slice none 0 0, .int .i64 3])) ∧ Below w.heap.size w w' := by
  obtain ⟨V0, hV0⟩ : ∃ V0, V0 = (w.alloc (.cells #[.int .i64 kap, .bool true, .slice bo b.length bc, .slice so s.length sc, .slice ro r.length rc] 45)).alloc (.cells #[.int .i64 0, .bool false, .slice none 0 0, .slice none 0 0, .slice none 0 0] 45) := ⟨_, rfl⟩
  have hB0 : Below w.heap.size w V0 := by rw [hV0]; exact below2 _ _ _
  have A0 : Hid (Bx V0 w.heap.size [.int .i64 kap, .bool true, .slice bo b.length bc, .slice so s.length sc, .slice ro r.length rc]) := by rw [hV0]; exact (Bx.new [.int .i64 kap, .bool true, .slice bo b.length bc, .slice so s.length sc, .slice ro r.length rc] _ rfl).alloc _
  have R0 : Hid (Bx V0 (w.heap.size + 1) [.int .i64 0, .bool false, .slice none 0 0, .slice none 0 0, .slice none 0 0]) := by rw [hV0]; exact Bx.new [.int .i64 0, .bool false, .slice none 0 0, .slice none 0 0, .slice none 0 0] _ (by simp)
  have HV0 := hid hV0
  clear hV0
  go_enter Try.func18, Try.ntmps18
  go_wp2_with fail
  rw [← HV0.out]
  refine (specGoodC_is kap true bo bc b so sc s ro rc r V0 true hlb hls hlr (hz.later hB0) hg).mono ?_
  rintro e w1 ⟨rfl, hb1⟩
  have hB1 := hB0.trans (hb1.mono hB0.size)
  have A1 := hid (A0.out.later hb1)
  have R1 := hid (R0.out.later hb1)
  have a0 := A1.out.c 0 rfl
  have af0 := A1.out.f 0 rfl
  have a1 := A1.out.c 1 rfl
  have af1 := A1.out.f 1 rfl
  have a2 := A1.out.c 2 rfl
  have af2 := A1.out.f 2 rfl
  have a3 := A1.out.c 3 rfl
  have af3 := A1.out.f 3 rfl
  have a4 := A1.out.c 4 rfl
  have af4 := A1.out.f 4 rfl
  have az := A1.out.size
  clear hb1 A0 R0 HV0
  go_wp2_with fail
  clear a0 a1 a2 a3 a4 af0 af1 af2 af3 af4 az
  refine (ownChan_any kap true bo bc b so sc s ro rc r w1 hlb hls hlr (hz.later hB1)).mono ?_
  rintro e w2 ⟨⟨gb, bc', gs, sc', gr, rc', rfl, _⟩, hb2⟩
  have hB2 := hB1.trans (hb2.mono hB1.size)
  have A2 := hid (A1.out.later hb2)
  have R2 := hid (R1.out.later hb2)
  have a0 := A2.out.c 0 rfl
  have af0 := A2.out.f 0 rfl
  have a1 := A2.out.c 1 rfl
  have af1 := A2.out.f 1 rfl
  have a2 := A2.out.c 2 rfl
  have af2 := A2.out.f 2 rfl
  have a3 := A2.out.c 3 rfl
  have af3 := A2.out.f 3 rfl
  have a4 := A2.out.c 4 rfl
  have af4 := A2.out.f 4 rfl
  have az := A2.out.size
  have r0 := R2.out.c 0 rfl
  have rf0 := R2.out.f 0 rfl
  have r1 := R2.out.c 1 rfl
  have rf1 := R2.out.f 1 rfl
  have r2 := R2.out.c 2 rfl
  have rf2 := R2.out.f 2 rfl
  have r3 := R2.out.c 3 rfl
  have rf3 := R2.out.f 3 rfl
  have r4 := R2.out.c 4 rfl
  have rf4 := R2.out.f 4 rfl
  have rz := R2.out.size
  clear hb2 A1 R1
  go_wp2
  refine bodyPost_ret (v := .tuple #[.agg #[.int .i64 kap, .bool true, .slice (some ⟨gb, 0, none⟩) b.length bc', .slice (some ⟨gs, 0, none⟩) s.length sc', .slice (some ⟨gr, 0, none⟩) r.length rc'], .slice none 0 0, .int .i64 3]) (by simp [results, Try.results18, go_sem, r0, r1, r2, r3, r4]) rfl ⟨⟨_, _, _, _, _, _, rfl⟩, ?_⟩
  exact ((((((((((hB2.setCell (p := ⟨w.heap.size, 0, none⟩) (by dsimp only; omega) _).setCell (p := ⟨w.heap.size, 1, none⟩) (by dsimp only; omega) _).setCell (p := ⟨w.heap.size, 2, none⟩) (by dsimp only; omega) _).setCell (p := ⟨w.heap.size, 3, none⟩) (by dsimp only; omega) _).setCell (p := ⟨w.heap.size, 4, none⟩) (by dsimp only; omega) _).setCell (p := ⟨w.heap.size + 1, 0, none⟩) (by dsimp only; omega) _).setCell (p := ⟨w.heap.size + 1, 1, none⟩) (by dsimp only; omega) _).setCell (p := ⟨w.heap.size + 1, 2, none⟩) (by dsimp only; omega) _).setCell (p := ⟨w.heap.size + 1, 3, none⟩) (by dsimp only; omega) _).setCell (p := ⟨w.heap.size + 1, 4, none⟩) (by dsimp only; omega) _)
end
end Go.Proofs.Ytdjdbcfcccbhpaa
