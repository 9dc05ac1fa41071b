/- Ending all that is told, and all below: the program. No conditions but those written. -/
import Derived.Test.YtcdkdigafcfgmaaSh
namespace Go.Proofs.Ytcdkdigafcfgmaa
open Go.RowKit

set_option maxRecDepth 10000 in
set_option maxHeartbeats 8000000 in
theorem endAllIs_any (ao : Option Addr) (cap : Nat) (l : List Sc) (why kv : Int) (pk : Nat) (w : World) (hl : l.length ≤ 1048576) (hg : scopesB l = true) (hz : kS.In w.heap.size w ao l) (hk : w.cell? ⟨pk, 0, none⟩ = some (.int .i64 kv)) :
    Calls Try.prog 96 #[.slice ao l.length cap, .int .i64 why, .func (.func 97) #[] #[.pointer (some ⟨pk, 0, none⟩)]] w fun e w' => (∃ o c o' c', e = .returned (.tuple #[.slice o l.length c, .slice o' (endTo (isB kv) why l l.length).2.length c']) ∧ kS.Fresh w.heap.size w'.heap.size w' o c (endTo (isB kv) why l l.length).1 ∧ kI.Fresh w.heap.size w'.heap.size w' o' c' (endTo (isB kv) why l l.length).2) ∧ Below w.heap.size w w' := by
  have hpk : pk < w.heap.size := World.block_lt_of_cell? _ _ hk
  have HG : Hid (∀ j, j < l.length → scB l j = true) := (scopesB_good hg).2
  clear hg
  go_enter Try.func96, Try.ntmps96
  go_wp2_with fail
  refine (branchesOf_any ao cap l w hl hz).mono ?_
  rintro e w1 ⟨⟨v, rfl, hO⟩, hB1⟩
  obtain ⟨bo, bc, rfl, _, hF⟩ := hO.fresh
  have HF0 := hid hF
  have hs1 := hB1.size
  clear hO hF
  go_wp2
  go_loopw [9, 16] (fun u i wr => ∃ (k : Nat) (v : Value), v = u ∧ k ≤ l.length ∧ i = .int .i64 k ∧ Hid (kI.Own w1.heap.size wr v (endTo (isB kv) why l k).2) ∧ Hid (kB.Fresh w.heap.size w1.heap.size wr bo bc (endTo (isB kv) why l k).1) ∧ Below w.heap.size w wr ∧ w1.heap.size ≤ wr.heap.size) (fun _ i _ => l.length - (intOf i).toNat)
  case atStart => exact ⟨0, _, rfl, Nat.zero_le _, rfl, Kind.Own.nil _ _ _, HF0, hB1, Nat.le_refl _⟩
  case round =>
    obtain ⟨k, v, rfl, hk', rfl, hO, hF, hB, hsz⟩ := hrel
    by_cases hlt : k < l.length
    · have hlen := endTo_len (isB kv) why l k
      obtain ⟨g, rfl, hg1, hg2, _, _⟩ := hF.out.at (by rw [hlen]; omega)
      have hkl : k < (endTo (isB kv) why l k).1.length := by rw [hlen]; exact hlt
      obtain ⟨⟨y1, y2, y3⟩, ey⟩ : ∃ v, v = el l k := ⟨_, rfl⟩
      have HY : Hid (el l k = (y1, y2, y3)) := ey.symm
      have hel : el (endTo (isB kv) why l k).1 k = (y1, y2, y3) := by rw [endTo_rest _ _ _ _ _ (Nat.le_refl _), ← ey]
      have HEL := hid hel
      have d1 : wr.cell? ⟨g, k * 3, none⟩ = some (.int .i64 y2) := (hF.out.cells k hkl 0 (by decide)).1.trans (by rw [hel]; rfl)
      have d2 : wr.cell? ⟨g, k * 3 + 1, none⟩ = some (.int .i64 y3) := (hF.out.cells k hkl 1 (by decide)).1.trans (by rw [hel]; rfl)
      have d3 : wr.cell? ⟨g, k * 3 + 2, none⟩ = some (.int .i64 y1) := (hF.out.cells k hkl 2 (by decide)).1.trans (by rw [hel]; rfl)
      have hsc := HG.out k hlt
      have hup : upB k y1 = true := by
        rw [scB, ← ey] at hsc
        revert hsc; cases upB (↑k) y1 <;> simp
      have HUP : Hid (y1 = -1 ∨ (0 ≤ y1 ∧ y1 < (endTo (isB kv) why l k).1.length)) := by
        rcases upB_in hup with h | h
        · exact .inl h
        · exact .inr ⟨h.1, by rw [hlen]; omega⟩
      clear ey hel hsc hup
      have hn := below1 wr (.cells #[.int .i64 y2, .int .i64 y3, .int .i64 y1] 112)
      have X0 : Bx (wr.alloc (.cells #[.int .i64 y2, .int .i64 y3, .int .i64 y1] 112)) wr.heap.size [.int .i64 y2, .int .i64 y3, .int .i64 y1] := Bx.new _ _ rfl
      have hB0 := Below.allocS hB (.cells #[.int .i64 y2, .int .i64 y3, .int .i64 y1] 112)
      have ck := (hB0.cell (p := ⟨pk, 0, none⟩) hpk).trans hk
      have HL : Hid (l.length = (endTo (isB kv) why l k).1.length) := hlen.symm
      clear hlen hkl
      obtain ⟨fx, hfx⟩ : ∃ x, isB kv k (y1, y2, y3) = x := ⟨_, rfl⟩
      have HFX := hid hfx
      clear hfx
      cases fx
      · -- not told
        obtain ⟨ax, hax⟩ : ∃ x, aboveB (endTo (isB kv) why l k).1 y1 = x := ⟨_, rfl⟩
        have HAX := hid hax
        clear hax
        go_wp2_with fail
        refine (is_is kv k y1 y2 y3 pk _ false ck HFX.out).mono ?_
        rintro e w2 ⟨rfl, hb2⟩
        have hb3 := hn.trans (hb2.mono (by simp))
        have X2 := X0.later hb2
        have x0 := X2.c 0 rfl
        have x1 := X2.c 1 rfl
        have x2 := X2.c 2 rfl
        have HI : Hid (kB.In w2.heap.size w2 (some ⟨g, 0, none⟩) (endTo (isB kv) why l k).1) := (hF.out.later hb3).in
        clear hb2 X0
        go_wp2_with fail
        rw [HL.out]
        refine (endedAbove_is (some ⟨g, 0, none⟩) bc (endTo (isB kv) why l k).1 y1 w2 ax HUP.out HI.out HAX.out).mono ?_
        rw [← HL.out]
        rintro e w3 ⟨rfl, hb4⟩
        have hb5 := hb3.trans (hb4.mono hb3.size)
        have hB5 := hB.trans (hb5.mono hB.size)
        have hs5 := hb5.size
        have F5 := hid (hF.out.later hb5)
        have O5 := hid (hO.out.below hb5)
        clear hb4 hb3 x0 x1 x2 HI X2 hb5
        cases ax
        · have HE : Hid (endTo (isB kv) why l (k + 1) = endTo (isB kv) why l k) := endTo_no HY.out (.inl (by rw [HFX.out, HAX.out]; rfl))
          go_wp2
          go_roundw
          case rel => exact ⟨k + 1, v, rfl, by omega, by go_num, by rw [HE.out]; exact O5, by rw [HE.out]; exact F5, hB5, by omega⟩
          case measure => simp [intOf]; omega
        · have e1 : w3.cell? ⟨g, k * 3, none⟩ = some (.int .i64 y2) := (F5.out.cells k (by rw [← HL.out]; exact hlt) 0 (by decide)).1.trans (by rw [HEL.out]; rfl)
          have e2 : w3.cell? ⟨g, k * 3 + 1, none⟩ = some (.int .i64 y3) := (F5.out.cells k (by rw [← HL.out]; exact hlt) 1 (by decide)).1.trans (by rw [HEL.out]; rfl)
          have e3 : w3.frozen? ⟨g, k * 3 + 1, none⟩ = false := (F5.out.cells k (by rw [← HL.out]; exact hlt) 1 (by decide)).2
          by_cases hy3 : y3 = 0
          · subst hy3
            have HE : Hid (endTo (isB kv) why l (k + 1) = ((endTo (isB kv) why l k).1.set k (y1, y2, why), (endTo (isB kv) why l k).2 ++ [(k : Int)])) := endTo_yes HY.out (by rw [HFX.out, HAX.out]; rfl)
            clear d1 d2 d3 ck
            go_wp2_with fail
            refine (endPtr_yes g (k * 3) y2 why w3 e1 e2 e3).mono ?_
            rintro e w4 ⟨rfl, w4', hb4, rfl⟩
            have hB6 : Below w.heap.size w (w4'.setCell ⟨g, k * 3 + 1, none⟩ (.int .i64 why)) := (hB5.trans (hb4.mono hB5.size)).setCell (p := ⟨g, k * 3 + 1, none⟩) hg1 _
            have hs6 := hb4.size
            have F6 : Hid (kB.Fresh w.heap.size w1.heap.size (w4'.setCell ⟨g, k * 3 + 1, none⟩ (.int .i64 why)) (some ⟨g, 0, none⟩) bc ((endTo (isB kv) why l k).1.set k (y1, y2, why))) := (F5.out.later hb4).set k (by rw [← HL.out]; exact hlt) 1 (by decide) (.int .i64 why) (y1, y2, why) (by rw [HEL.out]; rfl)
            have O6 : Hid (kI.Own w1.heap.size (w4'.setCell ⟨g, k * 3 + 1, none⟩ (.int .i64 why)) v (endTo (isB kv) why l k).2) := (O5.out.below hb4).setBelow (by simpa using hg2) _
            obtain ⟨W6, hW6⟩ : ∃ W6, W6 = w4'.setCell ⟨g, k * 3 + 1, none⟩ (.int .i64 why) := ⟨_, rfl⟩
            have hs7 : w1.heap.size ≤ W6.heap.size := by rw [hW6]; simp; omega
            rw [← hW6] at hB6 F6 O6 ⊢
            clear hW6 hb4 F5 O5 e1 e2 e3
            have HA : Hid (kI.Own w1.heap.size (W6.alloc (.cells #[.int .i64 (k : Int)] 3)) v (endTo (isB kv) why l k).2) := O6.out.below (below1 _ _)
            have HN : Hid (kI.In (W6.heap.size + 1) (W6.alloc (.cells #[.int .i64 (k : Int)] 3)) (some ⟨W6.heap.size, 0, none⟩) [(k : Int)]) := int_one (by omega) (by simp)
            have hll : (endTo (isB kv) why l k).2.length + 1 ≤ 4194304 := by have := endTo_num (isB kv) why l k; omega
            have F7 := hid (F6.out.later (below1 W6 (.cells #[.int .i64 (k : Int)] 3)))
            have hB7 := Below.allocS hB6 (.cells #[.int .i64 (k : Int)] 3)
            go_wp2_with (at_builtin; refine Kind.app kI_ok (W6.alloc (.cells #[.int .i64 (k : Int)] 3)) rfl (.tmp 39) (.tmp 41) rfl w1.heap.size v (endTo (isB kv) why l k).2 rfl HA.out (by simp; omega) (some ⟨W6.heap.size, 0, none⟩) [(k : Int)] 1 1 rfl rfl (by simp) _ HN.out hll ?_; intro v' w' hO' hB' hG' hn'; have hB8 : Below w.heap.size w w' := hB7.trans (hB'.mono (by omega)); have hs8 : w1.heap.size ≤ w'.heap.size := (by have := hB'.size; simp at this; omega); have F8 : Hid (kB.Fresh w.heap.size w1.heap.size w' (some ⟨g, 0, none⟩) bc (endTo (isB kv) why l (k + 1)).1) := (by rw [HE.out]; exact F7.out.keep fun i _ h2 _ => hB'.block i h2); have O8 : Hid (kI.Own w1.heap.size w' v' (endTo (isB kv) why l (k + 1)).2) := (by rw [HE.out]; exact hO'); clear hO' hB' hG' hn')
            go_roundw
            case rel => exact ⟨k + 1, v', rfl, by omega, by go_num, O8, F8, hB8, hs8⟩
            case measure => simp [intOf]; omega
          · have hy3' : (y3 == 0) = false := by simpa using hy3
            have HE : Hid (endTo (isB kv) why l (k + 1) = endTo (isB kv) why l k) := endTo_no HY.out (.inr hy3')
            have HY3 := hid hy3
            clear hy3 hy3' d1 d2 d3 ck
            go_wp2_with fail
            refine (endPtr_no g (k * 3) y2 y3 why w3 HY3.out e1 e2).mono ?_
            rintro e w4 ⟨rfl, hb4⟩
            have hB6 := hB5.trans (hb4.mono hB5.size)
            have hs6 := hb4.size
            have F6 := hid (F5.out.later hb4)
            have O6 := hid (O5.out.below hb4)
            clear hb4 F5 O5 e1 e2 e3
            go_wp2
            go_roundw
            case rel => exact ⟨k + 1, v, rfl, by omega, by go_num, by rw [HE.out]; exact O6, by rw [HE.out]; exact F6, hB6, by omega⟩
            case measure => simp [intOf]; omega
      · -- told
        go_wp2_with fail
        refine (is_is kv k y1 y2 y3 pk _ true ck HFX.out).mono ?_
        rintro e w3 ⟨rfl, hb2⟩
        have hb5 := hn.trans (hb2.mono (by simp))
        have hB5 := hB.trans (hb5.mono hB.size)
        have hs5 := hb5.size
        have F5 := hid (hF.out.later hb5)
        have O5 := hid (hO.out.below hb5)
        clear hb2 hb5 X0
        have e1 : w3.cell? ⟨g, k * 3, none⟩ = some (.int .i64 y2) := (F5.out.cells k (by rw [← HL.out]; exact hlt) 0 (by decide)).1.trans (by rw [HEL.out]; rfl)
        have e2 : w3.cell? ⟨g, k * 3 + 1, none⟩ = some (.int .i64 y3) := (F5.out.cells k (by rw [← HL.out]; exact hlt) 1 (by decide)).1.trans (by rw [HEL.out]; rfl)
        have e3 : w3.frozen? ⟨g, k * 3 + 1, none⟩ = false := (F5.out.cells k (by rw [← HL.out]; exact hlt) 1 (by decide)).2
        by_cases hy3 : y3 = 0
        · subst hy3
          have HE : Hid (endTo (isB kv) why l (k + 1) = ((endTo (isB kv) why l k).1.set k (y1, y2, why), (endTo (isB kv) why l k).2 ++ [(k : Int)])) := endTo_yes HY.out (by rw [HFX.out]; rfl)
          clear d1 d2 d3 ck
          go_wp2_with fail
          refine (endPtr_yes g (k * 3) y2 why w3 e1 e2 e3).mono ?_
          rintro e w4 ⟨rfl, w4', hb4, rfl⟩
          have hB6 : Below w.heap.size w (w4'.setCell ⟨g, k * 3 + 1, none⟩ (.int .i64 why)) := (hB5.trans (hb4.mono hB5.size)).setCell (p := ⟨g, k * 3 + 1, none⟩) hg1 _
          have hs6 := hb4.size
          have F6 : Hid (kB.Fresh w.heap.size w1.heap.size (w4'.setCell ⟨g, k * 3 + 1, none⟩ (.int .i64 why)) (some ⟨g, 0, none⟩) bc ((endTo (isB kv) why l k).1.set k (y1, y2, why))) := (F5.out.later hb4).set k (by rw [← HL.out]; exact hlt) 1 (by decide) (.int .i64 why) (y1, y2, why) (by rw [HEL.out]; rfl)
          have O6 : Hid (kI.Own w1.heap.size (w4'.setCell ⟨g, k * 3 + 1, none⟩ (.int .i64 why)) v (endTo (isB kv) why l k).2) := (O5.out.below hb4).setBelow (by simpa using hg2) _
          obtain ⟨W6, hW6⟩ : ∃ W6, W6 = w4'.setCell ⟨g, k * 3 + 1, none⟩ (.int .i64 why) := ⟨_, rfl⟩
          have hs7 : w1.heap.size ≤ W6.heap.size := by rw [hW6]; simp; omega
          rw [← hW6] at hB6 F6 O6 ⊢
          clear hW6 hb4 F5 O5 e1 e2 e3
          have HA : Hid (kI.Own w1.heap.size (W6.alloc (.cells #[.int .i64 (k : Int)] 3)) v (endTo (isB kv) why l k).2) := O6.out.below (below1 _ _)
          have HN : Hid (kI.In (W6.heap.size + 1) (W6.alloc (.cells #[.int .i64 (k : Int)] 3)) (some ⟨W6.heap.size, 0, none⟩) [(k : Int)]) := int_one (by omega) (by simp)
          have hll : (endTo (isB kv) why l k).2.length + 1 ≤ 4194304 := by have := endTo_num (isB kv) why l k; omega
          have F7 := hid (F6.out.later (below1 W6 (.cells #[.int .i64 (k : Int)] 3)))
          have hB7 := Below.allocS hB6 (.cells #[.int .i64 (k : Int)] 3)
          go_wp2_with (at_builtin; refine Kind.app kI_ok (W6.alloc (.cells #[.int .i64 (k : Int)] 3)) rfl (.tmp 39) (.tmp 41) rfl w1.heap.size v (endTo (isB kv) why l k).2 rfl HA.out (by simp; omega) (some ⟨W6.heap.size, 0, none⟩) [(k : Int)] 1 1 rfl rfl (by simp) _ HN.out hll ?_; intro v' w' hO' hB' hG' hn'; have hB8 : Below w.heap.size w w' := hB7.trans (hB'.mono (by omega)); have hs8 : w1.heap.size ≤ w'.heap.size := (by have := hB'.size; simp at this; omega); have F8 : Hid (kB.Fresh w.heap.size w1.heap.size w' (some ⟨g, 0, none⟩) bc (endTo (isB kv) why l (k + 1)).1) := (by rw [HE.out]; exact F7.out.keep fun i _ h2 _ => hB'.block i h2); have O8 : Hid (kI.Own w1.heap.size w' v' (endTo (isB kv) why l (k + 1)).2) := (by rw [HE.out]; exact hO'); clear hO' hB' hG' hn')
          go_roundw
          case rel => exact ⟨k + 1, v', rfl, by omega, by go_num, O8, F8, hB8, hs8⟩
          case measure => simp [intOf]; omega
        · have hy3' : (y3 == 0) = false := by simpa using hy3
          have HE : Hid (endTo (isB kv) why l (k + 1) = endTo (isB kv) why l k) := endTo_no HY.out (.inr hy3')
          have HY3 := hid hy3
          clear hy3 hy3' d1 d2 d3 ck
          go_wp2_with fail
          refine (endPtr_no g (k * 3) y2 y3 why w3 HY3.out e1 e2).mono ?_
          rintro e w4 ⟨rfl, hb4⟩
          have hB6 := hB5.trans (hb4.mono hB5.size)
          have hs6 := hb4.size
          have F6 := hid (F5.out.later hb4)
          have O6 := hid (O5.out.below hb4)
          clear hb4 F5 O5 e1 e2 e3
          go_wp2
          go_roundw
          case rel => exact ⟨k + 1, v, rfl, by omega, by go_num, by rw [HE.out]; exact O6, by rw [HE.out]; exact F6, hB6, by omega⟩
          case measure => simp [intOf]; omega
    · obtain rfl : k = l.length := by omega
      have HL : Hid (l.length = (endTo (isB kv) why l l.length).1.length) := (endTo_len _ _ _ _).symm
      go_wp2_with fail
      rw [HL.out]
      refine (scopesOf_any bo bc (endTo (isB kv) why l l.length).1 wr (by rw [endTo_len]; exact hl) (hF.out.in)).mono ?_
      rw [← HL.out]
      rintro e w2 ⟨⟨v2, rfl, hO2⟩, hb2⟩
      obtain ⟨so, sc, rfl, _, hF2⟩ := hO2.fresh
      obtain ⟨no, nc, rfl, _, hF3⟩ := hO.out.fresh
      have HF2 := hid hF2
      have HF3 := hid (hF3.later hb2)
      have hB2 := hB.trans (hb2.mono hB.size)
      have hs2 := hb2.size
      have hszw := hB.size
      clear hO2 hF2 hF3 hb2
      rw [← HL.out]
      go_wp2
      refine bodyPost_ret (v := .tuple #[.slice so l.length sc, .slice no (endTo (isB kv) why l l.length).2.length nc]) (by simp [results, Try.results96, go_sem]) rfl ?_
      exact ⟨⟨so, sc, no, nc, rfl, HF2.out.wide hszw (Nat.le_refl _), HF3.out.wide hs1 hs2⟩, hB2⟩
set_option maxRecDepth 10000 in
set_option maxHeartbeats 8000000 in
theorem endAllDue_any (ao : Option Addr) (cap : Nat) (l : List Sc) (why kv : Int) (pk : Nat) (w : World) (hl : l.length ≤ 1048576) (hg : scopesB l = true) (hz : kS.In w.heap.size w ao l) (hk : w.cell? ⟨pk, 0, none⟩ = some (.int .i64 kv)) :
    Calls Try.prog 96 #[.slice ao l.length cap, .int .i64 why, .func (.func 98) #[] #[.pointer (some ⟨pk, 0, none⟩)]] w fun e w' => (∃ o c o' c', e = .returned (.tuple #[.slice o l.length c, .slice o' (endTo (dueB kv) why l l.length).2.length c']) ∧ kS.Fresh w.heap.size w'.heap.size w' o c (endTo (dueB kv) why l l.length).1 ∧ kI.Fresh w.heap.size w'.heap.size w' o' c' (endTo (dueB kv) why l l.length).2) ∧ Below w.heap.size w w' := by
  have hpk : pk < w.heap.size := World.block_lt_of_cell? _ _ hk
  have HG : Hid (∀ j, j < l.length → scB l j = true) := (scopesB_good hg).2
  clear hg
  go_enter Try.func96, Try.ntmps96
  go_wp2_with fail
  refine (branchesOf_any ao cap l w hl hz).mono ?_
  rintro e w1 ⟨⟨v, rfl, hO⟩, hB1⟩
  obtain ⟨bo, bc, rfl, _, hF⟩ := hO.fresh
  have HF0 := hid hF
  have hs1 := hB1.size
  clear hO hF
  go_wp2
  go_loopw [9, 16] (fun u i wr => ∃ (k : Nat) (v : Value), v = u ∧ k ≤ l.length ∧ i = .int .i64 k ∧ Hid (kI.Own w1.heap.size wr v (endTo (dueB kv) why l k).2) ∧ Hid (kB.Fresh w.heap.size w1.heap.size wr bo bc (endTo (dueB kv) why l k).1) ∧ Below w.heap.size w wr ∧ w1.heap.size ≤ wr.heap.size) (fun _ i _ => l.length - (intOf i).toNat)
  case atStart => exact ⟨0, _, rfl, Nat.zero_le _, rfl, Kind.Own.nil _ _ _, HF0, hB1, Nat.le_refl _⟩
  case round =>
    obtain ⟨k, v, rfl, hk', rfl, hO, hF, hB, hsz⟩ := hrel
    by_cases hlt : k < l.length
    · have hlen := endTo_len (dueB kv) why l k
      obtain ⟨g, rfl, hg1, hg2, _, _⟩ := hF.out.at (by rw [hlen]; omega)
      have hkl : k < (endTo (dueB kv) why l k).1.length := by rw [hlen]; exact hlt
      obtain ⟨⟨y1, y2, y3⟩, ey⟩ : ∃ v, v = el l k := ⟨_, rfl⟩
      have HY : Hid (el l k = (y1, y2, y3)) := ey.symm
      have hel : el (endTo (dueB kv) why l k).1 k = (y1, y2, y3) := by rw [endTo_rest _ _ _ _ _ (Nat.le_refl _), ← ey]
      have HEL := hid hel
      have d1 : wr.cell? ⟨g, k * 3, none⟩ = some (.int .i64 y2) := (hF.out.cells k hkl 0 (by decide)).1.trans (by rw [hel]; rfl)
      have d2 : wr.cell? ⟨g, k * 3 + 1, none⟩ = some (.int .i64 y3) := (hF.out.cells k hkl 1 (by decide)).1.trans (by rw [hel]; rfl)
      have d3 : wr.cell? ⟨g, k * 3 + 2, none⟩ = some (.int .i64 y1) := (hF.out.cells k hkl 2 (by decide)).1.trans (by rw [hel]; rfl)
      have hsc := HG.out k hlt
      have hup : upB k y1 = true := by
        rw [scB, ← ey] at hsc
        revert hsc; cases upB (↑k) y1 <;> simp
      have HUP : Hid (y1 = -1 ∨ (0 ≤ y1 ∧ y1 < (endTo (dueB kv) why l k).1.length)) := by
        rcases upB_in hup with h | h
        · exact .inl h
        · exact .inr ⟨h.1, by rw [hlen]; omega⟩
      clear ey hel hsc hup
      have hn := below1 wr (.cells #[.int .i64 y2, .int .i64 y3, .int .i64 y1] 112)
      have X0 : Bx (wr.alloc (.cells #[.int .i64 y2, .int .i64 y3, .int .i64 y1] 112)) wr.heap.size [.int .i64 y2, .int .i64 y3, .int .i64 y1] := Bx.new _ _ rfl
      have hB0 := Below.allocS hB (.cells #[.int .i64 y2, .int .i64 y3, .int .i64 y1] 112)
      have ck := (hB0.cell (p := ⟨pk, 0, none⟩) hpk).trans hk
      have HL : Hid (l.length = (endTo (dueB kv) why l k).1.length) := hlen.symm
      clear hlen hkl
      obtain ⟨fx, hfx⟩ : ∃ x, dueB kv k (y1, y2, y3) = x := ⟨_, rfl⟩
      have HFX := hid hfx
      clear hfx
      cases fx
      · -- not told
        obtain ⟨ax, hax⟩ : ∃ x, aboveB (endTo (dueB kv) why l k).1 y1 = x := ⟨_, rfl⟩
        have HAX := hid hax
        clear hax
        go_wp2_with fail
        refine (due_is kv k y1 y2 y3 pk _ false ck HFX.out).mono ?_
        rintro e w2 ⟨rfl, hb2⟩
        have hb3 := hn.trans (hb2.mono (by simp))
        have X2 := X0.later hb2
        have x0 := X2.c 0 rfl
        have x1 := X2.c 1 rfl
        have x2 := X2.c 2 rfl
        have HI : Hid (kB.In w2.heap.size w2 (some ⟨g, 0, none⟩) (endTo (dueB kv) why l k).1) := (hF.out.later hb3).in
        clear hb2 X0
        go_wp2_with fail
        rw [HL.out]
        refine (endedAbove_is (some ⟨g, 0, none⟩) bc (endTo (dueB kv) why l k).1 y1 w2 ax HUP.out HI.out HAX.out).mono ?_
        rw [← HL.out]
        rintro e w3 ⟨rfl, hb4⟩
        have hb5 := hb3.trans (hb4.mono hb3.size)
        have hB5 := hB.trans (hb5.mono hB.size)
        have hs5 := hb5.size
        have F5 := hid (hF.out.later hb5)
        have O5 := hid (hO.out.below hb5)
        clear hb4 hb3 x0 x1 x2 HI X2 hb5
        cases ax
        · have HE : Hid (endTo (dueB kv) why l (k + 1) = endTo (dueB kv) why l k) := endTo_no HY.out (.inl (by rw [HFX.out, HAX.out]; rfl))
          go_wp2
          go_roundw
          case rel => exact ⟨k + 1, v, rfl, by omega, by go_num, by rw [HE.out]; exact O5, by rw [HE.out]; exact F5, hB5, by omega⟩
          case measure => simp [intOf]; omega
        · have e1 : w3.cell? ⟨g, k * 3, none⟩ = some (.int .i64 y2) := (F5.out.cells k (by rw [← HL.out]; exact hlt) 0 (by decide)).1.trans (by rw [HEL.out]; rfl)
          have e2 : w3.cell? ⟨g, k * 3 + 1, none⟩ = some (.int .i64 y3) := (F5.out.cells k (by rw [← HL.out]; exact hlt) 1 (by decide)).1.trans (by rw [HEL.out]; rfl)
          have e3 : w3.frozen? ⟨g, k * 3 + 1, none⟩ = false := (F5.out.cells k (by rw [← HL.out]; exact hlt) 1 (by decide)).2
          by_cases hy3 : y3 = 0
          · subst hy3
            have HE : Hid (endTo (dueB kv) why l (k + 1) = ((endTo (dueB kv) why l k).1.set k (y1, y2, why), (endTo (dueB kv) why l k).2 ++ [(k : Int)])) := endTo_yes HY.out (by rw [HFX.out, HAX.out]; rfl)
            clear d1 d2 d3 ck
            go_wp2_with fail
            refine (endPtr_yes g (k * 3) y2 why w3 e1 e2 e3).mono ?_
            rintro e w4 ⟨rfl, w4', hb4, rfl⟩
            have hB6 : Below w.heap.size w (w4'.setCell ⟨g, k * 3 + 1, none⟩ (.int .i64 why)) := (hB5.trans (hb4.mono hB5.size)).setCell (p := ⟨g, k * 3 + 1, none⟩) hg1 _
            have hs6 := hb4.size
            have F6 : Hid (kB.Fresh w.heap.size w1.heap.size (w4'.setCell ⟨g, k * 3 + 1, none⟩ (.int .i64 why)) (some ⟨g, 0, none⟩) bc ((endTo (dueB kv) why l k).1.set k (y1, y2, why))) := (F5.out.later hb4).set k (by rw [← HL.out]; exact hlt) 1 (by decide) (.int .i64 why) (y1, y2, why) (by rw [HEL.out]; rfl)
            have O6 : Hid (kI.Own w1.heap.size (w4'.setCell ⟨g, k * 3 + 1, none⟩ (.int .i64 why)) v (endTo (dueB kv) why l k).2) := (O5.out.below hb4).setBelow (by simpa using hg2) _
            obtain ⟨W6, hW6⟩ : ∃ W6, W6 = w4'.setCell ⟨g, k * 3 + 1, none⟩ (.int .i64 why) := ⟨_, rfl⟩
            have hs7 : w1.heap.size ≤ W6.heap.size := by rw [hW6]; simp; omega
            rw [← hW6] at hB6 F6 O6 ⊢
            clear hW6 hb4 F5 O5 e1 e2 e3
            have HA : Hid (kI.Own w1.heap.size (W6.alloc (.cells #[.int .i64 (k : Int)] 3)) v (endTo (dueB kv) why l k).2) := O6.out.below (below1 _ _)
            have HN : Hid (kI.In (W6.heap.size + 1) (W6.alloc (.cells #[.int .i64 (k : Int)] 3)) (some ⟨W6.heap.size, 0, none⟩) [(k : Int)]) := int_one (by omega) (by simp)
            have hll : (endTo (dueB kv) why l k).2.length + 1 ≤ 4194304 := by have := endTo_num (dueB kv) why l k; omega
            have F7 := hid (F6.out.later (below1 W6 (.cells #[.int .i64 (k : Int)] 3)))
            have hB7 := Below.allocS hB6 (.cells #[.int .i64 (k : Int)] 3)
            go_wp2_with (at_builtin; refine Kind.app kI_ok (W6.alloc (.cells #[.int .i64 (k : Int)] 3)) rfl (.tmp 39) (.tmp 41) rfl w1.heap.size v (endTo (dueB kv) why l k).2 rfl HA.out (by simp; omega) (some ⟨W6.heap.size, 0, none⟩) [(k : Int)] 1 1 rfl rfl (by simp) _ HN.out hll ?_; intro v' w' hO' hB' hG' hn'; have hB8 : Below w.heap.size w w' := hB7.trans (hB'.mono (by omega)); have hs8 : w1.heap.size ≤ w'.heap.size := (by have := hB'.size; simp at this; omega); have F8 : Hid (kB.Fresh w.heap.size w1.heap.size w' (some ⟨g, 0, none⟩) bc (endTo (dueB kv) why l (k + 1)).1) := (by rw [HE.out]; exact F7.out.keep fun i _ h2 _ => hB'.block i h2); have O8 : Hid (kI.Own w1.heap.size w' v' (endTo (dueB kv) why l (k + 1)).2) := (by rw [HE.out]; exact hO'); clear hO' hB' hG' hn')
            go_roundw
            case rel => exact ⟨k + 1, v', rfl, by omega, by go_num, O8, F8, hB8, hs8⟩
            case measure => simp [intOf]; omega
          · have hy3' : (y3 == 0) = false := by simpa using hy3
            have HE : Hid (endTo (dueB kv) why l (k + 1) = endTo (dueB kv) why l k) := endTo_no HY.out (.inr hy3')
            have HY3 := hid hy3
            clear hy3 hy3' d1 d2 d3 ck
            go_wp2_with fail
            refine (endPtr_no g (k * 3) y2 y3 why w3 HY3.out e1 e2).mono ?_
            rintro e w4 ⟨rfl, hb4⟩
            have hB6 := hB5.trans (hb4.mono hB5.size)
            have hs6 := hb4.size
            have F6 := hid (F5.out.later hb4)
            have O6 := hid (O5.out.below hb4)
            clear hb4 F5 O5 e1 e2 e3
            go_wp2
            go_roundw
            case rel => exact ⟨k + 1, v, rfl, by omega, by go_num, by rw [HE.out]; exact O6, by rw [HE.out]; exact F6, hB6, by omega⟩
            case measure => simp [intOf]; omega
      · -- told
        go_wp2_with fail
        refine (due_is kv k y1 y2 y3 pk _ true ck HFX.out).mono ?_
        rintro e w3 ⟨rfl, hb2⟩
        have hb5 := hn.trans (hb2.mono (by simp))
        have hB5 := hB.trans (hb5.mono hB.size)
        have hs5 := hb5.size
        have F5 := hid (hF.out.later hb5)
        have O5 := hid (hO.out.below hb5)
        clear hb2 hb5 X0
        have e1 : w3.cell? ⟨g, k * 3, none⟩ = some (.int .i64 y2) := (F5.out.cells k (by rw [← HL.out]; exact hlt) 0 (by decide)).1.trans (by rw [HEL.out]; rfl)
        have e2 : w3.cell? ⟨g, k * 3 + 1, none⟩ = some (.int .i64 y3) := (F5.out.cells k (by rw [← HL.out]; exact hlt) 1 (by decide)).1.trans (by rw [HEL.out]; rfl)
        have e3 : w3.frozen? ⟨g, k * 3 + 1, none⟩ = false := (F5.out.cells k (by rw [← HL.out]; exact hlt) 1 (by decide)).2
        by_cases hy3 : y3 = 0
        · subst hy3
          have HE : Hid (endTo (dueB kv) why l (k + 1) = ((endTo (dueB kv) why l k).1.set k (y1, y2, why), (endTo (dueB kv) why l k).2 ++ [(k : Int)])) := endTo_yes HY.out (by rw [HFX.out]; rfl)
          clear d1 d2 d3 ck
          go_wp2_with fail
          refine (endPtr_yes g (k * 3) y2 why w3 e1 e2 e3).mono ?_
          rintro e w4 ⟨rfl, w4', hb4, rfl⟩
          have hB6 : Below w.heap.size w (w4'.setCell ⟨g, k * 3 + 1, none⟩ (.int .i64 why)) := (hB5.trans (hb4.mono hB5.size)).setCell (p := ⟨g, k * 3 + 1, none⟩) hg1 _
          have hs6 := hb4.size
          have F6 : Hid (kB.Fresh w.heap.size w1.heap.size (w4'.setCell ⟨g, k * 3 + 1, none⟩ (.int .i64 why)) (some ⟨g, 0, none⟩) bc ((endTo (dueB kv) why l k).1.set k (y1, y2, why))) := (F5.out.later hb4).set k (by rw [← HL.out]; exact hlt) 1 (by decide) (.int .i64 why) (y1, y2, why) (by rw [HEL.out]; rfl)
          have O6 : Hid (kI.Own w1.heap.size (w4'.setCell ⟨g, k * 3 + 1, none⟩ (.int .i64 why)) v (endTo (dueB kv) why l k).2) := (O5.out.below hb4).setBelow (by simpa using hg2) _
          obtain ⟨W6, hW6⟩ : ∃ W6, W6 = w4'.setCell ⟨g, k * 3 + 1, none⟩ (.int .i64 why) := ⟨_, rfl⟩
          have hs7 : w1.heap.size ≤ W6.heap.size := by rw [hW6]; simp; omega
          rw [← hW6] at hB6 F6 O6 ⊢
          clear hW6 hb4 F5 O5 e1 e2 e3
          have HA : Hid (kI.Own w1.heap.size (W6.alloc (.cells #[.int .i64 (k : Int)] 3)) v (endTo (dueB kv) why l k).2) := O6.out.below (below1 _ _)
          have HN : Hid (kI.In (W6.heap.size + 1) (W6.alloc (.cells #[.int .i64 (k : Int)] 3)) (some ⟨W6.heap.size, 0, none⟩) [(k : Int)]) := int_one (by omega) (by simp)
          have hll : (endTo (dueB kv) why l k).2.length + 1 ≤ 4194304 := by have := endTo_num (dueB kv) why l k; omega
          have F7 := hid (F6.out.later (below1 W6 (.cells #[.int .i64 (k : Int)] 3)))
          have hB7 := Below.allocS hB6 (.cells #[.int .i64 (k : Int)] 3)
          go_wp2_with (at_builtin; refine Kind.app kI_ok (W6.alloc (.cells #[.int .i64 (k : Int)] 3)) rfl (.tmp 39) (.tmp 41) rfl w1.heap.size v (endTo (dueB kv) why l k).2 rfl HA.out (by simp; omega) (some ⟨W6.heap.size, 0, none⟩) [(k : Int)] 1 1 rfl rfl (by simp) _ HN.out hll ?_; intro v' w' hO' hB' hG' hn'; have hB8 : Below w.heap.size w w' := hB7.trans (hB'.mono (by omega)); have hs8 : w1.heap.size ≤ w'.heap.size := (by have := hB'.size; simp at this; omega); have F8 : Hid (kB.Fresh w.heap.size w1.heap.size w' (some ⟨g, 0, none⟩) bc (endTo (dueB kv) why l (k + 1)).1) := (by rw [HE.out]; exact F7.out.keep fun i _ h2 _ => hB'.block i h2); have O8 : Hid (kI.Own w1.heap.size w' v' (endTo (dueB kv) why l (k + 1)).2) := (by rw [HE.out]; exact hO'); clear hO' hB' hG' hn')
          go_roundw
          case rel => exact ⟨k + 1, v', rfl, by omega, by go_num, O8, F8, hB8, hs8⟩
          case measure => simp [intOf]; omega
        · have hy3' : (y3 == 0) = false := by simpa using hy3
          have HE : Hid (endTo (dueB kv) why l (k + 1) = endTo (dueB kv) why l k) := endTo_no HY.out (.inr hy3')
          have HY3 := hid hy3
          clear hy3 hy3' d1 d2 d3 ck
          go_wp2_with fail
          refine (endPtr_no g (k * 3) y2 y3 why w3 HY3.out e1 e2).mono ?_
          rintro e w4 ⟨rfl, hb4⟩
          have hB6 := hB5.trans (hb4.mono hB5.size)
          have hs6 := hb4.size
          have F6 := hid (F5.out.later hb4)
          have O6 := hid (O5.out.below hb4)
          clear hb4 F5 O5 e1 e2 e3
          go_wp2
          go_roundw
          case rel => exact ⟨k + 1, v, rfl, by omega, by go_num, by rw [HE.out]; exact O6, by rw [HE.out]; exact F6, hB6, by omega⟩
          case measure => simp [intOf]; omega
    · obtain rfl : k = l.length := by omega
      have HL : Hid (l.length = (endTo (dueB kv) why l l.length).1.length) := (endTo_len _ _ _ _).symm
      go_wp2_with fail
      rw [HL.out]
      refine (scopesOf_any bo bc (endTo (dueB kv) why l l.length).1 wr (by rw [endTo_len]; exact hl) (hF.out.in)).mono ?_
      rw [← HL.out]
      rintro e w2 ⟨⟨v2, rfl, hO2⟩, hb2⟩
      obtain ⟨so, sc, rfl, _, hF2⟩ := hO2.fresh
      obtain ⟨no, nc, rfl, _, hF3⟩ := hO.out.fresh
      have HF2 := hid hF2
      have HF3 := hid (hF3.later hb2)
      have hB2 := hB.trans (hb2.mono hB.size)
      have hs2 := hb2.size
      have hszw := hB.size
      clear hO2 hF2 hF3 hb2
      rw [← HL.out]
      go_wp2
      refine bodyPost_ret (v := .tuple #[.slice so l.length sc, .slice no (endTo (dueB kv) why l l.length).2.length nc]) (by simp [results, Try.results96, go_sem]) rfl ?_
      exact ⟨⟨so, sc, no, nc, rfl, HF2.out.wide hszw (Nat.le_refl _), HF3.out.wide hs1 hs2⟩, hB2⟩
end Go.Proofs.Ytcdkdigafcfgmaa
