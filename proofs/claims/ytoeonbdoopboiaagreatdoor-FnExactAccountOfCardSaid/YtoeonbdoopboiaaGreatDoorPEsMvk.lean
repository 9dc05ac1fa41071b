/- The specification's sort of emits. No conditions but those written. Emits sorted by the program. No conditions but those written. SortEmits, the program's and the specification's. No conditions but those written. What a value means: both sides. No conditions but those written. The account of an item: the program. No conditions but those written. The account of an item: the specification. No conditions but those written. Marks of rows of moves. No conditions but those written. -/
import Derived.Test.YtoeonbdoopboiaaGreatDoorPAvaEi
import Derived.Shelf.SlSortCmp.NoneTotal
import Derived.Shelf.Lay
import Derived.Ground.SlsfProg
import Derived.Test.YtoeonbdoopboiaaGreatDoorPMkMm
import Derived.Test.YtoeonbdoopboiaaGreatDoorPWyYs
import Derived.Test.YtoeonbdoopboiaaGreatDoorPCkLd
import Derived.Test.YtoeonbdoopboiaaGreatDoorPFoRc
import Derived.Test.YtoeonbdoopboiaaGreatDoorPYtYj
import Derived.Test.YtoeonbdoopboiaaGreatDoorPSpiMvr
namespace Go.Proofs.YtoeonbdoopboiaaGreatDoor
section
open Go.RowKit

set_option maxHeartbeats 1000000 in
theorem l11Less_is (a1 a2 b1 b2 : Int) (w : World) : Calls Tryz.prog 81 #[.agg #[.int .i64 a1, .int .i64 a2], .agg #[.int .i64 b1, .int .i64 b2]] w fun e w' => e = .returned (.bool (ltE (a1, a2) (b1, b2))) ∧ Below w.heap.size w w' := by
  by_cases h1 : a1 < b1
  · have g1 : decide (a1 < b1) = true := by simpa using h1
    have e : ltE (a1, a2) (b1, b2) = true := by simp [ltE, h1]
    rw [e]
    clear e h1
    go_enter Tryz.func81, Tryz.ntmps81
    go_wp2
    go_ret
    exact ⟨rfl, below2 _ _ _⟩
  · have g1 : decide (a1 < b1) = false := by simpa using h1
    by_cases h2 : a1 = b1
    · have g2 : (a1 == b1) = true := by simpa using h2
      have e : ltE (a1, a2) (b1, b2) = decide (a2 < b2) := by simp [ltE, h2]
      rw [e]
      clear e h1 h2
      go_enter Tryz.func81, Tryz.ntmps81
      go_wp2
      go_ret
      exact ⟨rfl, below2 _ _ _⟩
    · have g2 : (a1 == b1) = false := by simpa using h2
      have e : ltE (a1, a2) (b1, b2) = false := by simp [ltE, h2, h1]
      rw [e]
      clear e h1 h2
      go_enter Tryz.func81, Tryz.ntmps81
      go_wp2
      go_ret
      exact ⟨rfl, below2 _ _ _⟩
/-- A row of emits of its own. -/
def AnsE (w : World) (r : List (Int × Int)) (e : Ending) (w' : World) : Prop := ∃ o c, e = .returned (.slice o r.length c) ∧ kE.Fresh w.heap.size w'.heap.size w' o c r ∧ Below w.heap.size w w'
set_option maxRecDepth 10000 in
set_option maxHeartbeats 8000000 in
theorem l11Sort_any (ao : Option Addr) (cap : Nat) (ts : List (Int × Int)) (w : World) (hl : ts.length ≤ 1048576) (hz : kE.In w.heap.size w ao ts) (hwf : ao = none → cap = 0) :
    Calls Tryz.prog 57 #[.slice ao ts.length cap] w fun e w' => AnsE w (sortE ts) e w' := by
  have HE0 : Hid (kE.Own w.heap.size (w.alloc (.cells #[] kE.ty)) (.slice (some ⟨w.heap.size, 0, none⟩) 0 0) []) := Kind.Own.new kE _ w (Nat.le_refl _)
  have HZ0 : Hid (kE.In w.heap.size (w.alloc (.cells #[] kE.ty)) ao ts) := hz.below (below1 _ _)
  clear hz
  go_enter Tryz.func57, Tryz.ntmps57
  go_wp2_with (at_builtin; refine Kind.app kE_ok (w.alloc (.cells #[] kE.ty)) rfl (.tmp 7) (.tmp 8) rfl w.heap.size (.slice (some ⟨w.heap.size, 0, none⟩) 0 0) [] rfl HE0.out (by simp) ao ts ts.length cap rfl rfl hwf _ HZ0.out (by simp; omega) ?_; intro v w1 hO hB _ hn; obtain ⟨g, c, rfl, _⟩ := Kind.Own.some hO (hn some_ne); rw [List.nil_append] at hO ⊢; obtain ⟨go, gc, eg, _, hF⟩ := hO.fresh; obtain ⟨rfl, rfl⟩ : some ⟨g, 0, none⟩ = go ∧ c = gc := (by simp at eg; exact eg); have hB1 : Below w.heap.size w w1 := (below1 w _).trans hB; have H1 := hid hF; clear eg hO hn hB hF HE0 HZ0)
  go_loopw [12] (fun i wr => ∃ (k : Nat) (ys : List (Int × Int)), i = .int .i64 (k : Int) ∧ k ≤ ts.length ∧ ys.length = ts.length ∧ Hid (ys.Perm ts) ∧ Hid (SortTo ys k) ∧ Hid (kE.Fresh w.heap.size w1.heap.size wr (some ⟨g, 0, none⟩) c ys) ∧ Below w.heap.size w wr ∧ Hid (w1.heap.size ≤ wr.heap.size)) (fun i _ => ts.length - (intOf i).toNat)
  case atStart => exact ⟨0, ts, rfl, Nat.zero_le _, rfl, List.Perm.refl _, fun a b h1 h2 => by omega, H1, hB1, Nat.le_refl _⟩
  case round =>
    obtain ⟨k, ys, rfl, hk, hyl, hP, hS, hY, hBw, hsz⟩ := hrel
    by_cases hlt : k < ts.length
    · have HS := hid (sort_start hS.out)
      clear hS
      go_wp2
      go_loopw [5] (fun i wr => ∃ (j : Nat) (ys : List (Int × Int)), i = .int .i64 (j : Int) ∧ j ≤ k ∧ ys.length = ts.length ∧ Hid (ys.Perm ts) ∧ Hid (SortBut ys k j) ∧ Hid (kE.Fresh w.heap.size w1.heap.size wr (some ⟨g, 0, none⟩) c ys) ∧ Below w.heap.size w wr ∧ Hid (w1.heap.size ≤ wr.heap.size)) (fun i _ => (intOf i).toNat)
      case atStart => exact ⟨k, ys, rfl, Nat.le_refl _, hyl, hP, HS, hY, hBw, hsz⟩
      case round =>
        clear HS hP hY hBw hsz hyl ys
        obtain ⟨j, ys, rfl, hjk, hyl, hP, hS, hY, hBw, hsz⟩ := hrel
        rcases j with _ | m
        · have HT := hid (sort_stop0 hS.out)
          have h0 : decide ((0 : Int) < ((0 : Nat) : Int)) = false := by decide
          have hYd : Hid (∀ n, kE.Fresh w.heap.size w1.heap.size (wr.drewN n) (some ⟨g, 0, none⟩) c ys) := fun n => hY.out.keep fun _ _ _ _ => rfl
          clear hS
          go_wp2
          go_quiet (fail)
          go_wp2
          go_roundw
          case rel => exact ⟨k + 1, ys, by go_num, by omega, hyl, hP, HT, hid (hYd.out _), below_draws hBw _, hsz⟩
          case measure => simp [intOf]; omega
        · have hmy : m + 1 < ys.length := by omega
          have hm0 : m < ys.length := by omega
          obtain ⟨b0, off, eb, hb0, hc⟩ := kE_at hY.out.in hm0
          obtain ⟨rfl, rfl⟩ : g = b0 ∧ 0 = off := by simp at eb; exact ⟨eb.1, eb.2⟩
          have cm := hc m hm0
          have cj := hc (m + 1) hmy
          simp only [Nat.zero_add] at cm cj
          obtain ⟨⟨x1, x2⟩, hx⟩ : ∃ x, x = el ys (m + 1) := ⟨_, rfl⟩
          obtain ⟨⟨y1, y2⟩, hy⟩ : ∃ y, y = el ys m := ⟨_, rfl⟩
          rw [← hy] at cm
          rw [← hx] at cj
          dsimp only at cm cj
          have HX := hid hx
          have HYY := hid hy
          clear hc eb hx hy
          obtain ⟨j, hj⟩ : ∃ j : Nat, j = m + 1 := ⟨_, rfl⟩
          rw [← hj] at cj ⊢
          have hgt : 0 < j := by omega
          have HJ := hid hj
          have hjm : (j : Int) - 1 = (m : Int) := by omega
          have hjl : (j : Int) < (ts.length : Int) := by omega
          have hml : (m : Int) < (ts.length : Int) := by omega
          have q1 := Later.cell cj.1 hb0; have q2 := Later.cell cj.2 hb0; have q3 := Later.cell cm.1 hb0; have q4 := Later.cell cm.2 hb0
          have hNE := later_some wr
          clear hj
          rcases hc : ltE (x1, x2) (y1, y2) with _ | _
          · have HT := hid (sort_stop hS.out (by have := HJ.out; omega) (by rw [← HX.out, ← HYY.out]; exact hc))
            have HC := hid hc
            clear hS hc cm cj
            go_wp2_with fail
            refine wp_region_later wr (by kernel_rfl) (by kernel_rfl) (Below.refl _ _) ?_
            have hless : ∀ W : World, Calls Tryz.prog 81 #[.agg #[.int .i64 x1, .int .i64 x2], .agg #[.int .i64 y1, .int .i64 y2]] W fun e w' => e = .returned (.bool false) ∧ Below W.heap.size W w' := fun W => by have h := l11Less_is x1 x2 y1 y2 W; rw [HC.out] at h; exact h
            repeat (go_big_quiet_step (first | (go_at_call 81; exact Calls.later (hless _))))
            refine wpQuiet_nil ?_
            rintro w4 ⟨⟨w5, hb4⟩, hw5⟩
            obtain rfl : w4 = w5 := hw5
            have hB4 : Below w.heap.size w w4 := hBw.trans (hb4.mono hBw.size)
            have hs4 : Hid (w1.heap.size ≤ w4.heap.size) := Nat.le_trans hsz.out hb4.size
            have Y4 : Hid (kE.Fresh w.heap.size w1.heap.size w4 (some ⟨g, 0, none⟩) c ys) := hY.out.later hb4
            clear q1 q2 q3 q4 hNE hb4 hY hBw hsz hless
            go_wp2
            go_roundw
            case rel => exact ⟨k + 1, ys, by go_num, by omega, hyl, hP, HT, Y4, hB4, hs4⟩
            case measure => simp [intOf]; omega
          · have HT := hid (sort_swap hS.out (by have := HJ.out; omega) (by omega) (by rw [← HX.out, ← HYY.out]; exact hc))
            have HC := hid hc
            have HP2 := hid ((swapL_perm hmy).trans hP.out)
            have hl2 : (swapL ys m).length = ts.length := by rw [swapL_len]; exact hyl
            clear hS hc cm cj
            go_wp2_with fail
            refine wp_region_later wr (by kernel_rfl) (by kernel_rfl) (Below.refl _ _) ?_
            have hless : ∀ W : World, Calls Tryz.prog 81 #[.agg #[.int .i64 x1, .int .i64 x2], .agg #[.int .i64 y1, .int .i64 y2]] W fun e w' => e = .returned (.bool true) ∧ Below W.heap.size W w' := fun W => by have h := l11Less_is x1 x2 y1 y2 W; rw [HC.out] at h; exact h
            repeat (go_big_quiet_step (first | (go_at_call 81; exact Calls.later (hless _))))
            refine wpQuiet_nil ?_
            rintro w4 ⟨⟨w5, hb4⟩, hw5⟩
            obtain rfl : w4 = w5 := hw5
            have hB4 : Below w.heap.size w w4 := hBw.trans (hb4.mono hBw.size)
            have hs4 : Hid (w1.heap.size ≤ w4.heap.size) := Nat.le_trans hsz.out hb4.size
            have Y4 : Hid (kE.Fresh w.heap.size w1.heap.size w4 (some ⟨g, 0, none⟩) c ys) := hY.out.later hb4
            have c1 : w4.cell? ⟨g, j * 2, none⟩ = some (.int .i64 x1) := q1 ⟨w4, hb4⟩
            have c2 : w4.cell? ⟨g, j * 2 + 1, none⟩ = some (.int .i64 x2) := q2 ⟨w4, hb4⟩
            have c3 : w4.cell? ⟨g, m * 2, none⟩ = some (.int .i64 y1) := q3 ⟨w4, hb4⟩
            have c4 : w4.cell? ⟨g, m * 2 + 1, none⟩ = some (.int .i64 y2) := q4 ⟨w4, hb4⟩
            obtain ⟨g2, e2, hg1, hg2, hg3, ho⟩ := Y4.out.at (show 0 < ys.length by omega)
            obtain rfl : g = g2 := by simp at e2; exact e2
            have f1 : w4.frozen? ⟨g, j * 2, none⟩ = false := ho.frozenAt _
            have f2 : w4.frozen? ⟨g, j * 2 + 1, none⟩ = false := ho.frozenAt _
            have f3 : w4.frozen? ⟨g, m * 2, none⟩ = false := ho.frozenAt _
            have f4 : w4.frozen? ⟨g, m * 2 + 1, none⟩ = false := ho.frozenAt _
            have hne : j ≠ m := by have := HJ.out; omega
            have HG1 := hid hg1
            clear q1 q2 q3 q4 hNE hb4 hY hBw hsz hless ho e2 hg2 hg1
            go_wp2
            go_roundw
            case rel =>
              refine ⟨m, swapL ys m, by go_num, by have := HJ.out; omega, hl2, HP2, HT, ?_, ?_, ?_⟩
              · have h := kE_stored Y4.out hmy
                rw [← HX.out, ← HYY.out, ← HJ.out] at h
                exact hid (h.later (below1 _ _))
              · exact Below.allocS ((((hB4.setCell (p := ⟨g, j * 2, none⟩) HG1.out _).setCell (p := ⟨g, j * 2 + 1, none⟩) HG1.out _).setCell (p := ⟨g, m * 2, none⟩) HG1.out _).setCell (p := ⟨g, m * 2 + 1, none⟩) HG1.out _) _
              · have := hs4.out; unfold Hid; simp [World.setCell]; omega
            case measure => simp [intOf]; have := HJ.out; omega
    · obtain rfl : k = ts.length := by omega
      have HS2 : Hid (SortTo ys ys.length) := by rw [hyl]; exact hS
      go_wp2
      go_ret
      have e := sorted_all hP.out HS2.out
      refine ⟨_, _, by rw [sortE_len]; rfl, ?_, hBw⟩
      rw [← e]
      exact hY.out.wide (Nat.le_refl _) hsz.out
end
section
open Go.RowKit Go.Sort Go.Shelf Go.Lib

shelf_lay_g SlLaysF0.n6 Slsf 6 at Tryz 108 as Tryz.sortEm

theorem cmpE_neg (x y : Int × Int) : ltOf cmpE x y = ltE x y := by
  unfold ltOf cmpE cmpI ltE
  rcases (show x.1 < y.1 ∨ y.1 < x.1 ∨ x.1 = y.1 from by omega) with h | h | h
  · simp [h]
  · have h1 : ¬ x.1 < y.1 := by omega
    have h2 : ¬ x.1 = y.1 := by omega
    simp [h, h1, h2]
  · rcases (show x.2 < y.2 ∨ y.2 < x.2 ∨ x.2 = y.2 from by omega) with k | k | k
    · simp [h, k]
    · have k1 : ¬ x.2 < y.2 := by omega
      simp [h, k, k1]
    · have k1 : ¬ x.2 < y.2 := by omega
      have k2 : ¬ y.2 < x.2 := by omega
      simp [h, k1, k2]
theorem cmpE_swo : SWO (ltOf cmpE) where
  irrefl x := by rw [cmpE_neg, ltE_no]; omega
  trans x y z h1 h2 := by rw [cmpE_neg, ltE_yes] at *; omega
  ntrans x y z h1 h2 := by rw [cmpE_neg, ltE_no] at *; omega
theorem cmpE_total : ∀ x y, (ltOf cmpE) x y = false → (ltOf cmpE) y x = false → x = y := fun x y h1 h2 => by
  rw [cmpE_neg] at h1 h2; exact ltE_eq h2 h1
theorem flatK_kE (ts : List (Int × Int)) : (flatK kE.enc 2 ts.toArray).toList = kE.flat ts := by
  refine kE.flat_of _ ts (by simp [kE]) fun j hj i hi => ?_
  have hi' : i < 2 := hi
  have hsz : kE.sz = 2 := rfl
  rw [hsz]
  have ht : j * 2 + i < ts.toArray.size * 2 := by simp; omega
  have hg := get_flatK kE.enc 2 ts.toArray (j * 2 + i) ht
  have e1 : (j * 2 + i) / 2 = j := by omega
  have e2 : (j * 2 + i) % 2 = i := by omega
  rw [e1, e2] at hg
  have ht' : j * 2 + i < (flatK kE.enc 2 ts.toArray).size := by rw [size_flatK]; exact ht
  rw [getElem!_pos (flatK kE.enc 2 ts.toArray) (j * 2 + i) ht'] at hg
  have hj' : j < ts.toArray.size := by simpa using hj
  rw [getElem!_pos ts.toArray j hj'] at hg
  rw [Array.getElem?_toList, Array.getElem?_eq_getElem ht', hg, el_at hj]
  have hl : i < (kE.enc ts[j]).length := by rw [kE.len]; exact hi
  simp only [List.getElem_toArray]
  rw [getElem!_pos (kE.enc ts[j]) i hl, List.getElem?_eq_getElem hl]
/-- A row that the library sorts. -/
theorem kE_holds {lo hi : Nat} {W : World} {g c : Nat} {ts : List (Int × Int)} (h : kE.Fresh lo hi W (some ⟨g, 0, none⟩) c ts) (hn : 0 < ts.length) : HoldsK kE.enc 2 W g 0 ts.toArray := by
  obtain ⟨g2, e2, _, _, _, ho⟩ := h.at hn
  obtain rfl : g = g2 := by simp at e2; exact e2
  intro j hj
  rw [Nat.zero_add]
  refine ⟨?_, ho.frozenAt j⟩
  rw [ho.cellAt j (by simpa [kE] using hj)]
  rw [← flatK_kE, Array.getElem?_toList, Array.getElem?_eq_getElem hj, getElem!_pos (flatK kE.enc 2 ts.toArray) j hj]; rfl
theorem kE_sorted {lo hi : Nat} {W : World} {g c n : Nat} {os : Array Obj} {ts us : List (Int × Int)} (h : kE.Fresh lo hi W (some ⟨g, 0, none⟩) c ts) (hn : 0 < ts.length) (hl : us.length = ts.length) :
    kE.Fresh lo hi (sortWorldK kE.enc 2 W g 0 n us.toArray os) (some ⟨g, 0, none⟩) c us ∧ Below lo W (sortWorldK kE.enc 2 W g 0 n us.toArray os) := by
  obtain ⟨g2, e2, hg1, hg2, hg3, ho⟩ := h.at hn
  obtain rfl : g = g2 := by simp at e2; exact e2
  have hoth : ∀ k, k < W.heap.size → k ≠ g → (sortWorldK kE.enc 2 W g 0 n us.toArray os).heap[k]? = W.heap[k]? := fun k hk hne => by
    simp only [sortWorldK, grow, putRowK, putRow, mapBlock]
    rw [Array.getElem?_append_left (by simpa [ahead] using hk), Array.getElem?_modify, if_neg (Ne.symm hne)]; rfl
  refine ⟨?_, rfl, rfl, rfl, size_sortWorldK_c _ _ _ _ _ _ _ _, fun k hk => hoth k (by omega) (by omega)⟩
  obtain ⟨hfl, h2⟩ := ho
  rcases h2 with ⟨h', _⟩ | ⟨g', cap', cur, h', hb, hg, k1, k2, k3, k4⟩
  · simp at h'
  simp only [Value.slice.injEq, Option.some.injEq, Addr.mk.injEq, and_true, true_and] at h'
  obtain ⟨rfl, rfl⟩ := h'
  have hF : (flatK kE.enc 2 us.toArray).size = ts.length * 2 := by rw [size_flatK]; simp [hl]
  have hblk : (sortWorldK kE.enc 2 W g 0 n us.toArray os).heap[g]? = some (.cells (putCells id 0 (flatK kE.enc 2 us.toArray) cur) kE.ty (0, 0)) := by
    simp only [sortWorldK, grow, putRowK, putRow, mapBlock]
    rw [Array.getElem?_append_left (by simpa [ahead] using hg3), Array.getElem?_modify, if_pos rfl, show (Sort.ahead W n).heap[g]? = W.heap[g]? from rfl, hg]; rfl
  refine .inr ⟨g, rfl, hg2, kE.flat_len us, .inr ⟨g, c, _, by rw [hl], hb, hblk, by rw [hl]; exact k1, k2, by simpa [putCells] using k3, ?_⟩⟩
  rw [← flatK_kE us]
  refine List.ext_getElem? fun t => ?_
  have hcs : ts.length * 2 ≤ cur.size := by rw [k3]; exact Nat.mul_le_mul_right _ k1
  have hsz : us.length * kE.sz = ts.length * 2 := by rw [hl]; rfl
  rw [hsz]
  by_cases ht : t < ts.length * 2
  · have htF : t < (flatK kE.enc 2 us.toArray).size := by rw [hF]; exact ht
    rw [List.getElem?_take_of_lt ht, Array.getElem?_toList, Array.getElem?_toList, putCells, Array.getElem?_mapIdx, Array.getElem?_eq_getElem (show t < cur.size by omega), Option.map_some, if_pos ⟨Nat.zero_le _, by omega⟩, Array.getElem?_eq_getElem htF, Nat.sub_zero, getElem!_pos (flatK kE.enc 2 us.toArray) t htF]; rfl
  · rw [List.getElem?_eq_none (by simp; omega), List.getElem?_eq_none (by simp [hl]; omega)]
set_option maxHeartbeats 2000000 in
theorem sortedBy_any (ao : Option Addr) (cap : Nat) (ts : List (Int × Int)) (kr : Nat) (w : World) (hl : ts.length ≤ 1048576) (hz : kE.In w.heap.size w ao ts) (hr : kr < w.heap.size) (h0 : w.cell? ⟨kr, 0, none⟩ = some (.func (.func 82) #[] #[])) (h1 : w.cell? ⟨kr, 1, none⟩ = some (.func (.func 83) #[] #[])) :
    Calls Tryz.prog 84 #[.slice ao ts.length cap, .slice (some ⟨kr, 0, none⟩) 2 2] w fun e w' => AnsE w (sortE ts) e w' := by
  obtain ⟨V, hV⟩ : ∃ V, V = w.alloc (.cells #[.slice (some ⟨kr, 0, none⟩) 2 2] 151) := ⟨_, rfl⟩
  have hb : Below w.heap.size w V := by rw [hV]; exact below1 _ _
  have XK : Hid (Bx V w.heap.size [.slice (some ⟨kr, 0, none⟩) 2 2]) := by rw [hV]; exact Bx.new [.slice (some ⟨kr, 0, none⟩) 2 2] _ rfl
  have hs : V.heap.size = w.heap.size + 1 := by rw [hV]; simp
  have c0 := (hb.cell (p := ⟨kr, 0, none⟩) hr).trans h0
  have c1 := (hb.cell (p := ⟨kr, 1, none⟩) hr).trans h1
  have hzV := hz.later hb
  have HV := hid hV
  have HC := hid (And.intro c0 c1)
  clear hV h0 h1 hz c0 c1
  go_enter Tryz.func84, Tryz.ntmps84
  go_wp2_with fail
  rw [← HV.out]
  refine (copyListE_any ao cap ts V hl hzV).mono ?_
  rintro e w1 ⟨⟨t9, rfl, hF⟩, hB1⟩
  have hBw : Below w.heap.size w w1 := hb.trans (hB1.mono hb.size)
  rcases Nat.eq_zero_or_pos ts.length with hn | hn
  · obtain rfl : ts = [] := List.length_eq_zero_iff.1 hn
    have hcon := AnyF.slices_SortFunc_none (P := Tryz.prog) { Tryz.sortEm with } t9 0 (.func (.func 109) #[] #[.pointer (some ⟨w.heap.size, 0, none⟩)]) w1
    change Calls Tryz.prog 108 _ _ _ at hcon
    have HB := hid hBw
    clear hn hF hB1 hBw XK HC hzV hl hs hr HV hb
    go_wp2_with (go_at_call 108; refine hcon.mono ?_; rintro e w' ⟨rfl, rfl⟩)
    go_ret
    exact ⟨_, _, by rw [show sortE [] = [] from by simp [sortE]]; rfl, by rw [show sortE [] = [] from by simp [sortE]]; exact Kind.Fresh.nil _ _ _ _ _ _, HB.out⟩
  · obtain ⟨g, rfl, hg1, hg2, hg3, _⟩ := hF.at hn
    have hsz1 := hB1.size
    have hcmp : CmpLays Tryz.prog 109 #[.pointer (some ⟨w.heap.size, 0, none⟩)] kE.enc 2 cmpE g 0 ts.toArray.size w1 := by
      intro m os dk hdk x y
      have hcell : ∀ a : Addr, a.block < V.heap.size → ∀ v, V.cell? a = some v → (sortWorldK kE.enc 2 w1 g 0 m dk os).cell? a = some v := fun a ha v hv => by
        unfold sortWorldK
        rw [cell?_grow _ _ _ (by rw [size_putRowK]; exact Nat.lt_of_lt_of_le ha hsz1), cell?_putRowK_other _ _ _ _ _ _ a (by omega)]
        exact (hB1.cell ha).trans hv
      have hsw := size_sortWorldK_c kE.enc 2 w1 g 0 m dk os
      exact cmpCl_any x.1 x.2 y.1 y.2 w.heap.size kr _ (by omega) (by omega) (hcell ⟨w.heap.size, 0, none⟩ (by simp only [hs]; omega) _ (XK.out.c 0 rfl)) (hcell ⟨kr, 0, none⟩ (by simp only [hs]; omega) _ HC.out.1) (hcell ⟨kr, 1, none⟩ (by simp only [hs]; omega) _ HC.out.2)
    have eg : ∀ args w, (callFunc 109 args).run Tryz.prog w = .ok (.enter 109 args) w := enters_of Tryz.func109 (by kernel_rfl) rfl
    have hcon := AnyQ.slices_SortFunc_total Tryz.sortEm 2 Tryz.isAgg101 Tryz.sizeOf101 kE.enc kE.len kE.one cmpE cmpE_swo 109 #[.pointer (some ⟨w.heap.size, 0, none⟩)] g 0 ts.length ts.toArray w1 eg hcmp (kE_holds hF hn) hg3 (by simp; omega) cmpE_total
    change Calls Tryz.prog 108 _ _ _ at hcon
    rw [show (ts.toArray.toList.mergeSort fun x y => !(ltOf cmpE) y x) = sortE ts from by simp only [cmpE_neg, sortE], show ts.toArray.size = ts.length from by simp] at hcon
    have HF := hid (fun n os => kE_sorted (n := n) (os := os) hF hn (sortE_len ts))
    have HB := hid hBw
    have HS := hid hsz1
    have HVS := hid hs
    clear hn hF hB1 hBw XK HC hzV hs hr HV hb hcmp eg hsz1
    go_wp2_with (go_at_call 108; refine hcon.mono ?_; rintro e w2 ⟨rfl, n, os, rfl⟩)
    go_ret
    have h := HF.out n os
    have hv := HVS.out
    refine ⟨_, _, by rw [sortE_len]; rfl, (h.1.wide (by omega) (size_sortWorldK_c _ _ _ _ _ _ _ _)), HB.out.trans (h.2.mono (by omega))⟩
end
section
open Go.RowKit

/-- What SortEmits answers. -/
def sortR (ts : List (Int × Int)) : List (Int × Int) × Bool := if 400 < ts.length then ([], false) else (sortE ts, true)
theorem sortR_len {ts : List (Int × Int)} (hl : ts.length ≤ 1048576) : (sortR ts).1.length ≤ 1048576 := by
  unfold sortR
  split
  · simp
  · rw [sortE_len]; exact hl
/-- A row of emits of its own, and whether. -/
def AnsEB (w : World) (R : List (Int × Int) × Bool) (e : Ending) (w' : World) : Prop :=
  (∃ o c, e = .returned (.tuple #[.slice o R.1.length c, .bool R.2]) ∧ kE.Fresh w.heap.size w'.heap.size w' o c R.1) ∧ Below w.heap.size w w'
set_option maxHeartbeats 1000000 in
theorem implSort_any (ao : Option Addr) (cap : Nat) (ts : List (Int × Int)) (w : World) (hl : ts.length ≤ 1048576) (hz : kE.In w.heap.size w ao ts) :
    Calls Tryz.prog 58 #[.slice ao ts.length cap] w fun e w' => AnsEB w (sortR ts) e w' := by
  by_cases h : 400 < ts.length
  · have e : sortR ts = ([], false) := if_pos h
    rw [e]
    have h' : decide ((400 : Int) < (ts.length : Int)) = true := by simp; omega
    clear e h
    go_enter Tryz.func58, Tryz.ntmps58
    go_wp2
    refine bodyPost_ret (v := .tuple #[.slice none 0 0, .bool false]) (by simp [results, Tryz.results58, go_sem]) rfl ?_
    exact ⟨⟨none, 0, rfl, Kind.Fresh.nil _ _ _ _ _ _⟩, Below.refl _ _⟩
  · have e : sortR ts = (sortE ts, true) := if_neg h
    rw [e]
    have h' : decide ((400 : Int) < (ts.length : Int)) = false := by simp; omega
    clear e h
    obtain ⟨V, hV⟩ : ∃ V, V = w.alloc (.cells #[.func (.func 82) #[] #[], .func (.func 83) #[] #[]] 129) := ⟨_, rfl⟩
    have hb : Below w.heap.size w V := by rw [hV]; exact below1 _ _
    have XK : Hid (Bx V w.heap.size [.func (.func 82) #[] #[], .func (.func 83) #[] #[]]) := by rw [hV]; exact Bx.new [.func (.func 82) #[] #[], .func (.func 83) #[] #[]] _ rfl
    have hs : w.heap.size < V.heap.size := by rw [hV]; simp
    have hcon := sortedBy_any ao cap ts w.heap.size V hl (hz.later hb) hs (XK.out.c 0 rfl) (XK.out.c 1 rfl)
    have HV := hid hV
    have HB := hid hb
    clear hV XK hz hs hb
    go_enter Tryz.func58, Tryz.ntmps58
    go_wp2_with fail
    rw [← HV.out]
    refine hcon.mono ?_
    rintro e w1 ⟨o, c, rfl, hF, hB⟩
    have H := hid (And.intro (hF.wide HB.out.size (Nat.le_refl _)) (HB.out.trans (hB.mono HB.out.size)))
    clear hF hB
    go_wp2
    refine bodyPost_ret (v := .tuple #[.slice o (sortE ts).length c, .bool true]) (by simp [results, Tryz.results58, go_sem]) rfl ?_
    exact ⟨⟨o, c, rfl, H.out.1⟩, H.out.2⟩
end
section
open Go.RowKit

/-- What MeaningOf answers. -/
def meanR (gs : List PNode) (k v : Int) : List (Int × Int) × Bool :=
  if codeG gs = 0 ∧ 0 ≤ k ∧ k < (gs.length : Int) ∧ valB v = true ∧ widP gs ≤ 100000 then sortR (meanG gs k.toNat v) else ([], false)
theorem sortE_perm (l : List (Int × Int)) : (sortE l).Perm l := List.mergeSort_perm _ _
theorem sortE_same {l r : List (Int × Int)} (h : l.Perm r) : sortE l = sortE r := sorted_one _ _ ((sortE_perm l).trans (h.trans (sortE_perm r).symm)) (sortE_pair l) (sortE_pair r)
theorem sortR_same {l r : List (Int × Int)} (h : l.Perm r) : sortR l = sortR r := by unfold sortR; rw [h.length_eq, sortE_same h]
theorem good_sts {gs : List PNode} (h : brk gs 2 = false) : GoodSts gs := fun k hk => by
  have := brk_at h hk
  simp only [prule, Int.toNat_natCast] at this
  simpa using this
end
section
open Go.RowKit

/-- The account of an item behind moves. -/
def accR (gs : List PNode) (ms : List (Int × Int × Int)) (item : Int) : List (Int × Int) × Bool :=
  if (pipeB gs = true ∧ ms.length ≤ 300) ∧ 0 ≤ item ∧ item < (playP gs (srcP gs gs.length) ms (pp0 gs.length)).2.it then sortR (accL (meanG gs) item (playP gs (srcP gs gs.length) ms (pp0 gs.length)).2) else ([], false)
/-- What is known of a pipe that was played on. -/
structure Played (gs : List PNode) (s : PP) : Prop where
  good : GoodE gs
  ord : Ordd gs (orderP gs)
  wide : widP gs ≤ 400
  inv : InvS gs s
  len : s.bx.length = gs.length
  lost : LostI gs s.fa
  em : s.em.length ≤ 900
  tot : totT s.bx + s.fa.length ≤ 9000
  it0 : 0 ≤ s.it
  it1 : s.it ≤ 300
  am : ∀ i, 0 ≤ i → i < s.it → (accL (meanG gs) i s).length ≤ 400
  ae : ∀ i, 0 ≤ i → i < s.it → (accL (emitP gs) i s).length ≤ 400
  same : ∀ i, 0 ≤ i → i < s.it → sortR (accL (emitP gs) i s) = sortR (accL (meanG gs) i s)
theorem played_of {gs : List PNode} {ms : List (Int × Int × Int)} (h : pipeB gs = true ∧ ms.length ≤ 300) : Played gs (playP gs (srcP gs gs.length) ms (pp0 gs.length)).2 := by
  have h00 : codeG gs = 0 ∧ widP gs ≤ 400 := by have := h.1; simpa [pipeB] using this
  have hG := goodE_of h00.1
  have hR := orderP_ordd (codeG_zero h00.1).2.2
  have hB := playP_bnd (srcP gs gs.length) hG.edg ms (pp0_bnd gs.length) ms.length (Nat.le_refl _)
  have hI := playP_inv (srcP gs gs.length) hG ms (pp0_inv hG) (pp0_bnd gs.length) ms.length (Nat.le_refl _)
  have hA := playP_acc hG hR (srcP_rng gs gs.length) ms ms.length (Nat.le_refl _)
  rw [List.take_length] at hB hI hA
  have hEP : ∀ (ψ : Int × Int → Int) (k : Nat) (v : Int), k < gs.length → sumI ψ (emitP gs k v) = sumI ψ (meanG gs k v) := fun ψ k v hk => emit_sum hR hG.edg ψ hk v
  have h2 := h.2
  have b1 := hB.tot
  have b2 := hB.em
  have b3 := hB.it1
  refine ⟨hG, hR, h00.2, hI, hB.len, hA.lost, by omega, by omega, hB.it0, by omega, fun i h0 h1 => account_len hG hR h00.2 hA hB.len (fun _ _ _ _ => rfl) h0 h1, fun i h0 h1 => account_len hG hR h00.2 hA hB.len hEP h0 h1, fun i h0 h1 => sortR_same ((account_perm hA hB.len hEP h0 h1).trans (account_perm hA hB.len (fun _ _ _ _ => rfl) h0 h1).symm)⟩
set_option maxRecDepth 100000 in
set_option maxHeartbeats 8000000 in
theorem implAcc_any (ao : Option Addr) (cap : Nat) (ts : List LNode) (ea : Nat → Addr) (mo : Option Addr) (mc : Nat) (ms : List (Int × Int × Int)) (item : Int) (w : World) (hC : Roomy ts cap) (hE : Errs w ea) (hz : DIn dNode w.heap.size w ao ts) (hM : kMv.In w.heap.size w mo ms) (h64 : ∀ k, k < ms.length → (el ms k).1 ≤ 9223372036854775807) :
    Calls Tryz.prog 27 #[.slice ao ts.length cap, .slice mo ms.length mc, .int .i64 item] w (fun e w' => AnsEB w (accR (ts.map valNode) ms item) e w') := by
  have HP := hid (played_any ao cap ts ea mo mc ms w hC hE hz hM h64)
  have HZ := hid hz
  have HFI := hid hC.fitN
  clear hC hE hM h64
  by_cases hok : pipeB (ts.map valNode) = true ∧ ms.length ≤ 300
  · have HPL := played_of hok
    rw [val_len] at HPL
    obtain ⟨s, hs⟩ : ∃ s, s = (playP (ts.map valNode) (srcP (ts.map valNode) ts.length) ms (pp0 ts.length)).2 := ⟨_, rfl⟩
    have HR0 : Hid (accR (ts.map valNode) ms item = if 0 ≤ item ∧ item < s.it then sortR (accL (meanG (ts.map valNode)) item s) else ([], false)) := by
      rw [Hid, accR, val_len, ← hs]
      by_cases hq : 0 ≤ item ∧ item < s.it
      · rw [if_pos ⟨hok, hq⟩, if_pos hq]
      · rw [if_neg (fun hh => hq hh.2), if_neg hq]
    rw [← hs] at HPL
    have HPL := hid HPL
    have h1 : 0 < ts.length := by
      have h00 : codeG (ts.map valNode) = 0 := by have := hok.1; simp [pipeB] at this; exact this.1
      have := (codeG_zero h00).1
      rw [val_len] at this; omega
    obtain ⟨gb, goff, rfl, hgb, _⟩ := hNode_at hz.1 h1
    clear hz
    have hit0 := HPL.out.it0
    have hit1 := HPL.out.it1
    go_enter Tryz.func27, Tryz.ntmps27
    go_wp2_with fail
    refine HP.out.mono ?_
    rintro e w1 ⟨hq, hb1⟩
    rw [if_pos hok] at hq
    obtain ⟨lo, p, bb, so, sc, xs, ev, fv, uv, v, rfl, hlo, _, F, _, _⟩ := hq
    rw [← hs] at F
    have c3 := F.box.c 3 rfl
    have HB1 := hid hb1
    have HF := hid F
    clear hb1 F HP hok hs hlo
    by_cases hlow : item < 0
    · have hd : decide (item < 0) = true := by simpa using hlow
      have HR := HR0.out.trans (if_neg (by omega))
      have HR := hid HR
      clear HR0
      go_wp2
      refine bodyPost_ret (v := .tuple #[.slice none 0 0, .bool false]) (by simp [results, Tryz.results27, go_sem]) rfl ?_
      rw [HR.out]
      exact ⟨⟨none, 0, rfl, Kind.Fresh.nil _ _ _ _ _ _⟩, HB1.out⟩
    · have hd : decide (item < 0) = false := by simpa using hlow
      by_cases hhi : s.it ≤ item
      · have hd2 : decide (s.it ≤ item) = true := by simpa using hhi
        have HR := HR0.out.trans (if_neg (by omega))
        have HR := hid HR
        clear HR0
        go_wp2
        refine bodyPost_ret (v := .tuple #[.slice none 0 0, .bool false]) (by simp [results, Tryz.results27, go_sem]) rfl ?_
        rw [HR.out]
        exact ⟨⟨none, 0, rfl, Kind.Fresh.nil _ _ _ _ _ _⟩, HB1.out⟩
      · have hd2 : decide (s.it ≤ item) = false := by simpa using hhi
        have HR := HR0.out.trans (if_pos (by omega))
        rw [← HPL.out.same item (by omega) (by omega)] at HR
        have HR := hid HR
        have hlA := HPL.out.ae item (by omega) (by omega)
        have HAC := hid (accountOf_any lo w1 p bb gb goff cap ts _ xs ev fv uv s item HF.out (by have := HPL.out.len; rw [val_len] at this; exact this) (HZ.out.later dNode_ok HB1.out) HFI.out HPL.out.good (by have := HPL.out.ord.len; omega) (by have := HPL.out.wide; omega) HPL.out.inv HPL.out.lost hlA ⟨by have := HPL.out.em; omega, by have := HPL.out.tot; omega, by have := HPL.out.tot; omega⟩)
        clear HR0 hlow hhi
        generalize accL (emitP (ts.map valNode)) item s = A at HR HAC hlA
        go_wp2_with fail
        refine HAC.out.mono ?_
        rintro e w2 ⟨⟨v2, rfl, hO2⟩, hb2⟩
        obtain ⟨qo, qc, rfl, _, hF2⟩ := hO2.fresh
        have HB2 := hid (HB1.out.trans (hb2.mono HB1.out.size))
        have HI2 := hid hF2.in
        clear hb2 hO2 hF2 HAC c3
        go_wp2_with fail
        refine (implSort_any qo qc A w2 (by omega) HI2.out).mono ?_
        rintro e w3 ⟨⟨go, gc, rfl, hF3⟩, hb3⟩
        have HB3 := hid (HB2.out.trans (hb3.mono HB2.out.size))
        have HF3 := hid (hF3.wide (lo' := w.heap.size) (hi' := w3.heap.size) HB2.out.size (Nat.le_refl _))
        clear hb3 hF3
        go_wp2
        refine bodyPost_ret (v := .tuple #[.slice go (sortR A).1.length gc, .bool (sortR A).2]) (by simp [results, Tryz.results27, go_sem]) rfl ?_
        rw [HR.out]
        exact ⟨⟨_, _, rfl, HF3.out⟩, HB3.out⟩
  · have HR : Hid (accR (ts.map valNode) ms item = ([], false)) := by rw [Hid, accR, if_neg (fun hh => hok hh.1)]
    go_enter Tryz.func27, Tryz.ntmps27
    go_wp2_with fail
    refine HP.out.mono ?_
    rintro e w1 ⟨hq, hb1⟩
    rw [if_neg hok] at hq
    obtain rfl := hq
    go_wp2
    refine bodyPost_ret (v := .tuple #[.slice none 0 0, .bool false]) (by simp [results, Tryz.results27, go_sem]) rfl ?_
    rw [HR.out]
    exact ⟨⟨none, 0, rfl, Kind.Fresh.nil _ _ _ _ _ _⟩, hb1⟩
end
section
open Go.RowKit

set_option maxRecDepth 100000 in
set_option maxHeartbeats 8000000 in
theorem specAcc_any (ao : Option Addr) (cap : Nat) (ts : List LNode) (mo : Option Addr) (mc : Nat) (ms : List (Int × Int × Int)) (item : Int) (w : World) (hC : Roomy ts cap) (hz : DIn dNode w.heap.size w ao ts) (hM : kMv.In w.heap.size w mo ms) (h64 : ∀ k, k < ms.length → (el ms k).1 ≤ 9223372036854775807) :
    Calls Tryz.prog 26 #[.slice ao ts.length cap, .slice mo ms.length mc, .int .i64 item] w (fun e w' => AnsEB w (accR (ts.map valNode) ms item) e w') := by
  have HP := hid (l12Play_any ao cap ts mo mc ms w hC hz hM h64)
  have HZ := hid hz
  clear hC hz hM h64
  by_cases hok : pipeB (ts.map valNode) = true ∧ ms.length ≤ 300
  · have HPL := played_of hok
    rw [val_len] at HPL
    obtain ⟨s, hs⟩ : ∃ s, s = (playP (ts.map valNode) (srcP (ts.map valNode) ts.length) ms (pp0 ts.length)).2 := ⟨_, rfl⟩
    have HR0 : Hid (accR (ts.map valNode) ms item = if 0 ≤ item ∧ item < s.it then sortR (accL (meanG (ts.map valNode)) item s) else ([], false)) := by
      rw [Hid, accR, val_len, ← hs]
      by_cases hq : 0 ≤ item ∧ item < s.it
      · rw [if_pos ⟨hok, hq⟩, if_pos hq]
      · rw [if_neg (fun hh => hq hh.2), if_neg hq]
    rw [← hs] at HPL
    have HPL := hid HPL
    have hit0 := HPL.out.it0
    have hit1 := HPL.out.it1
    go_enter Tryz.func26, Tryz.ntmps26
    go_wp2_with fail
    refine HP.out.mono ?_
    rintro e w1 ⟨hq, hb1⟩
    rw [if_pos hok] at hq
    obtain ⟨lo, p, bb, xs, ev, fv, uv, v, rfl, hlo, F, _, _⟩ := hq
    rw [← hs] at F
    have c2 := F.box.c 2 rfl
    have HB1 := hid hb1
    have HH := hid F
    clear hb1 F HP hok hs hlo
    have hw1 : IntKind.i64.wrap (s.it - 1) = s.it - 1 := by rw [IntKind.wrap_i64]; omega
    by_cases hin : 0 ≤ item ∧ item < s.it
    · have HLI := hid (l1In_is item 0 (s.it - 1) w1 true (by rw [decide_eq_true (by omega), decide_eq_true (by omega)]; rfl))
      have HR := hid (HR0.out.trans (if_pos hin))
      have HA := hid (HPL.out.am item hin.1 hin.2)
      clear HR0 hin
      have hp := HH.out.box.size
      have c4 := HH.out.box.c 4 rfl
      have c5 := HH.out.box.c 5 rfl
      have c6 := HH.out.box.c 6 rfl
      obtain ⟨eo, ec, he, _, hEI⟩ := HH.out.emo.in
      obtain ⟨fo, fc, hf, _, hFI⟩ := HH.out.fao.in
      rw [he] at c5
      rw [hf] at c6
      have HC := hid (And.intro c4 c6)
      have HEI := hid hEI
      have HFI := hid hFI
      have hbem := HPL.out.em
      have hbtot := HPL.out.tot
      have hnl := HPL.out.len
      rw [val_len] at hnl
      have hn1 : s.bx.length ≤ ts.length := by omega
      have hn2 : ts.length ≤ s.bx.length := by omega
      have hmany : s.bx.length ≤ 10 := by have := HPL.out.good.edg.many; rw [val_len] at this; omega
      have HNV : Hid (∀ V, Below w1.heap.size w1 V → NV w1.heap.size V ao (ts.map valNode)) := fun V hV => (nv_of (HZ.out.later dNode_ok HB1.out)).below hV
      have HMC : Hid (∀ (k : Nat) (v : Int) (V : World) (val : Value) (out : List (Int × Int)), k < ts.length → valB v = true → kE.Own w1.heap.size V val out → out.length ≤ 401 → Below w1.heap.size w1 V → Calls Tryz.prog 56 #[.slice ao ts.length cap, .int .i64 (k : Int), .int .i64 v, val] V (AnsM w1.heap.size V val out (meanG (ts.map valNode) k v))) := fun k v V val out hk hv hO hl hV => by
        have h9 := l11Mean_all w1.heap.size ao cap (ts.map valNode) (orderP (ts.map valNode)) HPL.out.ord HPL.out.good.edg HPL.out.good.st (rk (orderP (ts.map valNode)) k) k v V val out (by rw [val_len]; exact hk) (Nat.le_refl _) hv hO hl (HNV.out V hV) hV.size
        rw [val_len] at h9
        exact h9
      clear he hf hEI hFI c4 c6 hnl
      go_wp2_with fail
      refine HLI.out.mono ?_
      rintro e w2 ⟨rfl, hw2⟩
      rw [hw2]
      clear hw2 w2 HLI
      go_wp2
      clear c5 c2
      go_loopw [11, 46] (fun u i wr => ∃ (m : Nat) (v : Value), v = u ∧ i = .int .i64 (m : Int) ∧ m ≤ s.em.length ∧ Hid (kE.Own w1.heap.size wr v (emL item (s.em.take m))) ∧ Hid (Below w1.heap.size w1 wr)) (fun _ i _ => s.em.length - (intOf i).toNat)
      case atStart => exact ⟨0, _, rfl, rfl, Nat.zero_le _, Kind.Own.nil _ _ _, Below.refl _ _⟩
      case round =>
        obtain ⟨m, v, rfl, rfl, hm, hO, hB⟩ := hrel
        by_cases hlt : m < s.em.length
        · have hmi : (m : Int) < (s.em.length : Int) := by omega
          obtain ⟨b, off, rfl, hb, hc⟩ := kOu_at HEI.out hlt
          obtain ⟨d0, d1, d2⟩ := hc m hlt
          have e0 := (hB.out.cell (p := ⟨b, off + m * 3, none⟩) hb).trans d0
          have e1 := (hB.out.cell (p := ⟨b, off + m * 3 + 1, none⟩) hb).trans d1
          have e2 := (hB.out.cell (p := ⟨b, off + m * 3 + 2, none⟩) hb).trans d2
          have hwz := hB.out.size
          have hbw : b < wr.heap.size := Nat.lt_of_lt_of_le hb hwz
          have HS := hid (emL_succ (i := item) hlt)
          have hle := em_le HA.out m
          obtain ⟨⟨t1, t2, t3⟩, et⟩ : ∃ t, t = el s.em m := ⟨_, rfl⟩
          rw [← et] at e0 e1 e2 HS
          dsimp only at e0 e1 e2 HS
          clear d0 d1 d2 hc et
          by_cases h1 : t1 = item
          · rw [if_pos h1] at HS
            have hd1 : (t1 == item) = true := by simpa using h1
            obtain ⟨X, hX⟩ : ∃ X, X = (wr.alloc (.cells #[.int .i64 t1, .int .i64 t2, .int .i64 t3] 99)).alloc (.cells #[.int .i64 t2, .int .i64 t3] 101) := ⟨_, rfl⟩
            have hbX : Below wr.heap.size wr X := by rw [hX]; exact below2 _ _ _
            have hNX : kE.In X.heap.size X (some ⟨wr.heap.size + 1, 0, none⟩) [(t2, t3)] := by
              have hx : Bx X (wr.heap.size + 1) [.int .i64 t2, .int .i64 t3] := by
                have := Bx.new (w := wr.alloc (.cells #[.int .i64 t1, .int .i64 t2, .int .i64 t3] 99)) [.int .i64 t2, .int .i64 t3] 101 rfl
                rw [show (wr.alloc (.cells #[.int .i64 t1, .int .i64 t2, .int .i64 t3] 99)).heap.size = wr.heap.size + 1 by simp] at this
                rw [hX]; exact this
              exact emits_mk hx.size (hx.c 0 rfl) (hx.c 1 rfl)
            have HX := hid hX
            have HOX := hid (hO.out.below hbX)
            have HN := hid hNX
            have HBX := hid (hB.out.trans (hbX.mono hwz))
            have hlX : w1.heap.size ≤ X.heap.size := HBX.out.size
            clear hX hbX hNX hO hB h1
            go_wp2_with (at_builtin; rw [← HX.out]; refine Kind.appN kE_ok X rfl (.tmp 54) (.tmp 60) rfl w1.heap.size v (emL item (s.em.take m)) rfl HOX.out hlX (some ⟨wr.heap.size + 1, 0, none⟩) [(t2, t3)] 1 1 rfl rfl (by simp) _ HN.out (by rw [List.length_singleton]; omega) ?_; intro v' w5 hO5 hB5 hG5 hw5; have HO5 := hid hO5; have HB5 := hid (HBX.out.trans (hB5.mono (Nat.le_refl _))); clear hO5 hB5 hG5 hw5)
            go_roundw
            case rel => exact ⟨m + 1, v', rfl, by go_num, by omega, by rw [HS.out]; exact HO5.out, HB5⟩
            case measure => simp [intOf]; omega
          · rw [if_neg h1, List.append_nil] at HS
            have hd1 : (t1 == item) = false := by simpa using h1
            clear h1
            go_wp2
            go_roundw
            case rel => exact ⟨m + 1, _, rfl, by go_num, by omega, by rw [HS.out]; exact hO.out.below (below1 _ _), hB.out.trans ((below1 _ _).mono hwz)⟩
            case measure => simp [intOf]; omega
        · obtain rfl : m = s.em.length := by omega
          rw [List.take_length] at hO
          have x4 := (hB.out.cell (p := ⟨p, 4, none⟩) hp).trans HC.out.1
          obtain ⟨w2, hw2⟩ : ∃ w2, w2 = wr := ⟨_, rfl⟩
          rw [← hw2] at hO hB x4 ⊢
          clear hw2 wr
          go_wp2
          clear x4
          go_loopw [11, 69] (fun u i wr => ∃ (k : Nat) (v : Value) (r : List (Int × Int)), v = u ∧ i = .int .i64 (k : Int) ∧ k ≤ s.bx.length ∧ Hid (kE.Own w1.heap.size wr v r) ∧ Hid (Tr [] (emL item s.em ++ bxsL (meanG (ts.map valNode)) item s.bx k) r ∧ r.length ≤ 401) ∧ Hid (Below w1.heap.size w1 wr)) (fun _ i _ => s.bx.length - (intOf i).toNat)
          case atStart => exact ⟨0, _, _, rfl, rfl, Nat.zero_le _, hO, ⟨.inl (by rw [show bxsL (meanG (ts.map valNode)) item s.bx 0 = [] from rfl, List.append_nil]; rfl), by have := em_le HA.out s.em.length; rw [List.take_length] at this; omega⟩, hB⟩
          case round =>
            obtain ⟨k, v, r, rfl, rfl, hk, hO, hT, hB⟩ := hrel
            rename World => wq
            by_cases hlt : k < s.bx.length
            · have hki : (k : Int) < (s.bx.length : Int) := by omega
              have hkt : k < ts.length := by omega
              have FW := HH.out.later hB.out
              have ck := (FW.head hlt).1
              obtain ⟨ho, hc, hsl, hq1, hq2⟩ := FW.hnd.slice hlt
              obtain ⟨ho2, hc2, hsl2, hq3, hq4⟩ := HH.out.hnd.slice hlt
              rw [hsl] at hsl2
              obtain ⟨rfl, rfl⟩ : ho = ho2 ∧ hc = hc2 := by simp at hsl2; exact hsl2
              rw [hsl] at ck
              have HRI := hid hq4.in
              have htl := totT_el hlt
              obtain ⟨L, hL⟩ : ∃ L, L = el s.bx k := ⟨_, rfl⟩
              rw [← hL] at ck HRI htl
              have HLL := hid hL
              have hLb : L.length ≤ 1000000 := by omega
              clear FW hsl hsl2 hq1 hq2 hq3 hq4 hL
              go_wp2
              clear ck
              go_loopw [11, 76] (fun u i wr => ∃ (m : Nat) (v : Value) (r : List (Int × Int)), v = u ∧ i = .int .i64 (m : Int) ∧ m ≤ L.length ∧ Hid (kE.Own w1.heap.size wr v r) ∧ Hid (Tr [] (pre3 (meanG (ts.map valNode)) item s k m) r ∧ r.length ≤ 401) ∧ Hid (Below w1.heap.size w1 wr)) (fun _ i _ => L.length - (intOf i).toNat)
              case atStart => exact ⟨0, _, _, rfl, rfl, Nat.zero_le _, hO, by rw [pre3_zero]; exact hT, hB⟩
              case round =>
                obtain ⟨m, v, r, rfl, rfl, hm, hO, hT, hB⟩ := hrel
                by_cases hlt2 : m < L.length
                · have hmi : (m : Int) < (L.length : Int) := by omega
                  obtain ⟨b, off, rfl, hb, hc⟩ := kTk_at HRI.out hlt2
                  obtain ⟨d0, d1, d2⟩ := hc m hlt2
                  have e0 := (hB.out.cell (p := ⟨b, off + m * 3, none⟩) hb).trans d0
                  have e1 := (hB.out.cell (p := ⟨b, off + m * 3 + 1, none⟩) hb).trans d1
                  have e2 := (hB.out.cell (p := ⟨b, off + m * 3 + 2, none⟩) hb).trans d2
                  have hwz := hB.out.size
                  have hbw : b < wr.heap.size := Nat.lt_of_lt_of_le hb hwz
                  have HS := hid (pre3_succ (E := (meanG (ts.map valNode))) (i := item) (s := s) (k := k) (m := m) (by rw [← HLL.out]; exact hlt2))
                  have hvv := HPL.out.inv.val k (el L m) (by rw [← HLL.out]; exact el_mem hlt2)
                  rw [← HLL.out] at HS
                  obtain ⟨⟨t1, t2, t3⟩, et⟩ : ∃ t, t = el L m := ⟨_, rfl⟩
                  rw [← et] at e0 e1 e2 HS hvv
                  dsimp only at e0 e1 e2 HS hvv
                  clear d0 d1 d2 hc et
                  by_cases h1 : t1 = item
                  · rw [if_pos h1] at HS
                    have hd1 : (t1 == item) = true := by simpa using h1
                    have hb0 := below1 wr (.cells #[.int .i64 t1, .int .i64 t2, .int .i64 t3] 104)
                    have HBV := hid (hB.out.trans (hb0.mono hwz))
                    have HMV := hid (HMC.out k t2 _ v r hkt hvv (hO.out.below hb0) hT.out.2 HBV.out)
                    have HOV := hid (hO.out.below hb0)
                    clear hb0 hO hB h1
                    go_wp2_with fail
                    refine HMV.out.mono ?_
                    rintro e w5 ⟨v', r', rfl, hO5, hT5, hl5, hG5⟩
                    have HB5 := hid (HBV.out.trans (HOV.out.belowG hG5.out.g HBV.out.size))
                    have HT5 : Hid (Tr [] (pre3 (meanG (ts.map valNode)) item s k (m + 1)) r' ∧ r'.length ≤ 401) := ⟨by rw [HS.out]; exact hT.out.1.trans hT5.out, hl5⟩
                    clear hT5 hG5 HMV HOV HBV hT
                    go_wp2
                    go_roundw
                    case rel => exact ⟨m + 1, v', r', rfl, by go_num, by omega, hO5, HT5, HB5⟩
                    case measure => simp [intOf]; omega
                  · rw [if_neg h1, List.append_nil] at HS
                    have hd1 : (t1 == item) = false := by simpa using h1
                    clear h1
                    go_wp2
                    go_roundw
                    case rel => exact ⟨m + 1, _, r, rfl, by go_num, by omega, hO.out.below (below1 _ _), by rw [HS.out]; exact hT, hB.out.trans ((below1 _ _).mono hwz)⟩
                    case measure => simp [intOf]; omega
                · obtain rfl : m = L.length := by omega
                  have HT2 : Hid (Tr [] (emL item s.em ++ bxsL (meanG (ts.map valNode)) item s.bx (k + 1)) r ∧ r.length ≤ 401) := by
                    have h9 := hT.out
                    rw [HLL.out, pre3_all] at h9
                    exact h9
                  go_wp2
                  go_roundw
                  case rel => exact ⟨k + 1, v, r, rfl, by go_num, by omega, hO, HT2, hB⟩
                  case measure => simp [intOf]; omega
            · obtain rfl : k = s.bx.length := by omega
              have x6 := (hB.out.cell (p := ⟨p, 6, none⟩) hp).trans HC.out.2
              obtain ⟨w3, hw3⟩ : ∃ w3, w3 = wq := ⟨_, rfl⟩
              rw [← hw3] at hO hB x6 ⊢
              clear hw3 wq
              go_wp2
              clear x6
              go_loopw [11, 98] (fun u i wr => ∃ (m : Nat) (v : Value) (r : List (Int × Int)), v = u ∧ i = .int .i64 (m : Int) ∧ m ≤ s.fa.length ∧ Hid (kE.Own w1.heap.size wr v r) ∧ Hid (Tr [] (pre4 (meanG (ts.map valNode)) item s m) r ∧ r.length ≤ 401) ∧ Hid (Below w1.heap.size w1 wr)) (fun _ i _ => s.fa.length - (intOf i).toNat)
              case atStart => exact ⟨0, _, _, rfl, rfl, Nat.zero_le _, hO, by rw [pre4_zero]; exact hT, hB⟩
              case round =>
                obtain ⟨m, v, r, rfl, rfl, hm, hO, hT, hB⟩ := hrel
                by_cases hlt2 : m < s.fa.length
                · have hmi : (m : Int) < (s.fa.length : Int) := by omega
                  obtain ⟨b, off, rfl, hb, hc⟩ := kLo_at HFI.out hlt2
                  obtain ⟨d0, d1, d2, d3⟩ := hc m hlt2
                  have e0 := (hB.out.cell (p := ⟨b, off + m * 4, none⟩) hb).trans d0
                  have e1 := (hB.out.cell (p := ⟨b, off + m * 4 + 1, none⟩) hb).trans d1
                  have e2 := (hB.out.cell (p := ⟨b, off + m * 4 + 2, none⟩) hb).trans d2
                  have e3 := (hB.out.cell (p := ⟨b, off + m * 4 + 3, none⟩) hb).trans d3
                  have hwz := hB.out.size
                  have hbw : b < wr.heap.size := Nat.lt_of_lt_of_le hb hwz
                  have HS := hid (pre4_succ (E := (meanG (ts.map valNode))) (i := item) (s := s) (m := m) hlt2)
                  obtain ⟨⟨j, hj, hje⟩, hvv⟩ := HPL.out.lost (el s.fa m) (el_mem hlt2)
                  rw [List.length_map] at hj
                  obtain ⟨⟨t1, t2, t3, t4⟩, et⟩ : ∃ t, t = el s.fa m := ⟨_, rfl⟩
                  rw [← et] at e0 e1 e2 e3 HS hvv hje
                  dsimp only at e0 e1 e2 e3 HS hvv hje
                  subst hje
                  clear d0 d1 d2 d3 hc et
                  by_cases h1 : t1 = item
                  · rw [if_pos h1, Int.toNat_natCast] at HS
                    have hd1 : (t1 == item) = true := by simpa using h1
                    have hb0 := below1 wr (.cells #[.int .i64 t1, .int .i64 (j : Int), .int .i64 t3, .int .i64 t4] 107)
                    have HBV := hid (hB.out.trans (hb0.mono hwz))
                    have HMV := hid (HMC.out j t3 _ v r hj hvv (hO.out.below hb0) hT.out.2 HBV.out)
                    have HOV := hid (hO.out.below hb0)
                    clear hb0 hO hB h1
                    go_wp2_with fail
                    refine HMV.out.mono ?_
                    rintro e w5 ⟨v', r', rfl, hO5, hT5, hl5, hG5⟩
                    have HB5 := hid (HBV.out.trans (HOV.out.belowG hG5.out.g HBV.out.size))
                    have HT5 : Hid (Tr [] (pre4 (meanG (ts.map valNode)) item s (m + 1)) r' ∧ r'.length ≤ 401) := ⟨by rw [HS.out]; exact hT.out.1.trans hT5.out, hl5⟩
                    clear hT5 hG5 HMV HOV HBV hT
                    go_wp2
                    go_roundw
                    case rel => exact ⟨m + 1, v', r', rfl, by go_num, by omega, hO5, HT5, HB5⟩
                    case measure => simp [intOf]; omega
                  · rw [if_neg h1, List.append_nil] at HS
                    have hd1 : (t1 == item) = false := by simpa using h1
                    clear h1
                    go_wp2
                    go_roundw
                    case rel => exact ⟨m + 1, _, r, rfl, by go_num, by omega, hO.out.below (below1 _ _), by rw [HS.out]; exact hT, hB.out.trans ((below1 _ _).mono hwz)⟩
                    case measure => simp [intOf]; omega
                · obtain rfl : m = s.fa.length := by omega
                  have hTA : r = accL (meanG (ts.map valNode)) item s := by
                    have h9 := hT.out.1
                    rw [pre4_all] at h9
                    rcases h9 with h9 | ⟨h9, h8⟩
                    · rw [h9, List.nil_append]
                    · have := HA.out; simp at h8; omega
                  rw [hTA] at hO
                  have hlA := HA.out
                  generalize accL (meanG (ts.map valNode)) item s = A at hO HR hlA
                  obtain ⟨qo, qc, rfl, hno, hF2⟩ := hO.out.fresh
                  have HB2 := hid (HB1.out.trans (hB.out.mono HB1.out.size))
                  have HI2 := hid hF2.in
                  have HNO := hid hno
                  clear hO hF2 hB hT hTA hno
                  go_wp2_with fail
                  refine (l11Sort_any qo qc A wr (by omega) HI2.out HNO.out).mono ?_
                  rintro e w5 ⟨go, gc, rfl, hF3, hb3⟩
                  have HB3 := hid (HB2.out.trans (hb3.mono HB2.out.size))
                  have HF3 := hid (hF3.wide (lo' := w.heap.size) (hi' := w5.heap.size) HB2.out.size (Nat.le_refl _))
                  clear hb3 hF3
                  have hsr : sortR A = (sortE A, true) := by rw [sortR, if_neg (by omega)]
                  go_wp2
                  refine bodyPost_ret (v := .tuple #[.slice go (sortE A).length gc, .bool true]) (by simp [results, Tryz.results26, go_sem]) rfl ?_
                  rw [HR.out, hsr]
                  exact ⟨⟨_, _, rfl, HF3.out⟩, HB3.out⟩
    · have HLI := hid (l1In_is item 0 (s.it - 1) w1 false (by
        by_cases h9 : 0 ≤ item
        · rw [decide_eq_false (p := item ≤ _) (by omega), Bool.and_false]
        · rw [decide_eq_false h9, Bool.false_and]))
      have HR := hid (HR0.out.trans (if_neg hin))
      clear HR0 hin
      go_wp2_with fail
      refine HLI.out.mono ?_
      rintro e w2 ⟨rfl, hw2⟩
      rw [hw2]
      clear hw2 w2 HLI
      go_wp2
      refine bodyPost_ret (v := .tuple #[.slice none 0 0, .bool false]) (by simp [results, Tryz.results26, go_sem]) rfl ?_
      rw [HR.out]
      exact ⟨⟨none, 0, rfl, Kind.Fresh.nil _ _ _ _ _ _⟩, HB1.out⟩
  · have HR : Hid (accR (ts.map valNode) ms item = ([], false)) := by rw [Hid, accR, if_neg (fun hh => hok hh.1)]
    go_enter Tryz.func26, Tryz.ntmps26
    go_wp2_with fail
    refine HP.out.mono ?_
    rintro e w1 ⟨hq, hb1⟩
    rw [if_neg hok] at hq
    obtain ⟨q, rfl⟩ := hq
    go_wp2
    refine bodyPost_ret (v := .tuple #[.slice none 0 0, .bool false]) (by simp [results, Tryz.results26, go_sem]) rfl ?_
    rw [HR.out]
    exact ⟨⟨none, 0, rfl, Kind.Fresh.nil _ _ _ _ _ _⟩, hb1⟩
end
section
open Go.RowKit

/-- The marks of a row of Move. -/
def markMv (k : Int) (n : Nat) : List (Int × Int × Int) := (List.range n).map (fun i : Nat => (k + 3 * (i : Int), k + 3 * (i : Int) + 1, k + 3 * (i : Int) + 2))
theorem markMv_len (k : Int) (n : Nat) : (markMv k n).length = n := by simp [markMv]
theorem markMv_at (k : Int) (n j : Nat) (h : j < n) : el (markMv k n) j = (k + 3 * (j : Int), k + 3 * (j : Int) + 1, k + 3 * (j : Int) + 2) := by simp [markMv, el, h]
set_option maxHeartbeats 2000000 in
theorem markMoveS_any (lo hi : Nat) (to : Option Addr) (tc : Nat) (ts : List (Int × Int × Int)) (k0 : Int) (w : World) (hl : ts.length ≤ 2097152) (hk0 : 0 ≤ k0) (hk1 : k0 ≤ 16777216) (hF : kMv.Fresh lo hi w to tc ts) :
    Calls Tryz.prog 19 #[.slice to ts.length tc, .int .i64 k0] w fun e w' => e = .returned (.int .i64 (k0 + 3 * ts.length)) ∧ kMv.Fresh lo hi w' to tc (markMv k0 ts.length) ∧ OnlyAt (eff to ts.length) w w' := by
  rcases Nat.eq_zero_or_pos ts.length with h0 | h0
  · obtain rfl : ts = [] := List.length_eq_zero_iff.1 h0
    go_enter Tryz.func19, Tryz.ntmps19
    go_wp2
    go_loop [1, 5] (fun v i => v = .int .i64 k0 ∧ i = .int .i64 0) (fun _ _ => 0)
    case atStart => exact ⟨rfl, rfl⟩
    case round =>
      obtain ⟨rfl, rfl⟩ := hrel
      go_wp2
      go_ret
      exact ⟨by simp, .inl (by simp [markMv]), OnlyAt.refl _ _⟩
  · rw [eff_pos h0]
    obtain ⟨g, rfl, _, hg, _, ho⟩ := hF.at h0
    have HO : Hid (w.ownsRow lo 74 3 (.slice (some ⟨g, 0, none⟩) ts.length tc) ts.length (kMv.flat ts)) := ho
    clear ho
    go_enter Tryz.func19, Tryz.ntmps19
    go_wp2
    go_loopw [1, 5] (fun v i wr => ∃ (k : Nat) (xs : List Value), k ≤ ts.length ∧ i = .int .i64 k ∧ v = .int .i64 (k0 + 3 * k) ∧ Hid (wr.ownsRow lo 74 3 (.slice (some ⟨g, 0, none⟩) ts.length tc) ts.length xs ∧ ∀ j : Nat, j < k → xs[j * 3]? = some (.int .i64 (k0 + 3 * j)) ∧ xs[j * 3 + 1]? = some (.int .i64 (k0 + 3 * j + 1)) ∧ xs[j * 3 + 2]? = some (.int .i64 (k0 + 3 * j + 2))) ∧ OnlyAt (some ⟨g, 0, none⟩) w wr) (fun _ i _ => ts.length - (intOf i).toNat)
    case atStart => exact ⟨0, _, Nat.zero_le _, rfl, by simp, ⟨HO.out, fun j hj => by omega⟩, OnlyAt.refl _ _⟩
    case round =>
      obtain ⟨k, xs, hk, rfl, rfl, ho, hnx⟩ := hrel
      by_cases hlt : k < ts.length
      · have hxl : k * 3 + 2 < xs.length := by rw [ho.out.1.1]; omega
        have hst1 : wr.cell? ⟨g, k * 3, none⟩ = some xs[k * 3] := (ho.out.1.cellAt (k * 3) (by omega)).trans (by simp)
        have hfr1 : wr.frozen? ⟨g, k * 3, none⟩ = false := ho.out.1.frozenAt (k * 3)
        have hst2 : wr.cell? ⟨g, k * 3 + 1, none⟩ = some xs[k * 3 + 1] := (ho.out.1.cellAt (k * 3 + 1) (by omega)).trans (by simp)
        have hfr2 : wr.frozen? ⟨g, k * 3 + 1, none⟩ = false := ho.out.1.frozenAt (k * 3 + 1)
        have hst3 : wr.cell? ⟨g, k * 3 + 2, none⟩ = some xs[k * 3 + 2] := (ho.out.1.cellAt (k * 3 + 2) (by omega)).trans (by simp)
        have hfr3 : wr.frozen? ⟨g, k * 3 + 2, none⟩ = false := ho.out.1.frozenAt (k * 3 + 2)
        go_wp2
        go_roundw
        case rel => exact ⟨k + 1, (((xs.set (k * 3) (.int .i64 (k0 + 3 * k))).set (k * 3 + 1) (.int .i64 (k0 + 3 * k + 1))).set (k * 3 + 2) (.int .i64 (k0 + 3 * k + 2))), by omega, by go_num, by go_num, ⟨by
            have h := (((World.ownsRow.stored ho.out.1 (k * 3) (.int .i64 (k0 + 3 * k))).1.stored (k * 3 + 1) (.int .i64 (k0 + 3 * k + 1))).1.stored (k * 3 + 2) (.int .i64 (k0 + 3 * k + 2))).1
            simpa [Int.add_assoc] using h, fun j hj => by
          rcases Nat.lt_succ_iff_lt_or_eq.1 hj with h | rfl
          · refine ⟨?_, ?_, ?_⟩
            · rw [set_far (by omega), set_far (by omega), set_far (by omega)]; exact (ho.out.2 j h).1
            · rw [set_far (by omega), set_far (by omega), set_far (by omega)]; exact (ho.out.2 j h).2.1
            · rw [set_far (by omega), set_far (by omega), set_far (by omega)]; exact (ho.out.2 j h).2.2
          · refine ⟨?_, ?_, ?_⟩
            · rw [set_far (by omega), set_far (by omega), set_at (by first | omega | (simp only [List.length_set]; omega))]
            · rw [set_far (by omega), set_at (by first | omega | (simp only [List.length_set]; omega))]
            · rw [set_at (by first | omega | (simp only [List.length_set]; omega))]⟩, (((hnx.trans (OnlyAt.set g (k * 3) _ _)).trans (OnlyAt.set g (k * 3 + 1) _ _)).trans (OnlyAt.set g (k * 3 + 2) _ _))⟩
        case measure => simp [intOf]; omega
      · obtain rfl : k = ts.length := by omega
        have hxs : xs = kMv.flat (markMv k0 ts.length) := by
          refine kMv.flat_of xs _ (by rw [markMv_len]; exact ho.out.1.1) fun j hj i hi => ?_
          rw [markMv_len] at hj
          rw [markMv_at _ _ _ hj]
          have hi' : i < 3 := hi
          rcases (show i = 0 ∨ i = 1 ∨ i = 2 from by omega) with rfl | rfl | rfl
          · exact (ho.out.2 j hj).1
          · exact (ho.out.2 j hj).2.1
          · exact (ho.out.2 j hj).2.2
        subst hxs
        go_wp2
        go_ret
        refine ⟨rfl, .inr ⟨g, rfl, hg, ?_⟩, hnx⟩
        rw [markMv_len]; exact ho.out.1
set_option maxHeartbeats 1000000 in
theorem heldMoveS_any (to : Option Addr) (tc : Nat) (n : Nat) (k0 : Int) (w : World) (hl : n ≤ 2097152) (hk0 : 0 ≤ k0) (hk1 : k0 ≤ 16777216) (hF : kMv.In w.heap.size w to (markMv k0 n)) :
    Calls Tryz.prog 33 #[.slice to n tc, .int .i64 k0] w fun e w' => e = .returned (.int .i64 (k0 + 3 * n)) ∧ w' = w := by
  go_enter Tryz.func33, Tryz.ntmps33
  go_wp2
  go_loop [1, 5] (fun v i => ∃ k : Nat, k ≤ n ∧ i = .int .i64 k ∧ v = .int .i64 (k0 + 3 * k)) (fun _ i => n - (intOf i).toNat)
  case atStart => exact ⟨0, Nat.zero_le _, rfl, by simp⟩
  case round =>
    obtain ⟨k, hk, rfl, rfl⟩ := hrel
    by_cases hlt : k < n
    · obtain ⟨b, off, rfl, hb, hc⟩ := kMv_at hF (k := k) (by rw [markMv_len]; exact hlt)
      have hck := hc k (by rw [markMv_len]; exact hlt)
      rw [markMv_at _ _ _ hlt] at hck
      obtain ⟨hck1, hck2, hck3⟩ := hck
      clear hc hF
      have hne0_0 : (k0 + 3 * (k : Int) != k0 + 3 * (k : Int)) = false := by simp <;> omega
      have hne1_0 : (k0 + 3 * (k : Int) + 1 != k0 + 3 * (k : Int) + 1) = false := by simp <;> omega
      have hne2_0 : (k0 + 3 * (k : Int) + 2 != k0 + 3 * (k : Int) + 1 + 1) = false := by simp <;> omega
      have hne2_1 : (k0 + 3 * (k : Int) + 2 != k0 + 3 * (k : Int) + 2) = false := by simp <;> omega
      dsimp only at hck1 hck2 hck3
      go_wp2
      go_round
      case rel => exact ⟨k + 1, by omega, by go_num, by go_num⟩
      case measure => simp [intOf]; omega
    · obtain rfl : k = n := by omega
      go_wp2
      go_ret
      exact ⟨rfl, rfl⟩
end
end Go.Proofs.YtoeonbdoopboiaaGreatDoor
