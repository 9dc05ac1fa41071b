/- How the specification ends scopes. No conditions but those written. -/
import Derived.Test.YtcdkdigafcfgmaaSg
import Derived.Test.YtcdkdigafcfgmaaSd
namespace Go.Proofs.Ytcdkdigafcfgmaa
open Go.RowKit

/-- At p lie the bools e 0, e 1, .. -/
def BoolsIn (W : World) (p : Nat) (n : Nat) (e : Nat → Bool) : Prop := ∀ i, i < n → W.cell? ⟨p, i, none⟩ = some (.bool (e i)) ∧ W.frozen? ⟨p, i, none⟩ = false
theorem BoolsIn.keep {W W' : World} {p n : Nat} {e : Nat → Bool} (h : BoolsIn W p n e) (hb : W'.heap[p]? = W.heap[p]?) : BoolsIn W' p n e := fun i hi => ⟨(World.cell?_of_block (a := ⟨p, i, none⟩) hb).trans (h i hi).1, (World.frozen?_of_block (a := ⟨p, i, none⟩) hb).trans (h i hi).2⟩
theorem BoolsIn.same {W : World} {p n : Nat} {e e' : Nat → Bool} (h : BoolsIn W p n e) (he : ∀ i, i < n → e' i = e i) : BoolsIn W p n e' := fun i hi => by rw [he i hi]; exact h i hi
theorem BoolsIn.set {W : World} {p n : Nat} {e : Nat → Bool} (h : BoolsIn W p n e) (k : Nat) (b : Bool) : BoolsIn (W.setCell ⟨p, k, none⟩ (.bool b)) p n (fun i => if i = k then b else e i) := fun i hi => by
  rw [World.frozen?_setCell]
  refine ⟨?_, (h i hi).2⟩
  by_cases e : i = k
  · subst e
    rw [World.cell?_setCell_same' _ _ _ (by rw [(h i hi).1]; rfl)]
    simp
  · rw [World.cell?_setCell_other _ _ _ _ (by simp), (h i hi).1]
    simp [e]

set_option maxRecDepth 10000 in
set_option maxHeartbeats 8000000 in
theorem l5End_any (f : Nat → Sc → Bool) (ao : Option Addr) (cap : Nat) (l : List Sc) (ge : Nat) (why : Int) (lo : Nat) (w : World) (hl : l.length ≤ 20) (hw : why ≠ 0) (hno : ao = none → cap = 0) (hlo : lo ≤ ge) (hge : ge < w.heap.size) (hE : BoolsIn w ge l.length (ends0 f l)) (hz : kS.In lo w ao l) (hg : ∀ j, j < l.length → scB l j = true) :
    Calls Try.prog 94 #[.slice ao l.length cap, .slice (some ⟨ge, 0, none⟩) l.length l.length, .int .i64 why] w fun e w' => (∃ o c o' c', e = .returned (.tuple #[.slice o l.length c, .slice o' (endTo f why l l.length).2.length c']) ∧ kS.Fresh w.heap.size w'.heap.size w' o c (endTo f why l l.length).1 ∧ kI.Fresh w.heap.size w'.heap.size w' o' c' (endTo f why l l.length).2) ∧ Below lo w w' := by
  have HG := hid hg
  have HE0 := hid hE
  have HWN := hid hw
  have HE : Hid (kS.Own w.heap.size (w.alloc (.cells #[] 104)) (.slice (some ⟨w.heap.size, 0, none⟩) 0 0) []) := Kind.Own.new kS _ w (Nat.le_refl _)
  have HZ : Hid (kS.In lo (w.alloc (.cells #[] 104)) ao l) := hz.below ((below1 w _).mono (by omega))
  clear hg hE hw
  go_enter Try.func94, Try.ntmps94
  go_wp2_with (at_builtin; refine Kind.app kS_ok (w.alloc (.cells #[] 104)) rfl (.tmp 12) (.tmp 13) rfl w.heap.size (.slice (some ⟨w.heap.size, 0, none⟩) 0 0) [] rfl HE.out (by simp) ao l l.length cap rfl rfl hno _ HZ.out (by simp; omega) ?_; intro v1 w1 hO1 hb1 hG1 hn1; obtain ⟨g, c, rfl, hF1⟩ := hO1.some (hn1 some_ne); rw [List.nil_append] at hF1; have hB1 : Below w.heap.size w w1 := (below1 w _).trans hb1; have HF1 := hid hF1; have HE1 := hid (HE0.out.keep (hB1.block ge hge)); clear hO1 hb1 hG1 hn1 hF1 HE HZ HE0)
  have hs1 := hB1.size
  go_loopw [9, 17] (fun u i wr => ∃ (k : Nat) (v : Value), v = u ∧ k ≤ l.length ∧ i = .int .i64 k ∧ Hid (kI.Own w1.heap.size wr v (endTo f why l k).2) ∧ Hid (kS.Fresh w.heap.size w1.heap.size wr (some ⟨g, 0, none⟩) c (endTo f why l k).1) ∧ Hid (BoolsIn wr ge l.length (endsAt f why l k)) ∧ Below lo w wr ∧ w1.heap.size ≤ wr.heap.size) (fun _ i _ => l.length - (intOf i).toNat)
  case atStart => exact ⟨0, _, rfl, Nat.zero_le _, rfl, Kind.Own.nil _ _ _, HF1, hid (HE1.out.same fun i _ => by rw [endsAt, if_neg (by omega)]), hB1.mono (by omega), Nat.le_refl _⟩
  case round =>
    obtain ⟨k, v, rfl, hk', rfl, hO, hF, hE, hB, hsz⟩ := hrel
    have hlen : (endTo f why l k).1.length = l.length := endTo_len f why l k
    by_cases hlt : k < l.length
    · have HZ : Hid (kS.In lo w ao l) := hz
      obtain ⟨b, off, rfl, hb0, hc⟩ := kS_at hz hlt
      obtain ⟨g', eg, hg1, hg2, hg3, _⟩ := hF.out.at (by rw [hlen]; omega)
      cases eg
      have d1 := (hB.cell (p := ⟨b, off + k * 3, none⟩) hb0).trans (hc k hlt).1
      have d2 := (hB.cell (p := ⟨b, off + k * 3 + 1, none⟩) hb0).trans (hc k hlt).2.1
      have d3 := (hB.cell (p := ⟨b, off + k * 3 + 2, none⟩) hb0).trans (hc k hlt).2.2
      obtain ⟨⟨y1, y2, y3⟩, ey⟩ : ∃ v, v = el l k := ⟨_, rfl⟩
      rw [← ey] at d1 d2 d3
      have HY : Hid (el l k = (y1, y2, y3)) := ey.symm
      have hkl : k < (endTo f why l k).1.length := by rw [hlen]; exact hlt
      have HEL : Hid (el (endTo f why l k).1 k = (y1, y2, y3)) := by rw [Hid, endTo_rest _ _ _ _ _ (Nat.le_refl _), ← ey]
      clear ey hc hz
      dsimp only at d1 d2 d3
      by_cases hy3 : y3 = 0
      case neg =>
        have hy3' : (y3 != 0) = true := by simpa using hy3
        have HN : Hid (endTo f why l (k + 1) = endTo f why l k) := endTo_no HY.out (.inr (by simpa using hy3))
        have E' := hid (hE.out.same (e' := endsAt f why l (k + 1)) fun i _ => endsAt_skip HY.out hy3 i)
        have hn := below1 wr (.cells #[.int .i64 y1, .int .i64 y2, .int .i64 y3] 104)
        have F2 := hid (hF.out.later hn)
        have O2 := hid (hO.out.below hn)
        have E2 := hid (E'.out.keep (hn.block ge (by omega)))
        have hB2 := hB.trans (hn.mono (by have := hB.size; omega))
        clear hy3 hn
        go_wp2
        go_roundw
        case rel => exact ⟨k + 1, v, rfl, by omega, by go_num, by rw [HN.out]; exact O2, by rw [HN.out]; exact F2, E2, hB2, by simp; omega⟩
        case measure => simp [intOf]; omega
      case pos =>
        subst hy3
        have hsc := HG.out k hlt
        have hup : upB k y1 = true := by
          have h := hsc
          rw [scB, HY.out] at h
          revert h; cases upB (↑k) y1 <;> simp
        have HSC := hid hsc
        have hin := upB_in hup
        clear hsc hup
        have hn := below1 wr (.cells #[.int .i64 y1, .int .i64 y2, .int .i64 0] 104)
        have F2 := hid (hF.out.later hn)
        have O2 := hid (hO.out.below hn)
        have E2 := hid (hE.out.keep (hn.block ge (by omega)))
        have hB2 : Below lo w (wr.alloc (.cells #[.int .i64 y1, .int .i64 y2, .int .i64 0] 104)) := hB.trans (hn.mono (by have := hB.size; omega))
        have c9 := hE.out k hlt
        rw [endsAt_now HY.out] at c9
        obtain ⟨c9a, c9b⟩ := c9
        have hgw : ge < wr.heap.size := by omega
        have hgw2 : g < wr.heap.size := by omega
        have o1 := (hF.out.cells k hkl 2 (by decide)).1.trans (by rw [HEL.out]; rfl : _ = some (.int .i64 0))
        have o2 := (hF.out.cells k hkl 2 (by decide)).2
        have o1' : wr.cell? ⟨g, k * 3 + 2, none⟩ = some (.int .i64 0) := o1
        have o2' : wr.frozen? ⟨g, k * 3 + 2, none⟩ = false := o2
        have hkI : (k : Int) < (l.length : Int) := by omega
        clear hn o1 o2
        by_cases hm : y1 = -1
        · have hm0 : decide (0 ≤ y1) = false := by simp; omega
          have HAB : Hid (aboveB (endTo f why l k).1 y1 = false) := by rw [Hid, hm]; rfl
          clear hin hm
          obtain ⟨fx, hfx⟩ : ∃ x, f k (y1, y2, 0) = x := ⟨_, rfl⟩
          have HFX := hid hfx
          rw [hfx] at c9a
          clear hfx
          cases fx
          · have HN : Hid (endTo f why l (k + 1) = endTo f why l k) := endTo_no HY.out (.inl (by rw [HFX.out, HAB.out]; rfl))
            have E3 : Hid (BoolsIn (wr.alloc (.cells #[.int .i64 y1, .int .i64 y2, .int .i64 0] 104)) ge l.length (endsAt f why l (k + 1))) := E2.out.same fun i _ => (by by_cases e : i = k; (subst e; rw [endsAt_no HY.out (by rw [HFX.out, HAB.out]; rfl), endsAt_now HY.out, HFX.out]); (exact endsAt_other e))
            go_wp2
            go_roundw
            case rel => exact ⟨k + 1, v, rfl, by omega, by go_num, by rw [HN.out]; exact O2, by rw [HN.out]; exact F2, E3, hB2, by simp; omega⟩
            case measure => simp [intOf]; omega
          · have HE' : Hid (endTo f why l (k + 1) = ((endTo f why l k).1.set k (y1, y2, why), (endTo f why l k).2 ++ [(k : Int)])) := endTo_yes HY.out (by rw [HFX.out]; rfl)
            have hn3 := below1 (wr.setCell ⟨g, k * 3 + 2, none⟩ (.int .i64 why)) (.cells #[.int .i64 y1, .int .i64 y2, .int .i64 0] 104)
            have F3 : Hid (kS.Fresh w.heap.size w1.heap.size ((wr.setCell ⟨g, k * 3 + 2, none⟩ (.int .i64 why)).alloc (.cells #[.int .i64 y1, .int .i64 y2, .int .i64 0] 104)) (some ⟨g, 0, none⟩) c ((endTo f why l k).1.set k (y1, y2, why))) := (Kind.Fresh.set hF.out k hkl 2 (by decide) (.int .i64 why) (y1, y2, why) (by rw [HEL.out]; rfl)).later hn3
            have O3 : Hid (kI.Own w1.heap.size ((wr.setCell ⟨g, k * 3 + 2, none⟩ (.int .i64 why)).alloc (.cells #[.int .i64 y1, .int .i64 y2, .int .i64 0] 104)) v (endTo f why l k).2) := (hO.out.setBelow (a := ⟨g, k * 3 + 2, none⟩) (by simpa using hg2) _).below hn3
            have hB3 : Below lo w ((wr.setCell ⟨g, k * 3 + 2, none⟩ (.int .i64 why)).alloc (.cells #[.int .i64 y1, .int .i64 y2, .int .i64 0] 104)) := (hB.setCell (p := ⟨g, k * 3 + 2, none⟩) (by simp; omega) _).trans (hn3.mono (by have := hB.size; simp; omega))
            have E3 : Hid (BoolsIn ((wr.setCell ⟨g, k * 3 + 2, none⟩ (.int .i64 why)).alloc (.cells #[.int .i64 y1, .int .i64 y2, .int .i64 0] 104)) ge l.length (endsAt f why l (k + 1))) := ((BoolsIn.same hE.out (fun i _ => (by by_cases e : i = k; (subst e; rw [endsAt_yes hlt HWN.out HY.out (by rw [HFX.out]; rfl), endsAt_now HY.out, HFX.out]); (exact endsAt_other e)))).keep (Below.heap_setCell _ ⟨g, k * 3 + 2, none⟩ _ ge (by simp; omega))).keep (hn3.block ge (by simp; omega))
            clear hn3
            obtain ⟨W6, hW6⟩ : ∃ W6, W6 = ((wr.setCell ⟨g, k * 3 + 2, none⟩ (.int .i64 why)).alloc (.cells #[.int .i64 y1, .int .i64 y2, .int .i64 0] 104)) := ⟨_, rfl⟩
            have HW6 := hid hW6
            have hs6 : wr.heap.size + 1 = W6.heap.size := by rw [hW6]; simp
            rw [← hW6] at F3 O3 hB3 E3
            clear hW6
            have HA : Hid (kI.Own w1.heap.size (W6.alloc (.cells #[.int .i64 (k : Int)] 3)) v (endTo f why l k).2) := O3.out.below (below1 _ _)
            have HN : Hid (kI.In (wr.heap.size + 1 + 1) (W6.alloc (.cells #[.int .i64 (k : Int)] 3)) (some ⟨wr.heap.size + 1, 0, none⟩) [(k : Int)]) := by rw [Hid, hs6]; exact int_one (by omega) (by simp)
            have hll : (endTo f why l k).2.length + 1 ≤ 4194304 := by have := endTo_num f why l k; omega
            have hn4 := below1 W6 (.cells #[.int .i64 (k : Int)] 3)
            have F4 := hid (F3.out.later hn4)
            have hB4 : Below lo w (W6.alloc (.cells #[.int .i64 (k : Int)] 3)) := hB3.trans (hn4.mono (by omega))
            have E4 := hid (E3.out.keep (hn4.block ge (by omega)))
            have HS6 := hid hs6
            clear hs6 hn4
            go_wp2_with (at_builtin; rw [← HW6.out]; refine Kind.app kI_ok (W6.alloc (.cells #[.int .i64 (k : Int)] 3)) rfl (.tmp 47) (.tmp 49) rfl w1.heap.size v (endTo f why l k).2 rfl HA.out (by have := HS6.out; simp; omega) (some ⟨wr.heap.size + 1, 0, none⟩) [(k : Int)] 1 1 rfl rfl (by simp) _ HN.out hll ?_; intro v' w' hO' hB' hG' hn'; have hB8 : Below lo w w' := hB4.trans (hB'.mono (by omega)); have hs8 : w1.heap.size ≤ w'.heap.size := (by have := hB'.size; have := HS6.out; simp at *; omega); have F8 : Hid (kS.Fresh w.heap.size w1.heap.size w' (some ⟨g, 0, none⟩) c (endTo f why l (k + 1)).1) := (by rw [HE'.out]; exact F4.out.keep fun i _ h2 _ => hB'.block i h2); have O8 : Hid (kI.Own w1.heap.size w' v' (endTo f why l (k + 1)).2) := (by rw [HE'.out]; exact hO'); have E8 := hid (E4.out.keep (hB'.block ge (by omega))); clear hO' hB' hG' hn')
            go_roundw
            case rel => exact ⟨k + 1, v', rfl, by omega, by go_num, O8, F8, E8, hB8, hs8⟩
            case measure => simp [intOf]; omega
        · have hin' : 0 ≤ y1 ∧ y1 < k := by rcases hin with h | h; exact absurd h hm; exact h
          obtain ⟨u, rfl⟩ : ∃ u : Nat, y1 = u := ⟨y1.toNat, by omega⟩
          have huk : u < k := by omega
          have cu := (hE.out u (by omega)).1
          rw [above_ends huk HY.out HSC.out] at cu
          have hm0 : decide (0 ≤ (u : Int)) = true := by simp
          have huI : (u : Int) < (l.length : Int) := by omega
          obtain ⟨ax, hax⟩ : ∃ x, aboveB (endTo f why l k).1 u = x := ⟨_, rfl⟩
          have HAB := hid hax
          rw [hax] at cu
          clear hin hin' hm hax
          cases ax
          · obtain ⟨fx, hfx⟩ : ∃ x, f k ((u : Int), y2, 0) = x := ⟨_, rfl⟩
            have HFX := hid hfx
            rw [hfx] at c9a
            clear hfx
            cases fx
            · have HN : Hid (endTo f why l (k + 1) = endTo f why l k) := endTo_no HY.out (.inl (by rw [HFX.out, HAB.out]; rfl))
              have E3 : Hid (BoolsIn (wr.alloc (.cells #[.int .i64 (u : Int), .int .i64 y2, .int .i64 0] 104)) ge l.length (endsAt f why l (k + 1))) := E2.out.same fun i _ => (by by_cases e : i = k; (subst e; rw [endsAt_no HY.out (by rw [HFX.out, HAB.out]; rfl), endsAt_now HY.out, HFX.out]); (exact endsAt_other e))
              go_wp2
              go_roundw
              case rel => exact ⟨k + 1, v, rfl, by omega, by go_num, by rw [HN.out]; exact O2, by rw [HN.out]; exact F2, E3, hB2, by simp; omega⟩
              case measure => simp [intOf]; omega
            · have HE' : Hid (endTo f why l (k + 1) = ((endTo f why l k).1.set k ((u : Int), y2, why), (endTo f why l k).2 ++ [(k : Int)])) := endTo_yes HY.out (by rw [HFX.out]; rfl)
              have hn3 := below1 (wr.setCell ⟨g, k * 3 + 2, none⟩ (.int .i64 why)) (.cells #[.int .i64 (u : Int), .int .i64 y2, .int .i64 0] 104)
              have F3 : Hid (kS.Fresh w.heap.size w1.heap.size ((wr.setCell ⟨g, k * 3 + 2, none⟩ (.int .i64 why)).alloc (.cells #[.int .i64 (u : Int), .int .i64 y2, .int .i64 0] 104)) (some ⟨g, 0, none⟩) c ((endTo f why l k).1.set k ((u : Int), y2, why))) := (Kind.Fresh.set hF.out k hkl 2 (by decide) (.int .i64 why) ((u : Int), y2, why) (by rw [HEL.out]; rfl)).later hn3
              have O3 : Hid (kI.Own w1.heap.size ((wr.setCell ⟨g, k * 3 + 2, none⟩ (.int .i64 why)).alloc (.cells #[.int .i64 (u : Int), .int .i64 y2, .int .i64 0] 104)) v (endTo f why l k).2) := (hO.out.setBelow (a := ⟨g, k * 3 + 2, none⟩) (by simpa using hg2) _).below hn3
              have hB3 : Below lo w ((wr.setCell ⟨g, k * 3 + 2, none⟩ (.int .i64 why)).alloc (.cells #[.int .i64 (u : Int), .int .i64 y2, .int .i64 0] 104)) := (hB.setCell (p := ⟨g, k * 3 + 2, none⟩) (by simp; omega) _).trans (hn3.mono (by have := hB.size; simp; omega))
              have E3 : Hid (BoolsIn ((wr.setCell ⟨g, k * 3 + 2, none⟩ (.int .i64 why)).alloc (.cells #[.int .i64 (u : Int), .int .i64 y2, .int .i64 0] 104)) ge l.length (endsAt f why l (k + 1))) := ((BoolsIn.same hE.out (fun i _ => (by by_cases e : i = k; (subst e; rw [endsAt_yes hlt HWN.out HY.out (by rw [HFX.out]; rfl), endsAt_now HY.out, HFX.out]); (exact endsAt_other e)))).keep (Below.heap_setCell _ ⟨g, k * 3 + 2, none⟩ _ ge (by simp; omega))).keep (hn3.block ge (by simp; omega))
              clear hn3
              obtain ⟨W6, hW6⟩ : ∃ W6, W6 = ((wr.setCell ⟨g, k * 3 + 2, none⟩ (.int .i64 why)).alloc (.cells #[.int .i64 (u : Int), .int .i64 y2, .int .i64 0] 104)) := ⟨_, rfl⟩
              have HW6 := hid hW6
              have hs6 : wr.heap.size + 1 = W6.heap.size := by rw [hW6]; simp
              rw [← hW6] at F3 O3 hB3 E3
              clear hW6
              have HA : Hid (kI.Own w1.heap.size (W6.alloc (.cells #[.int .i64 (k : Int)] 3)) v (endTo f why l k).2) := O3.out.below (below1 _ _)
              have HN : Hid (kI.In (wr.heap.size + 1 + 1) (W6.alloc (.cells #[.int .i64 (k : Int)] 3)) (some ⟨wr.heap.size + 1, 0, none⟩) [(k : Int)]) := by rw [Hid, hs6]; exact int_one (by omega) (by simp)
              have hll : (endTo f why l k).2.length + 1 ≤ 4194304 := by have := endTo_num f why l k; omega
              have hn4 := below1 W6 (.cells #[.int .i64 (k : Int)] 3)
              have F4 := hid (F3.out.later hn4)
              have hB4 : Below lo w (W6.alloc (.cells #[.int .i64 (k : Int)] 3)) := hB3.trans (hn4.mono (by omega))
              have E4 := hid (E3.out.keep (hn4.block ge (by omega)))
              have HS6 := hid hs6
              clear hs6 hn4
              go_wp2_with (at_builtin; rw [← HW6.out]; refine Kind.app kI_ok (W6.alloc (.cells #[.int .i64 (k : Int)] 3)) rfl (.tmp 47) (.tmp 49) rfl w1.heap.size v (endTo f why l k).2 rfl HA.out (by have := HS6.out; simp; omega) (some ⟨wr.heap.size + 1, 0, none⟩) [(k : Int)] 1 1 rfl rfl (by simp) _ HN.out hll ?_; intro v' w' hO' hB' hG' hn'; have hB8 : Below lo w w' := hB4.trans (hB'.mono (by omega)); have hs8 : w1.heap.size ≤ w'.heap.size := (by have := hB'.size; have := HS6.out; simp at *; omega); have F8 : Hid (kS.Fresh w.heap.size w1.heap.size w' (some ⟨g, 0, none⟩) c (endTo f why l (k + 1)).1) := (by rw [HE'.out]; exact F4.out.keep fun i _ h2 _ => hB'.block i h2); have O8 : Hid (kI.Own w1.heap.size w' v' (endTo f why l (k + 1)).2) := (by rw [HE'.out]; exact hO'); have E8 := hid (E4.out.keep (hB'.block ge (by omega))); clear hO' hB' hG' hn')
              go_roundw
              case rel => exact ⟨k + 1, v', rfl, by omega, by go_num, O8, F8, E8, hB8, hs8⟩
              case measure => simp [intOf]; omega
          · have HE' : Hid (endTo f why l (k + 1) = ((endTo f why l k).1.set k ((u : Int), y2, why), (endTo f why l k).2 ++ [(k : Int)])) := endTo_yes HY.out (by rw [HAB.out]; simp)
            have hn3 := below1 ((wr.setCell ⟨ge, k, none⟩ (.bool true)).setCell ⟨g, k * 3 + 2, none⟩ (.int .i64 why)) (.cells #[.int .i64 (u : Int), .int .i64 y2, .int .i64 0] 104)
            have F3 : Hid (kS.Fresh w.heap.size w1.heap.size (((wr.setCell ⟨ge, k, none⟩ (.bool true)).setCell ⟨g, k * 3 + 2, none⟩ (.int .i64 why)).alloc (.cells #[.int .i64 (u : Int), .int .i64 y2, .int .i64 0] 104)) (some ⟨g, 0, none⟩) c ((endTo f why l k).1.set k ((u : Int), y2, why))) := (Kind.Fresh.set (hF.out.setBelow (a := ⟨ge, k, none⟩) (by simpa using hge) _) k hkl 2 (by decide) (.int .i64 why) ((u : Int), y2, why) (by rw [HEL.out]; rfl)).later hn3
            have O3 : Hid (kI.Own w1.heap.size (((wr.setCell ⟨ge, k, none⟩ (.bool true)).setCell ⟨g, k * 3 + 2, none⟩ (.int .i64 why)).alloc (.cells #[.int .i64 (u : Int), .int .i64 y2, .int .i64 0] 104)) v (endTo f why l k).2) := ((hO.out.setBelow (a := ⟨ge, k, none⟩) (by simp; omega) _).setBelow (a := ⟨g, k * 3 + 2, none⟩) (by simpa using hg2) _).below hn3
            have hB3 : Below lo w (((wr.setCell ⟨ge, k, none⟩ (.bool true)).setCell ⟨g, k * 3 + 2, none⟩ (.int .i64 why)).alloc (.cells #[.int .i64 (u : Int), .int .i64 y2, .int .i64 0] 104)) := ((hB.setCell (p := ⟨ge, k, none⟩) hlo _).setCell (p := ⟨g, k * 3 + 2, none⟩) (by simp; omega) _).trans (hn3.mono (by have := hB.size; simp; omega))
            have E3 : Hid (BoolsIn (((wr.setCell ⟨ge, k, none⟩ (.bool true)).setCell ⟨g, k * 3 + 2, none⟩ (.int .i64 why)).alloc (.cells #[.int .i64 (u : Int), .int .i64 y2, .int .i64 0] 104)) ge l.length (endsAt f why l (k + 1))) := ((BoolsIn.same (hE.out.set k true) (fun i _ => (by by_cases e : i = k; (subst e; rw [endsAt_yes hlt HWN.out HY.out (by rw [HAB.out]; simp), if_pos rfl]); (rw [if_neg e]; exact endsAt_other e)))).keep (Below.heap_setCell _ ⟨g, k * 3 + 2, none⟩ _ ge (by simp; omega))).keep (hn3.block ge (by simp; omega))
            clear hn3
            obtain ⟨W6, hW6⟩ : ∃ W6, W6 = (((wr.setCell ⟨ge, k, none⟩ (.bool true)).setCell ⟨g, k * 3 + 2, none⟩ (.int .i64 why)).alloc (.cells #[.int .i64 (u : Int), .int .i64 y2, .int .i64 0] 104)) := ⟨_, rfl⟩
            have HW6 := hid hW6
            have hs6 : wr.heap.size + 1 = W6.heap.size := by rw [hW6]; simp
            rw [← hW6] at F3 O3 hB3 E3
            clear hW6
            have HA : Hid (kI.Own w1.heap.size (W6.alloc (.cells #[.int .i64 (k : Int)] 3)) v (endTo f why l k).2) := O3.out.below (below1 _ _)
            have HN : Hid (kI.In (wr.heap.size + 1 + 1) (W6.alloc (.cells #[.int .i64 (k : Int)] 3)) (some ⟨wr.heap.size + 1, 0, none⟩) [(k : Int)]) := by rw [Hid, hs6]; exact int_one (by omega) (by simp)
            have hll : (endTo f why l k).2.length + 1 ≤ 4194304 := by have := endTo_num f why l k; omega
            have hn4 := below1 W6 (.cells #[.int .i64 (k : Int)] 3)
            have F4 := hid (F3.out.later hn4)
            have hB4 : Below lo w (W6.alloc (.cells #[.int .i64 (k : Int)] 3)) := hB3.trans (hn4.mono (by omega))
            have E4 := hid (E3.out.keep (hn4.block ge (by omega)))
            have HS6 := hid hs6
            clear hs6 hn4
            go_wp2_with (at_builtin; rw [← HW6.out]; refine Kind.app kI_ok (W6.alloc (.cells #[.int .i64 (k : Int)] 3)) rfl (.tmp 47) (.tmp 49) rfl w1.heap.size v (endTo f why l k).2 rfl HA.out (by have := HS6.out; simp; omega) (some ⟨wr.heap.size + 1, 0, none⟩) [(k : Int)] 1 1 rfl rfl (by simp) _ HN.out hll ?_; intro v' w' hO' hB' hG' hn'; have hB8 : Below lo w w' := hB4.trans (hB'.mono (by omega)); have hs8 : w1.heap.size ≤ w'.heap.size := (by have := hB'.size; have := HS6.out; simp at *; omega); have F8 : Hid (kS.Fresh w.heap.size w1.heap.size w' (some ⟨g, 0, none⟩) c (endTo f why l (k + 1)).1) := (by rw [HE'.out]; exact F4.out.keep fun i _ h2 _ => hB'.block i h2); have O8 : Hid (kI.Own w1.heap.size w' v' (endTo f why l (k + 1)).2) := (by rw [HE'.out]; exact hO'); have E8 := hid (E4.out.keep (hB'.block ge (by omega))); clear hO' hB' hG' hn')
            go_roundw
            case rel => exact ⟨k + 1, v', rfl, by omega, by go_num, O8, F8, E8, hB8, hs8⟩
            case measure => simp [intOf]; omega
    · obtain rfl : k = l.length := by omega
      obtain ⟨no, nc, rfl, _, hF3⟩ := hO.out.fresh
      have HF3 := hid hF3
      clear hF3
      go_wp2
      refine bodyPost_ret (v := .tuple #[.slice (some ⟨g, 0, none⟩) l.length c, .slice no (endTo f why l l.length).2.length nc]) (by simp [results, Try.results94, go_sem]) rfl ?_
      exact ⟨⟨_, c, no, nc, rfl, hF.out.wide (Nat.le_refl _) hsz, HF3.out.wide hs1 (Nat.le_refl _)⟩, hB⟩
end Go.Proofs.Ytcdkdigafcfgmaa
