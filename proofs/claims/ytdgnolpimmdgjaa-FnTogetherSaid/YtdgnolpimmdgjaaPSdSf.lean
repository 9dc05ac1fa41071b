/- Whether scopes are good: the specification. No conditions but those written. How the specification ends scopes. No conditions but those written. CancelScope and ExpireScopes: the specification. No conditions but those written. NewScope: the specification. No conditions but those written. -/
import Derived.Test.YtdgnolpimmdgjaaPSbSl
namespace Go.Proofs.Ytdgnolpimmdgjaa
section
open Go.RowKit

theorem upB_odd {k : Nat} {up : Int} {b1 b2 : Bool} (h1 : ((k : Int) == 0) = b1) (h2 : (up == -1) = b2) (h : (b1 != b2) = true) : upB k up = false := by
  subst h1 h2
  unfold upB
  by_cases h0 : (k : Int) = 0
  · rw [if_pos h0]; simp [h0] at h; simpa using h
  · rw [if_neg h0]
    have e : ((k : Int) == 0) = false := by simpa using h0
    rw [e] at h
    simp at h
    subst h; simp
theorem upB_even {k : Nat} {up : Int} {b1 b2 : Bool} (h1 : ((k : Int) == 0) = b1) (h2 : (up == -1) = b2) (h : (b1 != b2) = false) : upB k up = (decide (-1 ≤ up) && decide (up ≤ (k : Int) - 1)) := by
  subst h1 h2
  unfold upB
  by_cases h0 : (k : Int) = 0
  · rw [if_pos h0]; simp [h0] at h; subst h; simp [h0]
  · rw [if_neg h0]
    have e : ((k : Int) == 0) = false := by simpa using h0
    rw [e] at h
    simp at h
    have e1 : decide (0 ≤ up) = decide (-1 ≤ up) := decide_eq_decide.2 (by omega)
    have e2 : decide (up < (k : Int)) = decide (up ≤ (k : Int) - 1) := decide_eq_decide.2 (by omega)
    rw [e1, e2]

set_option maxRecDepth 10000 in
set_option maxHeartbeats 8000000 in
theorem specGoodScopes_is (ao : Option Addr) (cap : Nat) (l : List Sc) (w : World) (x : Bool) (hl : l.length ≤ 1048576) (hz : kS.In w.heap.size w ao l) (hx : scopesB l = x) :
    Calls Try.prog 40 #[.slice ao l.length cap] w fun e w' => e = .returned (.bool x) ∧ Below w.heap.size w w' := by
  by_cases h20 : 20 < l.length
  · have HX : Hid (x = false) := by rw [Hid, ← hx, scopesB_long h20]
    clear hx
    go_enter Try.func40, Try.ntmps40
    go_wp2
    go_ret
    exact ⟨ret_bool HX.out.symm, Below.refl _ _⟩
  have h20' : decide ((20 : Int) < (l.length : Int)) = false := by simp; omega
  have HX : Hid (scopesB l = x) := hx
  clear hx
  go_enter Try.func40, Try.ntmps40
  go_wp2
  go_loopw [10] (fun i wr => ∃ k : Nat, k ≤ l.length ∧ i = .int .i64 k ∧ Hid (∀ j, j < k → scB l j = true) ∧ Below w.heap.size w wr) (fun i _ => l.length - (intOf i).toNat)
  case atStart => exact ⟨0, Nat.zero_le _, rfl, fun j hj => by omega, Below.refl _ _⟩
  case round =>
    obtain ⟨k, hk, rfl, hno, hB⟩ := hrel
    by_cases hlt : k < l.length
    · have HZ : Hid (kS.In w.heap.size w ao l) := hz
      obtain ⟨b, off, rfl, hb0, hc⟩ := kS_at hz hlt
      have d1 := (hB.cell (p := ⟨b, off + k * 3, none⟩) hb0).trans (hc k hlt).1
      have d2 := (hB.cell (p := ⟨b, off + k * 3 + 1, none⟩) hb0).trans (hc k hlt).2.1
      have d3 := (hB.cell (p := ⟨b, off + k * 3 + 2, none⟩) hb0).trans (hc k hlt).2.2
      obtain ⟨⟨y1, y2, y3⟩, ey⟩ : ∃ v, v = el l k := ⟨_, rfl⟩
      rw [← ey] at d1 d2 d3
      have HY : Hid (el l k = (y1, y2, y3)) := ey.symm
      have HC : Hid (∀ j, j < l.length → w.cell? ⟨b, off + j * 3 + 2, none⟩ = some (.int .i64 (el l j).2.2)) := fun j hj => (hc j hj).2.2
      clear ey hc hz
      dsimp only at d1 d2 d3
      have hB3 := Below.allocS hB (.cells #[.int .i64 y1, .int .i64 y2, .int .i64 y3] 48)
      have hbw : b < wr.heap.size := Nat.lt_of_lt_of_le hb0 hB.size
      obtain ⟨b1, hb1⟩ : ∃ b1, ((k : Int) == 0) = b1 := ⟨_, rfl⟩
      obtain ⟨b2, hb2⟩ : ∃ b2, (y1 == -1) = b2 := ⟨_, rfl⟩
      cases hodd : (b1 != b2)
      case true =>
        have HF : Hid (x = false) := by rw [Hid, ← HX.out]; exact scopesB_bad k hlt (scB_up HY.out (upB_odd hb1 hb2 hodd))
        cases b1 <;> cases b2 <;> simp at hodd
        all_goals
          go_wp2
          go_ret
          exact ⟨ret_bool HF.out.symm, hB3⟩
      case false =>
        have HUE : Hid (upB k y1 = (decide (-1 ≤ y1) && decide (y1 ≤ (k : Int) - 1))) := upB_even hb1 hb2 hodd
        cases hr : (decide (-1 ≤ y1) && decide (y1 ≤ (k : Int) - 1))
        · have HR : Hid ((decide (-1 ≤ y1) && decide (y1 ≤ (k : Int) - 1)) = false) := hr
          have HF : Hid (x = false) := by rw [Hid, ← HX.out]; exact scopesB_bad k hlt (scB_up HY.out (by rw [HUE.out, hr]))
          clear hr
          cases b1 <;> cases b2 <;> simp at hodd
          all_goals
            go_wp2_with fail
            refine (l1In_is y1 (-1) ((k : Int) - 1) _ false HR.out).mono ?_
            rintro e w2 ⟨rfl, rfl⟩
            go_wp2
            go_ret
            exact ⟨ret_bool HF.out.symm, hB3⟩
        have HR : Hid ((decide (-1 ≤ y1) && decide (y1 ≤ (k : Int) - 1)) = true) := hr
        have hu : upB k y1 = true := by rw [HUE.out, hr]
        by_cases hdl : y2 < 0
        · have hdl' : decide (y2 < 0) = true := by simpa using hdl
          have HF : Hid (x = false) := by rw [Hid, ← HX.out]; exact scopesB_bad k hlt (scB_end HY.out (by simp [endB]; omega))
          clear hr hu
          cases b1 <;> cases b2 <;> simp at hodd
          all_goals
            go_wp2_with fail
            refine (l1In_is y1 (-1) ((k : Int) - 1) _ true HR.out).mono ?_
            rintro e w2 ⟨rfl, rfl⟩
            go_wp2
            go_ret
            exact ⟨ret_bool HF.out.symm, hB3⟩
        have hdl' : decide (y2 < 0) = false := by simpa using hdl
        cases hw : (decide (0 ≤ y3) && decide (y3 ≤ 2))
        · have HW : Hid ((decide (0 ≤ y3) && decide (y3 ≤ 2)) = false) := hw
          have HF : Hid (x = false) := by rw [Hid, ← HX.out]; exact scopesB_bad k hlt (scB_end HY.out (by dsimp only; rw [endB, hw]; simp))
          clear hr hu hw
          cases b1 <;> cases b2 <;> simp at hodd
          all_goals
            go_wp2_with fail
            refine (l1In_is y1 (-1) ((k : Int) - 1) _ true HR.out).mono ?_
            rintro e w2 ⟨rfl, rfl⟩
            go_wp2_with fail
            refine (l1In_is y3 0 2 _ false HW.out).mono ?_
            rintro e w2 ⟨rfl, rfl⟩
            go_wp2
            go_ret
            exact ⟨ret_bool HF.out.symm, hB3⟩
        have HW : Hid ((decide (0 ≤ y3) && decide (y3 ≤ 2)) = true) := hw
        have HT : Hid (scB l k = !(aboveB l y1 && (y3 == 0))) := scB_tail HY.out (by dsimp only; rw [endB, hw]; simp; omega) hu
        have hin := upB_in hu
        clear hr hw hu
        by_cases hk0 : k = 0
        · have e1 : y1 = -1 := by rcases hin with h | h; exact h; omega
          have HK : Hid (scB l k = true) := by rw [Hid, HT.out, e1]; rfl
          have hk0' : decide ((0 : Int) < (k : Int)) = false := by simp [hk0]
          have hk0n : decide (0 < k) = false := by simp [hk0]
          clear e1 hin
          have eb1 : b1 = true := by rw [← hb1]; simp [hk0]
          have eb2 : b2 = true := by subst eb1; cases b2 <;> simp at hodd <;> rfl
          subst eb1 eb2
          clear hodd
          clear hk0
          go_wp2_with fail
          refine (l1In_is y1 (-1) ((k : Int) - 1) _ true HR.out).mono ?_
          rintro e w2 ⟨rfl, hw2⟩
          subst hw2
          go_wp2_with fail
          refine (l1In_is y3 0 2 _ true HW.out).mono ?_
          rintro e w2 ⟨rfl, hw2⟩
          subst hw2
          go_wp2
          go_roundw
          case rel => exact ⟨k + 1, by omega, by go_num, fun j hj => by
            rcases Nat.lt_succ_iff_lt_or_eq.1 hj with h | rfl
            · exact hno.out j h
            · exact HK.out, hB3⟩
          case measure => simp [intOf]; omega
        · have hin' : 0 ≤ y1 ∧ y1 < k := by
            rcases hin with h | h
            · subst h
              have e1 : b1 = false := by rw [← hb1]; simp [hk0]
              have e2 : b2 = true := by rw [← hb2]; rfl
              subst e1 e2; simp at hodd
            · exact h
          obtain ⟨u, rfl⟩ : ∃ u : Nat, y1 = u := ⟨y1.toNat, by omega⟩
          have hul : u < l.length := by omega
          have cu := (hB.cell (p := ⟨b, off + u * 3 + 2, none⟩) hb0).trans (HC.out u hul)
          obtain ⟨z, ez⟩ : ∃ z, z = (el l u).2.2 := ⟨_, rfl⟩
          rw [← ez] at cu
          have HA : Hid (aboveB l u = (z != 0)) := by rw [Hid, ez, aboveB]; simp
          have hk0' : decide ((0 : Int) < (k : Int)) = true := by simp; omega
          have hk0n : decide (0 < k) = true := by simp; omega
          have hul' : (u : Int) < (l.length : Int) := by omega
          clear ez hin hin' HC
          have eb1 : b1 = false := by rw [← hb1]; simp [hk0]
          have eb2 : b2 = false := by subst eb1; cases b2 <;> simp at hodd <;> rfl
          subst eb1 eb2
          clear hodd
          by_cases hz0 : z = 0
          · have hz0' : (z != 0) = false := by simpa using hz0
            have HK : Hid (scB l k = true) := by rw [Hid, HT.out, HA.out, hz0']; rfl
            clear hz0 hk0
            go_wp2_with fail
            refine (l1In_is u (-1) ((k : Int) - 1) _ true HR.out).mono ?_
            rintro e w2 ⟨rfl, hw2⟩
            subst hw2
            go_wp2_with fail
            refine (l1In_is y3 0 2 _ true HW.out).mono ?_
            rintro e w2 ⟨rfl, hw2⟩
            subst hw2
            go_wp2
            go_roundw
            case rel => exact ⟨k + 1, by omega, by go_num, fun j hj => by
              rcases Nat.lt_succ_iff_lt_or_eq.1 hj with h | rfl
              · exact hno.out j h
              · exact HK.out, hB3⟩
            case measure => simp [intOf]; omega
          · have hz0' : (z != 0) = true := by simpa using hz0
            obtain ⟨y, hy⟩ : ∃ y, (y3 == 0) = y := ⟨_, rfl⟩
            have HK : Hid (scB l k = !y) := by rw [Hid, HT.out, HA.out, hz0', hy]; rfl
            clear hz0 hk0
            go_wp2_with fail
            refine (l1In_is u (-1) ((k : Int) - 1) _ true HR.out).mono ?_
            rintro e w2 ⟨rfl, hw2⟩
            subst hw2
            go_wp2_with fail
            refine (l1In_is y3 0 2 _ true HW.out).mono ?_
            rintro e w2 ⟨rfl, hw2⟩
            subst hw2
            cases y
            · go_wp2
              go_roundw
              case rel => exact ⟨k + 1, by omega, by go_num, fun j hj => by
                rcases Nat.lt_succ_iff_lt_or_eq.1 hj with h | rfl
                · exact hno.out j h
                · exact HK.out, hB3⟩
              case measure => simp [intOf]; omega
            · have HF : Hid (x = false) := by rw [Hid, ← HX.out]; exact scopesB_bad k hlt HK.out
              go_wp2
              go_ret
              exact ⟨ret_bool HF.out.symm, hB3⟩
    · obtain rfl : k = l.length := by omega
      have HT : Hid (x = true) := by rw [Hid, ← HX.out]; exact scopesB_end (by omega) hno.out
      go_wp2
      go_ret
      exact ⟨ret_bool HT.out.symm, hB⟩
end
section
open Go.RowKit

/-- At p lie the bools e 0, e 1, .. -/
def BoolsIn (W : World) (p : Nat) (n : Nat) (e : Nat → Bool) : Prop := ∀ i, i < n → W.cell? ⟨p, i, none⟩ = some (.bool (e i)) ∧ W.frozen? ⟨p, i, none⟩ = false
theorem BoolsIn.keep {W W' : World} {p n : Nat} {e : Nat → Bool} (h : BoolsIn W p n e) (hb : W'.heap[p]? = W.heap[p]?) : BoolsIn W' p n e := fun i hi => ⟨(World.cell?_of_block (a := ⟨p, i, none⟩) hb).trans (h i hi).1, (World.frozen?_of_block (a := ⟨p, i, none⟩) hb).trans (h i hi).2⟩
theorem BoolsIn.same {W : World} {p n : Nat} {e e' : Nat → Bool} (h : BoolsIn W p n e) (he : ∀ i, i < n → e' i = e i) : BoolsIn W p n e' := fun i hi => by rw [he i hi]; exact h i hi
theorem BoolsIn.set {W : World} {p n : Nat} {e : Nat → Bool} (h : BoolsIn W p n e) (k : Nat) (b : Bool) : BoolsIn (W.setCell ⟨p, k, none⟩ (.bool b)) p n (fun i => if i = k then b else e i) := fun i hi => by
  rw [World.frozen?_setCell]
  refine ⟨?_, (h i hi).2⟩
  by_cases e : i = k
  · subst e
    rw [World.cell?_setCell_same' _ _ _ (by rw [(h i hi).1]; rfl)]
    simp
  · rw [World.cell?_setCell_other _ _ _ _ (by simp), (h i hi).1]
    simp [e]

set_option maxRecDepth 10000 in
set_option maxHeartbeats 8000000 in
theorem l5End_any (f : Nat → Sc → Bool) (ao : Option Addr) (cap : Nat) (l : List Sc) (ge : Nat) (why : Int) (lo : Nat) (w : World) (hl : l.length ≤ 20) (hw : why ≠ 0) (hno : ao = none → cap = 0) (hlo : lo ≤ ge) (hge : ge < w.heap.size) (hE : BoolsIn w ge l.length (ends0 f l)) (hz : kS.In lo w ao l) (hg : ∀ j, j < l.length → scB l j = true) :
    Calls Try.prog 41 #[.slice ao l.length cap, .slice (some ⟨ge, 0, none⟩) l.length l.length, .int .i64 why] w fun e w' => (∃ o c o' c', e = .returned (.tuple #[.slice o l.length c, .slice o' (endTo f why l l.length).2.length c']) ∧ kS.Fresh w.heap.size w'.heap.size w' o c (endTo f why l l.length).1 ∧ kI.Fresh w.heap.size w'.heap.size w' o' c' (endTo f why l l.length).2) ∧ Below lo w w' := by
  have HG := hid hg
  have HE0 := hid hE
  have HWN := hid hw
  have HE : Hid (kS.Own w.heap.size (w.alloc (.cells #[] 48)) (.slice (some ⟨w.heap.size, 0, none⟩) 0 0) []) := Kind.Own.new kS _ w (Nat.le_refl _)
  have HZ : Hid (kS.In lo (w.alloc (.cells #[] 48)) ao l) := hz.below ((below1 w _).mono (by omega))
  clear hg hE hw
  go_enter Try.func41, Try.ntmps41
  go_wp2_with (at_builtin; refine Kind.app kS_ok (w.alloc (.cells #[] 48)) rfl (.tmp 12) (.tmp 13) rfl w.heap.size (.slice (some ⟨w.heap.size, 0, none⟩) 0 0) [] rfl HE.out (by simp) ao l l.length cap rfl rfl hno _ HZ.out (by simp; omega) ?_; intro v1 w1 hO1 hb1 hG1 hn1; obtain ⟨g, c, rfl, hF1⟩ := hO1.some (hn1 some_ne); rw [List.nil_append] at hF1; have hB1 : Below w.heap.size w w1 := (below1 w _).trans hb1; have HF1 := hid hF1; have HE1 := hid (HE0.out.keep (hB1.block ge hge)); clear hO1 hb1 hG1 hn1 hF1 HE HZ HE0)
  have hs1 := hB1.size
  go_loopw [9, 17] (fun u i wr => ∃ (k : Nat) (v : Value), v = u ∧ k ≤ l.length ∧ i = .int .i64 k ∧ Hid (kI.Own w1.heap.size wr v (endTo f why l k).2) ∧ Hid (kS.Fresh w.heap.size w1.heap.size wr (some ⟨g, 0, none⟩) c (endTo f why l k).1) ∧ Hid (BoolsIn wr ge l.length (endsAt f why l k)) ∧ Below lo w wr ∧ w1.heap.size ≤ wr.heap.size) (fun _ i _ => l.length - (intOf i).toNat)
  case atStart => exact ⟨0, _, rfl, Nat.zero_le _, rfl, Kind.Own.nil _ _ _, HF1, hid (HE1.out.same fun i _ => by rw [endsAt, if_neg (by omega)]), hB1.mono (by omega), Nat.le_refl _⟩
  case round =>
    obtain ⟨k, v, rfl, hk', rfl, hO, hF, hE, hB, hsz⟩ := hrel
    have hlen : (endTo f why l k).1.length = l.length := endTo_len f why l k
    by_cases hlt : k < l.length
    · have HZ : Hid (kS.In lo w ao l) := hz
      obtain ⟨b, off, rfl, hb0, hc⟩ := kS_at hz hlt
      obtain ⟨g', eg, hg1, hg2, hg3, _⟩ := hF.out.at (by rw [hlen]; omega)
      cases eg
      have d1 := (hB.cell (p := ⟨b, off + k * 3, none⟩) hb0).trans (hc k hlt).1
      have d2 := (hB.cell (p := ⟨b, off + k * 3 + 1, none⟩) hb0).trans (hc k hlt).2.1
      have d3 := (hB.cell (p := ⟨b, off + k * 3 + 2, none⟩) hb0).trans (hc k hlt).2.2
      obtain ⟨⟨y1, y2, y3⟩, ey⟩ : ∃ v, v = el l k := ⟨_, rfl⟩
      rw [← ey] at d1 d2 d3
      have HY : Hid (el l k = (y1, y2, y3)) := ey.symm
      have hkl : k < (endTo f why l k).1.length := by rw [hlen]; exact hlt
      have HEL : Hid (el (endTo f why l k).1 k = (y1, y2, y3)) := by rw [Hid, endTo_rest _ _ _ _ _ (Nat.le_refl _), ← ey]
      clear ey hc hz
      dsimp only at d1 d2 d3
      by_cases hy3 : y3 = 0
      case neg =>
        have hy3' : (y3 != 0) = true := by simpa using hy3
        have HN : Hid (endTo f why l (k + 1) = endTo f why l k) := endTo_no HY.out (.inr (by simpa using hy3))
        have E' := hid (hE.out.same (e' := endsAt f why l (k + 1)) fun i _ => endsAt_skip HY.out hy3 i)
        have hn := below1 wr (.cells #[.int .i64 y1, .int .i64 y2, .int .i64 y3] 48)
        have F2 := hid (hF.out.later hn)
        have O2 := hid (hO.out.below hn)
        have E2 := hid (E'.out.keep (hn.block ge (by omega)))
        have hB2 := hB.trans (hn.mono (by have := hB.size; omega))
        clear hy3 hn
        go_wp2
        go_roundw
        case rel => exact ⟨k + 1, v, rfl, by omega, by go_num, by rw [HN.out]; exact O2, by rw [HN.out]; exact F2, E2, hB2, by simp; omega⟩
        case measure => simp [intOf]; omega
      case pos =>
        subst hy3
        have hsc := HG.out k hlt
        have hup : upB k y1 = true := by
          have h := hsc
          rw [scB, HY.out] at h
          revert h; cases upB (↑k) y1 <;> simp
        have HSC := hid hsc
        have hin := upB_in hup
        clear hsc hup
        have hn := below1 wr (.cells #[.int .i64 y1, .int .i64 y2, .int .i64 0] 48)
        have F2 := hid (hF.out.later hn)
        have O2 := hid (hO.out.below hn)
        have E2 := hid (hE.out.keep (hn.block ge (by omega)))
        have hB2 : Below lo w (wr.alloc (.cells #[.int .i64 y1, .int .i64 y2, .int .i64 0] 48)) := hB.trans (hn.mono (by have := hB.size; omega))
        have c9 := hE.out k hlt
        rw [endsAt_now HY.out] at c9
        obtain ⟨c9a, c9b⟩ := c9
        have hgw : ge < wr.heap.size := by omega
        have hgw2 : g < wr.heap.size := by omega
        have o1 := (hF.out.cells k hkl 2 (by decide)).1.trans (by rw [HEL.out]; rfl : _ = some (.int .i64 0))
        have o2 := (hF.out.cells k hkl 2 (by decide)).2
        have o1' : wr.cell? ⟨g, k * 3 + 2, none⟩ = some (.int .i64 0) := o1
        have o2' : wr.frozen? ⟨g, k * 3 + 2, none⟩ = false := o2
        have hkI : (k : Int) < (l.length : Int) := by omega
        clear hn o1 o2
        by_cases hm : y1 = -1
        · have hm0 : decide (0 ≤ y1) = false := by simp; omega
          have HAB : Hid (aboveB (endTo f why l k).1 y1 = false) := by rw [Hid, hm]; rfl
          clear hin hm
          obtain ⟨fx, hfx⟩ : ∃ x, f k (y1, y2, 0) = x := ⟨_, rfl⟩
          have HFX := hid hfx
          rw [hfx] at c9a
          clear hfx
          cases fx
          · have HN : Hid (endTo f why l (k + 1) = endTo f why l k) := endTo_no HY.out (.inl (by rw [HFX.out, HAB.out]; rfl))
            have E3 : Hid (BoolsIn (wr.alloc (.cells #[.int .i64 y1, .int .i64 y2, .int .i64 0] 48)) ge l.length (endsAt f why l (k + 1))) := E2.out.same fun i _ => (by by_cases e : i = k; (subst e; rw [endsAt_no HY.out (by rw [HFX.out, HAB.out]; rfl), endsAt_now HY.out, HFX.out]); (exact endsAt_other e))
            go_wp2
            go_roundw
            case rel => exact ⟨k + 1, v, rfl, by omega, by go_num, by rw [HN.out]; exact O2, by rw [HN.out]; exact F2, E3, hB2, by simp; omega⟩
            case measure => simp [intOf]; omega
          · have HE' : Hid (endTo f why l (k + 1) = ((endTo f why l k).1.set k (y1, y2, why), (endTo f why l k).2 ++ [(k : Int)])) := endTo_yes HY.out (by rw [HFX.out]; rfl)
            have hn3 := below1 (wr.setCell ⟨g, k * 3 + 2, none⟩ (.int .i64 why)) (.cells #[.int .i64 y1, .int .i64 y2, .int .i64 0] 48)
            have F3 : Hid (kS.Fresh w.heap.size w1.heap.size ((wr.setCell ⟨g, k * 3 + 2, none⟩ (.int .i64 why)).alloc (.cells #[.int .i64 y1, .int .i64 y2, .int .i64 0] 48)) (some ⟨g, 0, none⟩) c ((endTo f why l k).1.set k (y1, y2, why))) := (Kind.Fresh.set hF.out k hkl 2 (by decide) (.int .i64 why) (y1, y2, why) (by rw [HEL.out]; rfl)).later hn3
            have O3 : Hid (kI.Own w1.heap.size ((wr.setCell ⟨g, k * 3 + 2, none⟩ (.int .i64 why)).alloc (.cells #[.int .i64 y1, .int .i64 y2, .int .i64 0] 48)) v (endTo f why l k).2) := (hO.out.setBelow (a := ⟨g, k * 3 + 2, none⟩) (by simpa using hg2) _).below hn3
            have hB3 : Below lo w ((wr.setCell ⟨g, k * 3 + 2, none⟩ (.int .i64 why)).alloc (.cells #[.int .i64 y1, .int .i64 y2, .int .i64 0] 48)) := (hB.setCell (p := ⟨g, k * 3 + 2, none⟩) (by simp; omega) _).trans (hn3.mono (by have := hB.size; simp; omega))
            have E3 : Hid (BoolsIn ((wr.setCell ⟨g, k * 3 + 2, none⟩ (.int .i64 why)).alloc (.cells #[.int .i64 y1, .int .i64 y2, .int .i64 0] 48)) ge l.length (endsAt f why l (k + 1))) := ((BoolsIn.same hE.out (fun i _ => (by by_cases e : i = k; (subst e; rw [endsAt_yes hlt HWN.out HY.out (by rw [HFX.out]; rfl), endsAt_now HY.out, HFX.out]); (exact endsAt_other e)))).keep (Below.heap_setCell _ ⟨g, k * 3 + 2, none⟩ _ ge (by simp; omega))).keep (hn3.block ge (by simp; omega))
            clear hn3
            obtain ⟨W6, hW6⟩ : ∃ W6, W6 = ((wr.setCell ⟨g, k * 3 + 2, none⟩ (.int .i64 why)).alloc (.cells #[.int .i64 y1, .int .i64 y2, .int .i64 0] 48)) := ⟨_, rfl⟩
            have HW6 := hid hW6
            have hs6 : wr.heap.size + 1 = W6.heap.size := by rw [hW6]; simp
            rw [← hW6] at F3 O3 hB3 E3
            clear hW6
            have HA : Hid (kI.Own w1.heap.size (W6.alloc (.cells #[.int .i64 (k : Int)] 3)) v (endTo f why l k).2) := O3.out.below (below1 _ _)
            have HN : Hid (kI.In (wr.heap.size + 1 + 1) (W6.alloc (.cells #[.int .i64 (k : Int)] 3)) (some ⟨wr.heap.size + 1, 0, none⟩) [(k : Int)]) := by rw [Hid, hs6]; exact int_one (by omega) (by simp)
            have hll : (endTo f why l k).2.length + 1 ≤ 4194304 := by have := endTo_num f why l k; omega
            have hn4 := below1 W6 (.cells #[.int .i64 (k : Int)] 3)
            have F4 := hid (F3.out.later hn4)
            have hB4 : Below lo w (W6.alloc (.cells #[.int .i64 (k : Int)] 3)) := hB3.trans (hn4.mono (by omega))
            have E4 := hid (E3.out.keep (hn4.block ge (by omega)))
            have HS6 := hid hs6
            clear hs6 hn4
            go_wp2_with (at_builtin; rw [← HW6.out]; refine Kind.app kI_ok (W6.alloc (.cells #[.int .i64 (k : Int)] 3)) rfl (.tmp 47) (.tmp 49) rfl w1.heap.size v (endTo f why l k).2 rfl HA.out (by have := HS6.out; simp; omega) (some ⟨wr.heap.size + 1, 0, none⟩) [(k : Int)] 1 1 rfl rfl (by simp) _ HN.out hll ?_; intro v' w' hO' hB' hG' hn'; have hB8 : Below lo w w' := hB4.trans (hB'.mono (by omega)); have hs8 : w1.heap.size ≤ w'.heap.size := (by have := hB'.size; have := HS6.out; simp at *; omega); have F8 : Hid (kS.Fresh w.heap.size w1.heap.size w' (some ⟨g, 0, none⟩) c (endTo f why l (k + 1)).1) := (by rw [HE'.out]; exact F4.out.keep fun i _ h2 _ => hB'.block i h2); have O8 : Hid (kI.Own w1.heap.size w' v' (endTo f why l (k + 1)).2) := (by rw [HE'.out]; exact hO'); have E8 := hid (E4.out.keep (hB'.block ge (by omega))); clear hO' hB' hG' hn')
            go_roundw
            case rel => exact ⟨k + 1, v', rfl, by omega, by go_num, O8, F8, E8, hB8, hs8⟩
            case measure => simp [intOf]; omega
        · have hin' : 0 ≤ y1 ∧ y1 < k := by rcases hin with h | h; exact absurd h hm; exact h
          obtain ⟨u, rfl⟩ : ∃ u : Nat, y1 = u := ⟨y1.toNat, by omega⟩
          have huk : u < k := by omega
          have cu := (hE.out u (by omega)).1
          rw [above_ends huk HY.out HSC.out] at cu
          have hm0 : decide (0 ≤ (u : Int)) = true := by simp
          have huI : (u : Int) < (l.length : Int) := by omega
          obtain ⟨ax, hax⟩ : ∃ x, aboveB (endTo f why l k).1 u = x := ⟨_, rfl⟩
          have HAB := hid hax
          rw [hax] at cu
          clear hin hin' hm hax
          cases ax
          · obtain ⟨fx, hfx⟩ : ∃ x, f k ((u : Int), y2, 0) = x := ⟨_, rfl⟩
            have HFX := hid hfx
            rw [hfx] at c9a
            clear hfx
            cases fx
            · have HN : Hid (endTo f why l (k + 1) = endTo f why l k) := endTo_no HY.out (.inl (by rw [HFX.out, HAB.out]; rfl))
              have E3 : Hid (BoolsIn (wr.alloc (.cells #[.int .i64 (u : Int), .int .i64 y2, .int .i64 0] 48)) ge l.length (endsAt f why l (k + 1))) := E2.out.same fun i _ => (by by_cases e : i = k; (subst e; rw [endsAt_no HY.out (by rw [HFX.out, HAB.out]; rfl), endsAt_now HY.out, HFX.out]); (exact endsAt_other e))
              go_wp2
              go_roundw
              case rel => exact ⟨k + 1, v, rfl, by omega, by go_num, by rw [HN.out]; exact O2, by rw [HN.out]; exact F2, E3, hB2, by simp; omega⟩
              case measure => simp [intOf]; omega
            · have HE' : Hid (endTo f why l (k + 1) = ((endTo f why l k).1.set k ((u : Int), y2, why), (endTo f why l k).2 ++ [(k : Int)])) := endTo_yes HY.out (by rw [HFX.out]; rfl)
              have hn3 := below1 (wr.setCell ⟨g, k * 3 + 2, none⟩ (.int .i64 why)) (.cells #[.int .i64 (u : Int), .int .i64 y2, .int .i64 0] 48)
              have F3 : Hid (kS.Fresh w.heap.size w1.heap.size ((wr.setCell ⟨g, k * 3 + 2, none⟩ (.int .i64 why)).alloc (.cells #[.int .i64 (u : Int), .int .i64 y2, .int .i64 0] 48)) (some ⟨g, 0, none⟩) c ((endTo f why l k).1.set k ((u : Int), y2, why))) := (Kind.Fresh.set hF.out k hkl 2 (by decide) (.int .i64 why) ((u : Int), y2, why) (by rw [HEL.out]; rfl)).later hn3
              have O3 : Hid (kI.Own w1.heap.size ((wr.setCell ⟨g, k * 3 + 2, none⟩ (.int .i64 why)).alloc (.cells #[.int .i64 (u : Int), .int .i64 y2, .int .i64 0] 48)) v (endTo f why l k).2) := (hO.out.setBelow (a := ⟨g, k * 3 + 2, none⟩) (by simpa using hg2) _).below hn3
              have hB3 : Below lo w ((wr.setCell ⟨g, k * 3 + 2, none⟩ (.int .i64 why)).alloc (.cells #[.int .i64 (u : Int), .int .i64 y2, .int .i64 0] 48)) := (hB.setCell (p := ⟨g, k * 3 + 2, none⟩) (by simp; omega) _).trans (hn3.mono (by have := hB.size; simp; omega))
              have E3 : Hid (BoolsIn ((wr.setCell ⟨g, k * 3 + 2, none⟩ (.int .i64 why)).alloc (.cells #[.int .i64 (u : Int), .int .i64 y2, .int .i64 0] 48)) ge l.length (endsAt f why l (k + 1))) := ((BoolsIn.same hE.out (fun i _ => (by by_cases e : i = k; (subst e; rw [endsAt_yes hlt HWN.out HY.out (by rw [HFX.out]; rfl), endsAt_now HY.out, HFX.out]); (exact endsAt_other e)))).keep (Below.heap_setCell _ ⟨g, k * 3 + 2, none⟩ _ ge (by simp; omega))).keep (hn3.block ge (by simp; omega))
              clear hn3
              obtain ⟨W6, hW6⟩ : ∃ W6, W6 = ((wr.setCell ⟨g, k * 3 + 2, none⟩ (.int .i64 why)).alloc (.cells #[.int .i64 (u : Int), .int .i64 y2, .int .i64 0] 48)) := ⟨_, rfl⟩
              have HW6 := hid hW6
              have hs6 : wr.heap.size + 1 = W6.heap.size := by rw [hW6]; simp
              rw [← hW6] at F3 O3 hB3 E3
              clear hW6
              have HA : Hid (kI.Own w1.heap.size (W6.alloc (.cells #[.int .i64 (k : Int)] 3)) v (endTo f why l k).2) := O3.out.below (below1 _ _)
              have HN : Hid (kI.In (wr.heap.size + 1 + 1) (W6.alloc (.cells #[.int .i64 (k : Int)] 3)) (some ⟨wr.heap.size + 1, 0, none⟩) [(k : Int)]) := by rw [Hid, hs6]; exact int_one (by omega) (by simp)
              have hll : (endTo f why l k).2.length + 1 ≤ 4194304 := by have := endTo_num f why l k; omega
              have hn4 := below1 W6 (.cells #[.int .i64 (k : Int)] 3)
              have F4 := hid (F3.out.later hn4)
              have hB4 : Below lo w (W6.alloc (.cells #[.int .i64 (k : Int)] 3)) := hB3.trans (hn4.mono (by omega))
              have E4 := hid (E3.out.keep (hn4.block ge (by omega)))
              have HS6 := hid hs6
              clear hs6 hn4
              go_wp2_with (at_builtin; rw [← HW6.out]; refine Kind.app kI_ok (W6.alloc (.cells #[.int .i64 (k : Int)] 3)) rfl (.tmp 47) (.tmp 49) rfl w1.heap.size v (endTo f why l k).2 rfl HA.out (by have := HS6.out; simp; omega) (some ⟨wr.heap.size + 1, 0, none⟩) [(k : Int)] 1 1 rfl rfl (by simp) _ HN.out hll ?_; intro v' w' hO' hB' hG' hn'; have hB8 : Below lo w w' := hB4.trans (hB'.mono (by omega)); have hs8 : w1.heap.size ≤ w'.heap.size := (by have := hB'.size; have := HS6.out; simp at *; omega); have F8 : Hid (kS.Fresh w.heap.size w1.heap.size w' (some ⟨g, 0, none⟩) c (endTo f why l (k + 1)).1) := (by rw [HE'.out]; exact F4.out.keep fun i _ h2 _ => hB'.block i h2); have O8 : Hid (kI.Own w1.heap.size w' v' (endTo f why l (k + 1)).2) := (by rw [HE'.out]; exact hO'); have E8 := hid (E4.out.keep (hB'.block ge (by omega))); clear hO' hB' hG' hn')
              go_roundw
              case rel => exact ⟨k + 1, v', rfl, by omega, by go_num, O8, F8, E8, hB8, hs8⟩
              case measure => simp [intOf]; omega
          · have HE' : Hid (endTo f why l (k + 1) = ((endTo f why l k).1.set k ((u : Int), y2, why), (endTo f why l k).2 ++ [(k : Int)])) := endTo_yes HY.out (by rw [HAB.out]; simp)
            have hn3 := below1 ((wr.setCell ⟨ge, k, none⟩ (.bool true)).setCell ⟨g, k * 3 + 2, none⟩ (.int .i64 why)) (.cells #[.int .i64 (u : Int), .int .i64 y2, .int .i64 0] 48)
            have F3 : Hid (kS.Fresh w.heap.size w1.heap.size (((wr.setCell ⟨ge, k, none⟩ (.bool true)).setCell ⟨g, k * 3 + 2, none⟩ (.int .i64 why)).alloc (.cells #[.int .i64 (u : Int), .int .i64 y2, .int .i64 0] 48)) (some ⟨g, 0, none⟩) c ((endTo f why l k).1.set k ((u : Int), y2, why))) := (Kind.Fresh.set (hF.out.setBelow (a := ⟨ge, k, none⟩) (by simpa using hge) _) k hkl 2 (by decide) (.int .i64 why) ((u : Int), y2, why) (by rw [HEL.out]; rfl)).later hn3
            have O3 : Hid (kI.Own w1.heap.size (((wr.setCell ⟨ge, k, none⟩ (.bool true)).setCell ⟨g, k * 3 + 2, none⟩ (.int .i64 why)).alloc (.cells #[.int .i64 (u : Int), .int .i64 y2, .int .i64 0] 48)) v (endTo f why l k).2) := ((hO.out.setBelow (a := ⟨ge, k, none⟩) (by simp; omega) _).setBelow (a := ⟨g, k * 3 + 2, none⟩) (by simpa using hg2) _).below hn3
            have hB3 : Below lo w (((wr.setCell ⟨ge, k, none⟩ (.bool true)).setCell ⟨g, k * 3 + 2, none⟩ (.int .i64 why)).alloc (.cells #[.int .i64 (u : Int), .int .i64 y2, .int .i64 0] 48)) := ((hB.setCell (p := ⟨ge, k, none⟩) hlo _).setCell (p := ⟨g, k * 3 + 2, none⟩) (by simp; omega) _).trans (hn3.mono (by have := hB.size; simp; omega))
            have E3 : Hid (BoolsIn (((wr.setCell ⟨ge, k, none⟩ (.bool true)).setCell ⟨g, k * 3 + 2, none⟩ (.int .i64 why)).alloc (.cells #[.int .i64 (u : Int), .int .i64 y2, .int .i64 0] 48)) ge l.length (endsAt f why l (k + 1))) := ((BoolsIn.same (hE.out.set k true) (fun i _ => (by by_cases e : i = k; (subst e; rw [endsAt_yes hlt HWN.out HY.out (by rw [HAB.out]; simp), if_pos rfl]); (rw [if_neg e]; exact endsAt_other e)))).keep (Below.heap_setCell _ ⟨g, k * 3 + 2, none⟩ _ ge (by simp; omega))).keep (hn3.block ge (by simp; omega))
            clear hn3
            obtain ⟨W6, hW6⟩ : ∃ W6, W6 = (((wr.setCell ⟨ge, k, none⟩ (.bool true)).setCell ⟨g, k * 3 + 2, none⟩ (.int .i64 why)).alloc (.cells #[.int .i64 (u : Int), .int .i64 y2, .int .i64 0] 48)) := ⟨_, rfl⟩
            have HW6 := hid hW6
            have hs6 : wr.heap.size + 1 = W6.heap.size := by rw [hW6]; simp
            rw [← hW6] at F3 O3 hB3 E3
            clear hW6
            have HA : Hid (kI.Own w1.heap.size (W6.alloc (.cells #[.int .i64 (k : Int)] 3)) v (endTo f why l k).2) := O3.out.below (below1 _ _)
            have HN : Hid (kI.In (wr.heap.size + 1 + 1) (W6.alloc (.cells #[.int .i64 (k : Int)] 3)) (some ⟨wr.heap.size + 1, 0, none⟩) [(k : Int)]) := by rw [Hid, hs6]; exact int_one (by omega) (by simp)
            have hll : (endTo f why l k).2.length + 1 ≤ 4194304 := by have := endTo_num f why l k; omega
            have hn4 := below1 W6 (.cells #[.int .i64 (k : Int)] 3)
            have F4 := hid (F3.out.later hn4)
            have hB4 : Below lo w (W6.alloc (.cells #[.int .i64 (k : Int)] 3)) := hB3.trans (hn4.mono (by omega))
            have E4 := hid (E3.out.keep (hn4.block ge (by omega)))
            have HS6 := hid hs6
            clear hs6 hn4
            go_wp2_with (at_builtin; rw [← HW6.out]; refine Kind.app kI_ok (W6.alloc (.cells #[.int .i64 (k : Int)] 3)) rfl (.tmp 47) (.tmp 49) rfl w1.heap.size v (endTo f why l k).2 rfl HA.out (by have := HS6.out; simp; omega) (some ⟨wr.heap.size + 1, 0, none⟩) [(k : Int)] 1 1 rfl rfl (by simp) _ HN.out hll ?_; intro v' w' hO' hB' hG' hn'; have hB8 : Below lo w w' := hB4.trans (hB'.mono (by omega)); have hs8 : w1.heap.size ≤ w'.heap.size := (by have := hB'.size; have := HS6.out; simp at *; omega); have F8 : Hid (kS.Fresh w.heap.size w1.heap.size w' (some ⟨g, 0, none⟩) c (endTo f why l (k + 1)).1) := (by rw [HE'.out]; exact F4.out.keep fun i _ h2 _ => hB'.block i h2); have O8 : Hid (kI.Own w1.heap.size w' v' (endTo f why l (k + 1)).2) := (by rw [HE'.out]; exact hO'); have E8 := hid (E4.out.keep (hB'.block ge (by omega))); clear hO' hB' hG' hn')
            go_roundw
            case rel => exact ⟨k + 1, v', rfl, by omega, by go_num, O8, F8, E8, hB8, hs8⟩
            case measure => simp [intOf]; omega
    · obtain rfl : k = l.length := by omega
      obtain ⟨no, nc, rfl, _, hF3⟩ := hO.out.fresh
      have HF3 := hid hF3
      clear hF3
      go_wp2
      refine bodyPost_ret (v := .tuple #[.slice (some ⟨g, 0, none⟩) l.length c, .slice no (endTo f why l l.length).2.length nc]) (by simp [results, Try.results41, go_sem]) rfl ?_
      exact ⟨⟨_, c, no, nc, rfl, hF.out.wide (Nat.le_refl _) hsz, HF3.out.wide hs1 (Nat.le_refl _)⟩, hB⟩
end
section
open Go.RowKit

theorem Try.info4 : (Try.prog.info? 4).map (fun i => (i.zero, i.size, i.bytes)) = some (some (.bool false), 1, 1) := by kernel_rfl
theorem bools_made {w : World} {lo g n : Nat} (h : w.ownsRow lo 4 1 (.slice (some ⟨g, 0, none⟩) n n) n (madeCells (Value.bool false).cells (n * 1)).toList) : BoolsIn w g n (fun _ => false) := fun i hi => by
  refine ⟨?_, h.frozenAt i⟩
  rw [h.cellAt i (by omega)]
  have : (madeCells (Value.bool false).cells (n * 1)).toList = List.replicate (n * 1) (.bool false) := toList_madeCells_one _ _
  rw [this]; simp [hi]
set_option maxRecDepth 10000 in
set_option maxHeartbeats 4000000 in
theorem specCancel_any (ao : Option Addr) (cap : Nat) (l : List Sc) (iv : Int) (w : World) (hl : l.length ≤ 1048576) (hno : ao = none → cap = 0) (hz : kS.In w.heap.size w ao l) :
    Calls Try.prog 15 #[.slice ao l.length cap, .int .i64 iv] w fun e w' => AnsC w (cancelR l iv) e w' := by
  cases hg : scopesB l
  · have HG := hid hg
    have HR : Hid (cancelR l iv = ([], [], 2)) := cancelR_bad hg
    clear hg
    go_enter Try.func15, Try.ntmps15
    go_wp2_with fail
    refine (specGoodScopes_is ao cap l w false hl hz HG.out).mono ?_
    rintro e w1 ⟨rfl, hB1⟩
    go_wp2
    refine bodyPost_ret (v := .tuple #[.slice none 0 0, .slice none 0 0, .int .i64 2]) (by simp [results, Try.results15, go_sem]) rfl ?_
    rw [HR.out]
    exact ⟨⟨none, 0, none, 0, rfl, .inl rfl, .inl rfl⟩, hB1⟩
  have HG := hid hg
  have h20 := (scopesB_good hg).1
  cases hi : (decide (0 ≤ iv) && decide (iv ≤ (l.length : Int) - 1))
  · have HI := hid hi
    have HR : Hid (cancelR l iv = ([], [], 2)) := cancelR_none (by simp at hi; omega)
    clear hg hi
    go_enter Try.func15, Try.ntmps15
    go_wp2_with fail
    refine (specGoodScopes_is ao cap l w true hl hz HG.out).mono ?_
    rintro e w1 ⟨rfl, hB1⟩
    go_wp2_with fail
    refine (l1In_is iv 0 ((l.length : Int) - 1) _ false HI.out).mono ?_
    rintro e w2 ⟨rfl, hw2⟩
    rw [hw2]
    clear hw2 w2
    go_wp2
    refine bodyPost_ret (v := .tuple #[.slice none 0 0, .slice none 0 0, .int .i64 2]) (by simp [results, Try.results15, go_sem]) rfl ?_
    rw [HR.out]
    exact ⟨⟨none, 0, none, 0, rfl, .inl rfl, .inl rfl⟩, hB1⟩
  have HI := hid hi
  have hin : 0 ≤ iv ∧ iv < l.length := by simp at hi; omega
  clear hi
  obtain ⟨k, rfl⟩ : ∃ k : Nat, iv = k := ⟨iv.toNat, by omega⟩
  have hk : k < l.length := by omega
  have hkI : (k : Int) < (l.length : Int) := by omega
  have HZ := hid hz
  obtain ⟨b, off, rfl, hb0, hc⟩ := kS_at hz hk
  have c0 := (hc k hk).2.2
  obtain ⟨z, ez⟩ : ∃ z, z = (el l k).2.2 := ⟨_, rfl⟩
  rw [← ez] at c0
  have HEZ := hid ez
  clear hc ez hin
  by_cases hz0 : z = 0
  · have hz0' : (z != 0) = false := by simpa using hz0
    have HR : Hid (cancelR l k = ((endTo (isB k) 1 l l.length).1, (endTo (isB k) 1 l l.length).2, 0)) := cancelR_done hg hk (by rw [← HEZ.out]; exact hz0)
    have HE0 : Hid (∀ i, i < l.length → ends0 (isB k) l i = (if i = k then true else false)) := fun i _ => by
      by_cases e : i = k
      · subst e
        rw [ends0, ← HEZ.out, hz0]; simp [isB]
      · have h1 : isB k i (el l i) = false := by simp [isB]; omega
        rw [ends0, h1, if_neg e]; simp
    have HGG := hid (scopesB_good hg).2
    obtain ⟨i0, hi, hz0, hz1, hz2⟩ := info_parts Try.info4
    clear hg
    go_enter Try.func15, Try.ntmps15
    go_wp2_with fail
    refine (specGoodScopes_is (some ⟨b, off, none⟩) cap l w true hl hz HG.out).mono ?_
    rintro e w1 ⟨rfl, hB1⟩
    go_wp2_with fail
    refine (l1In_is k 0 ((l.length : Int) - 1) _ true HI.out).mono ?_
    rintro e w2 ⟨rfl, hw2⟩
    rw [hw2]
    clear hw2 w2
    have cz := (hB1.cell (p := ⟨b, off + k * 3 + 2, none⟩) hb0).trans c0
    go_wp2_with (at_make; refine wpList_make_full _ rfl _ _ 79 rfl w.heap.size 4 i0 (.bool false) 1 Try.underlying79 hi hz0 hz1 .i64 .i64 _ _ l.length rfl rfl rfl rfl (by rw [hz2]; omega) (by unfold maxLen; omega) hB1.size ?_; intro w2 hown hgrow; have hb2 : Below w1.heap.size w1 w2 := below_of_grown hgrow; have hB2 := hB1.trans (hb2.mono hB1.size); have hge := (owns_lt hown).2; have E0 : Hid (BoolsIn w2 w1.heap.size l.length (fun _ => false)) := bools_made hown; clear hown hgrow; have e1 := (E0.out k hk).1; have e2 := (E0.out k hk).2; have cz2 := (hb2.cell (p := ⟨b, off + k * 3 + 2, none⟩) (Nat.lt_of_lt_of_le hb0 hB1.size)).trans cz)
    have E1 : Hid (BoolsIn (w2.setCell ⟨w1.heap.size, k, none⟩ (.bool true)) w1.heap.size l.length (ends0 (isB k) l)) := (E0.out.set k true).same fun i hi => HE0.out i hi
    have hB3 : Below w.heap.size w (w2.setCell ⟨w1.heap.size, k, none⟩ (.bool true)) := hB2.setCell (p := ⟨w1.heap.size, k, none⟩) hB1.size _
    have Z3 : Hid (kS.In w.heap.size (w2.setCell ⟨w1.heap.size, k, none⟩ (.bool true)) (some ⟨b, off, none⟩) l) := HZ.out.below hB3
    refine (l5End_any (isB k) (some ⟨b, off, none⟩) cap l w1.heap.size 1 w.heap.size _ h20 (by decide) hno hB1.size (by simpa using hge) E1.out Z3.out HGG.out).mono ?_
    rintro e w4 ⟨⟨o, c, o', c', rfl, hF1, hF2⟩, hb4⟩
    have HF := hid (And.intro hF1 hF2)
    have hB4 := hB3.trans hb4
    have hs3 : w.heap.size ≤ (w2.setCell ⟨w1.heap.size, k, none⟩ (.bool true)).heap.size := hB3.size
    clear hF1 hF2 hb4
    go_wp2
    refine bodyPost_ret (v := .tuple #[.slice o l.length c, .slice o' (endTo (isB k) 1 l l.length).2.length c', .int .i64 0]) (by simp [results, Try.results15, go_sem]) rfl ?_
    rw [HR.out]
    exact ⟨⟨o, c, o', c', by rw [endTo_len], HF.out.1.wide hs3 (Nat.le_refl _), HF.out.2.wide hs3 (Nat.le_refl _)⟩, hB4⟩
  · have hz0' : (z != 0) = true := by simpa using hz0
    have HR : Hid (cancelR l k = (l, [], 4)) := cancelR_busy hg hk (by rw [← HEZ.out]; exact hz0)
    clear hg hz0
    go_enter Try.func15, Try.ntmps15
    go_wp2_with fail
    refine (specGoodScopes_is (some ⟨b, off, none⟩) cap l w true hl hz HG.out).mono ?_
    rintro e w1 ⟨rfl, hB1⟩
    go_wp2_with fail
    refine (l1In_is k 0 ((l.length : Int) - 1) _ true HI.out).mono ?_
    rintro e w2 ⟨rfl, hw2⟩
    rw [hw2]
    clear hw2 w2
    have cz := (hB1.cell (p := ⟨b, off + k * 3 + 2, none⟩) hb0).trans c0
    have HE : Hid (kS.Own w.heap.size (w1.alloc (.cells #[] 48)) (.slice (some ⟨w1.heap.size, 0, none⟩) 0 0) []) := Kind.Own.new kS _ w1 hB1.size
    have HZ1 : Hid (kS.In w1.heap.size (w1.alloc (.cells #[] 48)) (some ⟨b, off, none⟩) l) := (hz.later hB1).below (below1 _ _)
    have hBe := Below.allocS hB1 (.cells #[] 48)
    go_wp2_with (at_builtin; refine Kind.app kS_ok (w1.alloc (.cells #[] 48)) rfl (.tmp 27) (.tmp 28) rfl w.heap.size (.slice (some ⟨w1.heap.size, 0, none⟩) 0 0) [] rfl HE.out hBe.size (some ⟨b, off, none⟩) l l.length cap rfl rfl hno _ HZ1.out (by simp; omega) ?_; intro v3 w3 hO3 hB3 hG3 hn3; obtain ⟨g, c, rfl, hF3⟩ := hO3.some (hn3 some_ne); rw [List.nil_append] at hF3; have hB4 : Below w.heap.size w w3 := hBe.trans hB3; have HF3 := hid hF3; clear hO3 hB3 hG3 hn3 hF3 HE HZ1 hBe)
    refine bodyPost_ret (v := .tuple #[.slice (some ⟨g, 0, none⟩) l.length c, .slice none 0 0, .int .i64 4]) (by simp [results, Try.results15, go_sem]) rfl ?_
    rw [HR.out]
    exact ⟨⟨_, c, none, 0, rfl, HF3.out, .inl rfl⟩, hB4⟩
end
section
open Go.RowKit

theorem upB_pos {n : Nat} {up : Int} (h : n ≠ 0) : upB n up = (decide (0 ≤ up) && decide (up ≤ (n : Int) - 1)) := by
  rw [upB, if_neg (by omega)]
  congr 1
  exact decide_eq_decide.2 (by omega)
set_option maxRecDepth 10000 in
set_option maxHeartbeats 8000000 in
theorem specNew_any (ao : Option Addr) (cap : Nat) (l : List Sc) (iv jv : Int) (w : World) (hl : l.length ≤ 1048576) (hno : ao = none → cap = 0) (hz : kS.In w.heap.size w ao l) :
    Calls Try.prog 56 #[.slice ao l.length cap, .int .i64 iv, .int .i64 jv] w fun e w' => AnsN w (newR l iv jv) e w' := by
  cases hg : scopesB l
  · have HG : Hid (scopesB l = false) := hg
    have HR : Hid (newR l iv jv = ([], 0, 2)) := newR_bad (by rw [newB, hg]; rfl)
    clear hg
    by_cases h0 : l.length = 0
    · have z1 := (len0 h0).1
      clear h0
      cases hm : (iv == -1)
      all_goals
        go_enter Try.func56, Try.ntmps56
        go_wp2_with fail
        refine (specGoodScopes_is ao cap l w false hl hz HG.out).mono ?_
        rintro e w1 ⟨rfl, hB1⟩
        go_wp2
        refine bodyPost_ret (v := .tuple #[.slice none 0 0, .int .i64 0, .int .i64 2]) (by simp [results, Try.results56, go_sem]) rfl ?_
        rw [HR.out]
        exact ⟨⟨none, 0, rfl, .inl rfl⟩, hB1⟩
    · have z1 := (len1 h0).1
      clear h0
      go_enter Try.func56, Try.ntmps56
      go_wp2_with fail
      refine (specGoodScopes_is ao cap l w false hl hz HG.out).mono ?_
      rintro e w1 ⟨rfl, hB1⟩
      go_wp2
      refine bodyPost_ret (v := .tuple #[.slice none 0 0, .int .i64 0, .int .i64 2]) (by simp [results, Try.results56, go_sem]) rfl ?_
      rw [HR.out]
      exact ⟨⟨none, 0, rfl, .inl rfl⟩, hB1⟩
  have HG : Hid (scopesB l = true) := hg
  have h20 := (scopesB_good hg).1
  by_cases h0 : l.length = 0
  · have z1 := (len0 h0).1
    cases hm : (iv == -1)
    · have HI : Hid ((decide (0 ≤ iv) && decide (iv ≤ (l.length : Int) - 1)) = false) := by rw [Hid, h0]; simp; omega
      have HR : Hid (newR l iv jv = ([], 0, 2)) := newR_bad (by rw [newB, upB, if_pos (by omega), hm]; simp)
      clear hg h0
      go_enter Try.func56, Try.ntmps56
      go_wp2_with fail
      refine (specGoodScopes_is ao cap l w true hl hz HG.out).mono ?_
      rintro e w1 ⟨rfl, hB1⟩
      go_wp2_with fail
      refine (l1In_is iv 0 ((l.length : Int) - 1) _ false HI.out).mono ?_
      rintro e w2 ⟨rfl, hw2⟩
      rw [hw2]
      clear hw2 w2
      go_wp2
      refine bodyPost_ret (v := .tuple #[.slice none 0 0, .int .i64 0, .int .i64 2]) (by simp [results, Try.results56, go_sem]) rfl ?_
      rw [HR.out]
      exact ⟨⟨none, 0, rfl, .inl rfl⟩, hB1⟩
    have hu : upB l.length iv = true := by rw [upB, if_pos (by omega), hm]
    have hm1 : iv = -1 := by simpa using hm
    have HM1 := hid hm1
    clear hm1
    by_cases hd : jv < 0
    · have hd' : decide (jv < 0) = true := by simpa using hd
      have HR : Hid (newR l iv jv = ([], 0, 2)) := newR_bad (by have : decide (0 ≤ jv) = false := by simp; omega
                                                                rw [newB, this]; simp)
      clear h0
      go_enter Try.func56, Try.ntmps56
      go_wp2_with fail
      refine (specGoodScopes_is ao cap l w true hl hz HG.out).mono ?_
      rintro e w1 ⟨rfl, hB1⟩
      go_wp2
      refine bodyPost_ret (v := .tuple #[.slice none 0 0, .int .i64 0, .int .i64 2]) (by simp [results, Try.results56, go_sem]) rfl ?_
      rw [HR.out]
      exact ⟨⟨none, 0, rfl, .inl rfl⟩, hB1⟩
    have hd' : decide (jv < 0) = false := by simpa using hd
    by_cases h2 : l.length = 20
    · have h2' : ((l.length : Int) == 20) = true := by simp; omega
      have HR : Hid (newR l iv jv = ([], 0, 2)) := newR_bad (by rw [newB, h2]; simp)
      clear h2
      clear h0
      go_enter Try.func56, Try.ntmps56
      go_wp2_with fail
      refine (specGoodScopes_is ao cap l w true hl hz HG.out).mono ?_
      rintro e w1 ⟨rfl, hB1⟩
      go_wp2
      refine bodyPost_ret (v := .tuple #[.slice none 0 0, .int .i64 0, .int .i64 2]) (by simp [results, Try.results56, go_sem]) rfl ?_
      rw [HR.out]
      exact ⟨⟨none, 0, rfl, .inl rfl⟩, hB1⟩
    have h2' : ((l.length : Int) == 20) = false := by simp; omega
    have hnb : newB l iv jv = true := by rw [newB, hg, hu]; simp [h2]; omega
    have HR : Hid (newR l iv jv = (l ++ [(iv, jv, 0)], (l.length : Int), 0)) := by rw [Hid, newR_good hnb, whyOf, if_pos HM1.out]
    clear h0 hg hu hnb h2
    go_enter Try.func56, Try.ntmps56
    go_wp2_with fail
    refine (specGoodScopes_is ao cap l w true hl hz HG.out).mono ?_
    rintro e w1 ⟨rfl, hB1⟩
    have HE : Hid (kS.Own w.heap.size (w1.alloc (.cells #[] 48)) (.slice (some ⟨w1.heap.size, 0, none⟩) 0 0) []) := Kind.Own.new kS _ w1 hB1.size
    have HZ : Hid (kS.In w1.heap.size (w1.alloc (.cells #[] 48)) ao l) := (hz.later hB1).below (below1 _ _)
    have hBe := Below.allocS hB1 (.cells #[] 48)
    go_wp2_with (at_builtin; first
      | (have _g := HW4; refine Kind.app kS_ok ((w3.alloc (.cells #[.int .i64 iv, .int .i64 jv, .int .i64 0] 48)).alloc (.cells #[.int .i64 iv, .int .i64 jv, .int .i64 0] 48)) rfl (.tmp 56) (.tmp 58) rfl w.heap.size (.slice (some ⟨g, 0, none⟩) l.length c) l rfl HO5.out hBV.size (some ⟨w3.heap.size + 1, 0, none⟩) [(iv, jv, 0)] 1 1 rfl rfl (by simp) _ HN5.out (by simp; omega) ?_; intro v6 w6 hO6 hB6 hG6 hn6; obtain ⟨g', c', rfl, hF6⟩ := hO6.some (hn6 some_ne); have hB7 : Below w.heap.size w w6 := hBV.trans hB6; have HF6 := hid hF6; clear hO6 hB6 hG6 hn6 hF6 HO5 HN5)
      | ((fail_if_success (have _g := HW4)); refine Kind.app kS_ok (w1.alloc (.cells #[] 48)) rfl (.tmp 42) (.tmp 43) rfl w.heap.size (.slice (some ⟨w1.heap.size, 0, none⟩) 0 0) [] rfl HE.out hBe.size ao l l.length cap rfl rfl hno _ HZ.out (by simp; omega) ?_; intro v3 w3 hO3 hB3 hG3 hn3; obtain ⟨g, c, rfl, hF3⟩ := hO3.some (hn3 some_ne); rw [List.nil_append] at hF3 hO3; have HO3 := hid hO3; have hB4 : Below w.heap.size w w3 := hBe.trans hB3; have HF3 := hid hF3; have HW4 : True := trivial; have hBV : Below w.heap.size w ((w3.alloc (.cells #[.int .i64 iv, .int .i64 jv, .int .i64 0] 48)).alloc (.cells #[.int .i64 iv, .int .i64 jv, .int .i64 0] 48)) := Below.allocS (Below.allocS hB4 _) _; have HO5 : Hid (kS.Own w.heap.size ((w3.alloc (.cells #[.int .i64 iv, .int .i64 jv, .int .i64 0] 48)).alloc (.cells #[.int .i64 iv, .int .i64 jv, .int .i64 0] 48)) (.slice (some ⟨g, 0, none⟩) l.length c) l) := (HO3.out.below (below1 _ _)).below (below1 _ _); have HN5 : Hid (kS.In (w3.heap.size + 1 + 1) ((w3.alloc (.cells #[.int .i64 iv, .int .i64 jv, .int .i64 0] 48)).alloc (.cells #[.int .i64 iv, .int .i64 jv, .int .i64 0] 48)) (some ⟨w3.heap.size + 1, 0, none⟩) [(iv, jv, 0)]) := kS_one (by omega) (by simp) (by simp) (by simp); clear hO3 hB3 hG3 hn3 hF3 HE HZ hBe))
    refine bodyPost_ret (v := .tuple #[.slice (some ⟨g', 0, none⟩) (l ++ [(iv, jv, 0)]).length c', .int .i64 (l.length : Int), .int .i64 0]) (by simp [results, Try.results56, go_sem]) rfl ?_
    rw [HR.out]
    exact ⟨⟨_, c', rfl, HF6.out⟩, hB7⟩
  · have z1 := (len1 h0).1
    cases hu : upB l.length iv
    · have HI : Hid ((decide (0 ≤ iv) && decide (iv ≤ (l.length : Int) - 1)) = false) := by rw [Hid, ← upB_pos h0]; exact hu
      have HR : Hid (newR l iv jv = ([], 0, 2)) := newR_bad (by rw [newB, hu]; simp)
      clear hg hu h0
      go_enter Try.func56, Try.ntmps56
      go_wp2_with fail
      refine (specGoodScopes_is ao cap l w true hl hz HG.out).mono ?_
      rintro e w1 ⟨rfl, hB1⟩
      go_wp2_with fail
      refine (l1In_is iv 0 ((l.length : Int) - 1) _ false HI.out).mono ?_
      rintro e w2 ⟨rfl, hw2⟩
      rw [hw2]
      clear hw2 w2
      go_wp2
      refine bodyPost_ret (v := .tuple #[.slice none 0 0, .int .i64 0, .int .i64 2]) (by simp [results, Try.results56, go_sem]) rfl ?_
      rw [HR.out]
      exact ⟨⟨none, 0, rfl, .inl rfl⟩, hB1⟩
    have HI : Hid ((decide (0 ≤ iv) && decide (iv ≤ (l.length : Int) - 1)) = true) := by rw [Hid, ← upB_pos h0]; exact hu
    have hin : 0 ≤ iv ∧ iv < l.length := by have := HI.out; simp at this; omega
    by_cases hd : jv < 0
    · have hd' : decide (jv < 0) = true := by simpa using hd
      have HR : Hid (newR l iv jv = ([], 0, 2)) := newR_bad (by have : decide (0 ≤ jv) = false := by simp; omega
                                                                rw [newB, this]; simp)
      clear h0
      go_enter Try.func56, Try.ntmps56
      go_wp2_with fail
      refine (specGoodScopes_is ao cap l w true hl hz HG.out).mono ?_
      rintro e w1 ⟨rfl, hB1⟩
      go_wp2_with fail
      refine (l1In_is iv 0 ((l.length : Int) - 1) _ true HI.out).mono ?_
      rintro e w2 ⟨rfl, hw2⟩
      rw [hw2]
      clear hw2 w2
      go_wp2
      refine bodyPost_ret (v := .tuple #[.slice none 0 0, .int .i64 0, .int .i64 2]) (by simp [results, Try.results56, go_sem]) rfl ?_
      rw [HR.out]
      exact ⟨⟨none, 0, rfl, .inl rfl⟩, hB1⟩
    have hd' : decide (jv < 0) = false := by simpa using hd
    by_cases h2 : l.length = 20
    · have h2' : ((l.length : Int) == 20) = true := by simp; omega
      have HR : Hid (newR l iv jv = ([], 0, 2)) := newR_bad (by rw [newB, h2]; simp)
      clear h2
      clear h0
      go_enter Try.func56, Try.ntmps56
      go_wp2_with fail
      refine (specGoodScopes_is ao cap l w true hl hz HG.out).mono ?_
      rintro e w1 ⟨rfl, hB1⟩
      go_wp2_with fail
      refine (l1In_is iv 0 ((l.length : Int) - 1) _ true HI.out).mono ?_
      rintro e w2 ⟨rfl, hw2⟩
      rw [hw2]
      clear hw2 w2
      go_wp2
      refine bodyPost_ret (v := .tuple #[.slice none 0 0, .int .i64 0, .int .i64 2]) (by simp [results, Try.results56, go_sem]) rfl ?_
      rw [HR.out]
      exact ⟨⟨none, 0, rfl, .inl rfl⟩, hB1⟩
    have h2' : ((l.length : Int) == 20) = false := by simp; omega
    have hnb : newB l iv jv = true := by rw [newB, hg, hu]; simp [h2]; omega
    obtain ⟨u, eu⟩ : ∃ u : Nat, iv = u := ⟨iv.toNat, by omega⟩
    have hul : u < l.length := by omega
    obtain ⟨z, ez⟩ : ∃ z, z = (el l u).2.2 := ⟨_, rfl⟩
    have HR : Hid (newR l iv jv = (l ++ [(iv, jv, z)], (l.length : Int), 0)) := by
      rw [Hid, newR_good hnb, whyOf, if_neg (by omega), ez, eu]; rfl
    have HEZ := hid ez
    clear hg hu hnb h2 h0 ez
    subst eu
    have hul' : (u : Int) < (l.length : Int) := by omega
    go_enter Try.func56, Try.ntmps56
    go_wp2_with fail
    refine (specGoodScopes_is ao cap l w true hl hz HG.out).mono ?_
    rintro e w1 ⟨rfl, hB1⟩
    go_wp2_with fail
    refine (l1In_is u 0 ((l.length : Int) - 1) _ true HI.out).mono ?_
    rintro e w2 ⟨rfl, hw2⟩
    rw [hw2]
    clear hw2 w2
    have HE : Hid (kS.Own w.heap.size (w1.alloc (.cells #[] 48)) (.slice (some ⟨w1.heap.size, 0, none⟩) 0 0) []) := Kind.Own.new kS _ w1 hB1.size
    have HZ : Hid (kS.In w1.heap.size (w1.alloc (.cells #[] 48)) ao l) := (hz.later hB1).below (below1 _ _)
    have hBe := Below.allocS hB1 (.cells #[] 48)
    go_wp2_with (at_builtin; first
      | (have _g := HW4; refine Kind.app kS_ok ((w3.alloc (.cells #[.int .i64 (u : Int), .int .i64 jv, .int .i64 z] 48)).alloc (.cells #[.int .i64 (u : Int), .int .i64 jv, .int .i64 z] 48)) rfl (.tmp 56) (.tmp 58) rfl w.heap.size (.slice (some ⟨g, 0, none⟩) l.length c) l rfl HO5.out hBV.size (some ⟨w3.heap.size + 1, 0, none⟩) [((u : Int), jv, z)] 1 1 rfl rfl (by simp) _ HN5.out (by simp; omega) ?_; intro v6 w6 hO6 hB6 hG6 hn6; obtain ⟨g', c', rfl, hF6⟩ := hO6.some (hn6 some_ne); have hB7 : Below w.heap.size w w6 := hBV.trans hB6; have HF6 := hid hF6; clear hO6 hB6 hG6 hn6 hF6 HO5 HN5)
      | ((fail_if_success (have _g := HW4)); refine Kind.app kS_ok (w1.alloc (.cells #[] 48)) rfl (.tmp 42) (.tmp 43) rfl w.heap.size (.slice (some ⟨w1.heap.size, 0, none⟩) 0 0) [] rfl HE.out hBe.size ao l l.length cap rfl rfl hno _ HZ.out (by simp; omega) ?_; intro v3 w3 hO3 hB3 hG3 hn3; obtain ⟨g, c, rfl, hF3⟩ := hO3.some (hn3 some_ne); rw [List.nil_append] at hF3 hO3; have HO3 := hid hO3; have hB4 : Below w.heap.size w w3 := hBe.trans hB3; have HF3 := hid hF3; obtain ⟨bb, oo, ebo, hbb, hcc⟩ := kS_at hF3.in hul; cases ebo; have cz := (hcc u hul).2.2; rw [Nat.zero_add, ← HEZ.out] at cz; have hgs : g < w3.heap.size := hbb; clear hcc hbb; have HW4 : True := trivial; have hBV : Below w.heap.size w ((w3.alloc (.cells #[.int .i64 (u : Int), .int .i64 jv, .int .i64 z] 48)).alloc (.cells #[.int .i64 (u : Int), .int .i64 jv, .int .i64 z] 48)) := Below.allocS (Below.allocS hB4 _) _; have HO5 : Hid (kS.Own w.heap.size ((w3.alloc (.cells #[.int .i64 (u : Int), .int .i64 jv, .int .i64 z] 48)).alloc (.cells #[.int .i64 (u : Int), .int .i64 jv, .int .i64 z] 48)) (.slice (some ⟨g, 0, none⟩) l.length c) l) := (HO3.out.below (below1 _ _)).below (below1 _ _); have HN5 : Hid (kS.In (w3.heap.size + 1 + 1) ((w3.alloc (.cells #[.int .i64 (u : Int), .int .i64 jv, .int .i64 z] 48)).alloc (.cells #[.int .i64 (u : Int), .int .i64 jv, .int .i64 z] 48)) (some ⟨w3.heap.size + 1, 0, none⟩) [((u : Int), jv, z)]) := kS_one (by omega) (by simp) (by simp) (by simp); clear hO3 hB3 hG3 hn3 hF3 HE HZ hBe))
    refine bodyPost_ret (v := .tuple #[.slice (some ⟨g', 0, none⟩) (l ++ [((u : Int), jv, z)]).length c', .int .i64 (l.length : Int), .int .i64 0]) (by simp [results, Try.results56, go_sem]) rfl ?_
    rw [HR.out]
    exact ⟨⟨_, c', rfl, HF6.out⟩, hB7⟩
end
end Go.Proofs.Ytdgnolpimmdgjaa
