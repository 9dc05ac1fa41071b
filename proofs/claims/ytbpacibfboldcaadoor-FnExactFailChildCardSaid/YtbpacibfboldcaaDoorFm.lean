
/- The specification's FailChild. No conditions but those written. -/
import Derived.Test.YtbpacibfboldcaaDoorFl
namespace Go.Proofs.YtbpacibfboldcaaDoor
open Go.RowKit

/-- Keepers that lie in memory of their own, and a box for them. -/
theorem live_at {t : TypeId} {lo : Nat} {w1 : World} {o : Option Addr} {c : Nat} {us : List LKeeper} {ps : List PKeeper} (hv : us.map valKeeper = ps) (hF : DFr dKeeper lo w1.heap.size w1 o c us) (hlo : lo ≤ w1.heap.size) (h1 : 1 ≤ ps.length) :
    LiveW t lo w1.heap.size (w1.alloc (.cells #[.slice o ps.length c, .slice none 0 0] t)) w1.heap.size (us.map radr) (ps, []) := by
  have hl := len_ls hv
  obtain ⟨g, rfl, _, _, _, _⟩ := (show hKeeper.Fresh _ _ _ _ _ _ from hF.1).at (show 0 < us.length by omega)
  exact ⟨g, c, .slice none 0 0, us, alloc_new _ _, hF.later dKeeper_ok (below1 _ _), Kind.Own.nil _ _ _, hv, rfl, hlo, by simp⟩
theorem alone_fr {lo : Nat} {W : World} (kd : Int) (mr : Int) (wi : Int) (up : Int) (ch : Int) (ov : Bool) (gr rc : Nat) (r : List (Bool)) (gf fc : Nat) (f : List (Int)) (h : FrKeeper lo W.heap.size W (some ⟨gr, 0, none⟩) rc r (some ⟨gf, 0, none⟩) fc f) (hlo : lo ≤ W.heap.size) :
    DFr dKeeper lo (W.alloc (.cells #[.int .i64 kd, .int .i64 mr, .int .i64 wi, .int .i64 up, .int .i64 ch, .slice (some ⟨gr, 0, none⟩) r.length rc, .slice (some ⟨gf, 0, none⟩) f.length fc, .bool ov] 27)).heap.size (W.alloc (.cells #[.int .i64 kd, .int .i64 mr, .int .i64 wi, .int .i64 up, .int .i64 ch, .slice (some ⟨gr, 0, none⟩) r.length rc, .slice (some ⟨gf, 0, none⟩) f.length fc, .bool ov] 27)) (some ⟨W.heap.size, 0, none⟩) 1 [((kd, mr, wi, up, ch, (some ⟨gr, 0, none⟩, rc, r), (some ⟨gf, 0, none⟩, fc, f), ov) : LKeeper)] := by
  refine ⟨.inr ⟨W.heap.size, rfl, by simp, ?_⟩, fun j hj => ?_, fun i j hij hj => ?_⟩
  · exact Kind.own_of_heap (K := hKeeper) (xs := [((kd, mr, wi, up, ch, (some ⟨gr, 0, none⟩, rc, r), (some ⟨gf, 0, none⟩, fc, f), ov) : LKeeper)]) (cs := [.int .i64 kd, .int .i64 mr, .int .i64 wi, .int .i64 up, .int .i64 ch, .slice (some ⟨gr, 0, none⟩) r.length rc, .slice (some ⟨gf, 0, none⟩) f.length fc, .bool ov]) (alloc_new _ _) rfl hlo (by simp)
  · obtain rfl : j = 0 := by have h : j < 1 := hj; omega
    exact (h.later (below1 _ _)).wide (Nat.le_refl _) (by simp)
  · have h : j < 1 := hj
    omega
theorem keeperB_over {kd mr wi : Int} {r : List Bool} {f : List Int} {ov : Bool} {k : Nat} (h : keeperB kd mr wi r f ov = true) (hk : el r k = true) : ov = false := by
  cases ov with
  | false => rfl
  | true =>
    exfalso
    simp only [keeperB, Bool.and_eq_true, Bool.not_true, Bool.false_or, Bool.not_eq_true'] at h
    have ha : anyB r = false := h.2.2.2.2.2.2.1
    have hlt : k < r.length := by
      rcases Nat.lt_or_ge k r.length with h | h
      · exact h
      · rw [el, List.getElem?_eq_none h] at hk; cases hk
    have hm : true ∈ r := by rw [← hk]; exact el_mem hlt
    simp [anyB] at ha
    exact ha hm
set_option maxRecDepth 100000 in
set_option maxHeartbeats 8000000 in
theorem specFailC_any (kd : Int) (mr : Int) (wi : Int) (up : Int) (ch : Int) (ov : Bool) (ro : Option Addr) (rc : Nat) (r : List (Bool)) (fo : Option Addr) (fc : Nat) (f : List (Int)) (c t : Int) (w : World) (hlr : r.length ≤ 1048576) (hlf : f.length ≤ 1048576) (hz : InKeeper w.heap.size w ro r fo f) :
    Calls Tryd.prog 6 #[.agg #[.int .i64 kd, .int .i64 mr, .int .i64 wi, .int .i64 up, .int .i64 ch, .slice ro r.length rc, .slice fo f.length fc, .bool ov], .int .i64 c, .int .i64 t] w fun e w' => AnsF w (failR (kd, mr, wi, up, ch, r, f, ov) c t) e w' := by
  obtain ⟨W2, hW2⟩ : ∃ W2, W2 = (w.alloc (.cells #[.int .i64 kd, .int .i64 mr, .int .i64 wi, .int .i64 up, .int .i64 ch, .slice ro r.length rc, .slice fo f.length fc, .bool ov] 27)).alloc (.cells #[.int .i64 0, .int .i64 0, .int .i64 0, .int .i64 0, .int .i64 0, .slice none 0 0, .slice none 0 0, .bool false] 27) := ⟨_, rfl⟩
  have hB2 : Below w.heap.size w W2 := by rw [hW2]; exact below2 _ _ _
  have A2 : Hid (Bx W2 (w.heap.size) [.int .i64 kd, .int .i64 mr, .int .i64 wi, .int .i64 up, .int .i64 ch, .slice ro r.length rc, .slice fo f.length fc, .bool ov]) := by rw [hW2]; exact (Bx.new [.int .i64 kd, .int .i64 mr, .int .i64 wi, .int .i64 up, .int .i64 ch, .slice ro r.length rc, .slice fo f.length fc, .bool ov] _ rfl).alloc _
  have R2 : Hid (Bx W2 (w.heap.size + 1) [.int .i64 0, .int .i64 0, .int .i64 0, .int .i64 0, .int .i64 0, .slice none 0 0, .slice none 0 0, .bool false]) := by rw [hW2]; exact Bx.new [.int .i64 0, .int .i64 0, .int .i64 0, .int .i64 0, .int .i64 0, .slice none 0 0, .slice none 0 0, .bool false] _ (by simp)
  have HW := hid hW2
  have HS : Hid (W2.heap.size = w.heap.size + 1 + 1) := by rw [hW2]; simp [Hid]
  have HZ := hid hz
  clear hW2 hz
  cases hk : keeperB kd mr wi r f ov
  · have HK := hid hk
    have HR : Hid (failR (kd, mr, wi, up, ch, r, f, ov) c t = ((0, 0, 0, 0, 0, [], [], false), [], 1)) := by rw [Hid, failR, if_neg (fun h => by have h1 : keeperB kd mr wi r f ov = true := h.1; rw [hk] at h1; cases h1)]
    clear hk
    go_enter Tryd.func6, Tryd.ntmps6
    go_wp2_with fail
    rw [← HW.out]
    refine (specGoodK_is kd mr wi up ch ov ro rc r fo fc f W2 false hlr hlf (HZ.out.later hB2) HK.out).mono ?_
    rintro e w1 ⟨rfl, hb1⟩
    have hB1 := hB2.trans (hb1.mono hB2.size)
    have R1 := hid (R2.out.later hb1)
    have r0 := R1.out.c 0 rfl
    have rf0 := R1.out.f 0 rfl
    have r1 := R1.out.c 1 rfl
    have rf1 := R1.out.f 1 rfl
    have r2 := R1.out.c 2 rfl
    have rf2 := R1.out.f 2 rfl
    have r3 := R1.out.c 3 rfl
    have rf3 := R1.out.f 3 rfl
    have r4 := R1.out.c 4 rfl
    have rf4 := R1.out.f 4 rfl
    have r5 := R1.out.c 5 rfl
    have rf5 := R1.out.f 5 rfl
    have r6 := R1.out.c 6 rfl
    have rf6 := R1.out.f 6 rfl
    have r7 := R1.out.c 7 rfl
    have rf7 := R1.out.f 7 rfl
    clear hb1
    go_wp2
    refine bodyPost_ret (v := .tuple #[.agg #[.int .i64 0, .int .i64 0, .int .i64 0, .int .i64 0, .int .i64 0, .slice none 0 0, .slice none 0 0, .bool false], .slice none 0 0, .int .i64 1]) (by simp [results, Tryd.results6, go_sem, r0, r1, r2, r3, r4, r5, r6, r7]) rfl ?_
    rw [HR.out]
    exact ansF_bad rfl ((((((((hB1.setCell (p := ⟨w.heap.size + 1, 0, none⟩) (by simp) _).setCell (p := ⟨w.heap.size + 1, 1, none⟩) (by simp) _).setCell (p := ⟨w.heap.size + 1, 2, none⟩) (by simp) _).setCell (p := ⟨w.heap.size + 1, 3, none⟩) (by simp) _).setCell (p := ⟨w.heap.size + 1, 4, none⟩) (by simp) _).setCell (p := ⟨w.heap.size + 1, 5, none⟩) (by simp) _).setCell (p := ⟨w.heap.size + 1, 6, none⟩) (by simp) _).setCell (p := ⟨w.heap.size + 1, 7, none⟩) (by simp) _)
  have HK := hid hk
  clear hk
  cases ht : tickB t
  · have HT := hid ht
    have HR : Hid (failR (kd, mr, wi, up, ch, r, f, ov) c t = ((0, 0, 0, 0, 0, [], [], false), [], 1)) := by rw [Hid, failR, if_neg (fun h => by simp [ht] at h)]
    clear ht
    go_enter Tryd.func6, Tryd.ntmps6
    go_wp2_with fail
    rw [← HW.out]
    refine (specGoodK_is kd mr wi up ch ov ro rc r fo fc f W2 true hlr hlf (HZ.out.later hB2) HK.out).mono ?_
    rintro e w1 ⟨rfl, hb1⟩
    have hB1 := hB2.trans (hb1.mono hB2.size)
    have R1 := hid (R2.out.later hb1)
    have r0 := R1.out.c 0 rfl
    have rf0 := R1.out.f 0 rfl
    have r1 := R1.out.c 1 rfl
    have rf1 := R1.out.f 1 rfl
    have r2 := R1.out.c 2 rfl
    have rf2 := R1.out.f 2 rfl
    have r3 := R1.out.c 3 rfl
    have rf3 := R1.out.f 3 rfl
    have r4 := R1.out.c 4 rfl
    have rf4 := R1.out.f 4 rfl
    have r5 := R1.out.c 5 rfl
    have rf5 := R1.out.f 5 rfl
    have r6 := R1.out.c 6 rfl
    have rf6 := R1.out.f 6 rfl
    have r7 := R1.out.c 7 rfl
    have rf7 := R1.out.f 7 rfl
    clear hb1
    go_wp2_with fail
    refine (l10Tick_is t _ false HT.out).mono ?_
    rintro e w2 ⟨rfl, rfl⟩
    go_wp2
    refine bodyPost_ret (v := .tuple #[.agg #[.int .i64 0, .int .i64 0, .int .i64 0, .int .i64 0, .int .i64 0, .slice none 0 0, .slice none 0 0, .bool false], .slice none 0 0, .int .i64 1]) (by simp [results, Tryd.results6, go_sem, r0, r1, r2, r3, r4, r5, r6, r7]) rfl ?_
    rw [HR.out]
    exact ansF_bad rfl ((((((((hB1.setCell (p := ⟨w.heap.size + 1, 0, none⟩) (by simp) _).setCell (p := ⟨w.heap.size + 1, 1, none⟩) (by simp) _).setCell (p := ⟨w.heap.size + 1, 2, none⟩) (by simp) _).setCell (p := ⟨w.heap.size + 1, 3, none⟩) (by simp) _).setCell (p := ⟨w.heap.size + 1, 4, none⟩) (by simp) _).setCell (p := ⟨w.heap.size + 1, 5, none⟩) (by simp) _).setCell (p := ⟨w.heap.size + 1, 6, none⟩) (by simp) _).setCell (p := ⟨w.heap.size + 1, 7, none⟩) (by simp) _)
  have HT := hid ht
  have HGT : Hid (goodP (kd, mr, wi, up, ch, r, f, ov) = true ∧ tickB t = true) := ⟨by rw [goodP]; exact HK.out, ht⟩
  clear ht
  have hRow : ∀ z, codeP r f c t = z → z ≠ 0 → failR (kd, mr, wi, up, ch, r, f, ov) c t = ((kd, mr, wi, up, ch, r, f, ov), [], z) := fun z hz hn => by
    rw [failR, if_pos HGT.out]
    show (if codeP r f c t = 0 then _ else _) = _
    rw [if_neg (by rw [hz]; exact hn)]
    show ((kd, mr, wi, up, ch, r, f, ov), [], codeP r f c t) = _
    rw [hz]
  go_enter Tryd.func6, Tryd.ntmps6
  go_wp2_with fail
  rw [← HW.out]
  refine (specGoodK_is kd mr wi up ch ov ro rc r fo fc f W2 true hlr hlf (HZ.out.later hB2) HK.out).mono ?_
  rintro e w1 ⟨rfl, hb1⟩
  have hB1 := hB2.trans (hb1.mono hB2.size)
  have R1 := hid (R2.out.later hb1)
  have A1 := hid (A2.out.later hb1)
  have a0 := A1.out.c 0 rfl
  have a1 := A1.out.c 1 rfl
  have a2 := A1.out.c 2 rfl
  have a3 := A1.out.c 3 rfl
  have a4 := A1.out.c 4 rfl
  have a5 := A1.out.c 5 rfl
  have a6 := A1.out.c 6 rfl
  have a7 := A1.out.c 7 rfl
  clear hb1
  go_wp2_with fail
  refine (l10Tick_is t _ true HT.out).mono ?_
  rintro e w2 ⟨rfl, rfl⟩
  go_wp2_with fail
  have hs2 : w.heap.size + 1 + 1 ≤ w2.heap.size := by have := HS.out; have := hB1.size; have := R1.out.size; omega
  refine (ownKeeper_any kd mr wi up ch ov ro rc r fo fc f w2 hlr hlf (HZ.out.later hB1)).mono ?_
  rintro e w3 ⟨⟨gr, rc', gf, fc', rfl, hO3⟩, hb3⟩
  have hB3 := hB1.trans (hb3.mono hB1.size)
  have A3 := hid (A1.out.later hb3)
  have R3 := hid (R1.out.later hb3)
  have hs3 := hb3.size
  clear hb3 a0 a1 a2 a3 a4 a5 a6 a7
  have d0 := A3.out.c 0 rfl
  have df0 := A3.out.f 0 rfl
  have d1 := A3.out.c 1 rfl
  have df1 := A3.out.f 1 rfl
  have d2 := A3.out.c 2 rfl
  have df2 := A3.out.f 2 rfl
  have d3 := A3.out.c 3 rfl
  have df3 := A3.out.f 3 rfl
  have d4 := A3.out.c 4 rfl
  have df4 := A3.out.f 4 rfl
  have d5 := A3.out.c 5 rfl
  have df5 := A3.out.f 5 rfl
  have d6 := A3.out.c 6 rfl
  have df6 := A3.out.f 6 rfl
  have d7 := A3.out.c 7 rfl
  have df7 := A3.out.f 7 rfl
  obtain ⟨W4, hW4⟩ : ∃ W4, W4 = ((((((((w3.setCell ⟨w.heap.size, 0, none⟩ (.int .i64 kd)).setCell ⟨w.heap.size, 1, none⟩ (.int .i64 mr)).setCell ⟨w.heap.size, 2, none⟩ (.int .i64 wi)).setCell ⟨w.heap.size, 3, none⟩ (.int .i64 up)).setCell ⟨w.heap.size, 4, none⟩ (.int .i64 ch)).setCell ⟨w.heap.size, 5, none⟩ (.slice (some ⟨gr, 0, none⟩) r.length rc')).setCell ⟨w.heap.size, 6, none⟩ (.slice (some ⟨gf, 0, none⟩) f.length fc')).setCell ⟨w.heap.size, 7, none⟩ (.bool ov)) := ⟨_, rfl⟩
  have hB4 : Below w.heap.size w W4 := by rw [hW4]; exact ((((((((hB3.setCell (p := ⟨w.heap.size, 0, none⟩) (Nat.le_refl _) _).setCell (p := ⟨w.heap.size, 1, none⟩) (Nat.le_refl _) _).setCell (p := ⟨w.heap.size, 2, none⟩) (Nat.le_refl _) _).setCell (p := ⟨w.heap.size, 3, none⟩) (Nat.le_refl _) _).setCell (p := ⟨w.heap.size, 4, none⟩) (Nat.le_refl _) _).setCell (p := ⟨w.heap.size, 5, none⟩) (Nat.le_refl _) _).setCell (p := ⟨w.heap.size, 6, none⟩) (Nat.le_refl _) _).setCell (p := ⟨w.heap.size, 7, none⟩) (Nat.le_refl _) _)
  have A4 : Hid (Bx W4 (w.heap.size) [.int .i64 kd, .int .i64 mr, .int .i64 wi, .int .i64 up, .int .i64 ch, .slice (some ⟨gr, 0, none⟩) r.length rc', .slice (some ⟨gf, 0, none⟩) f.length fc', .bool ov]) := by rw [hW4]; exact A3.out.set 0 (.int .i64 kd) |>.set 1 (.int .i64 mr) |>.set 2 (.int .i64 wi) |>.set 3 (.int .i64 up) |>.set 4 (.int .i64 ch) |>.set 5 (.slice (some ⟨gr, 0, none⟩) r.length rc') |>.set 6 (.slice (some ⟨gf, 0, none⟩) f.length fc') |>.set 7 (.bool ov)
  have R4 : Hid (Bx W4 (w.heap.size + 1) [.int .i64 0, .int .i64 0, .int .i64 0, .int .i64 0, .int .i64 0, .slice none 0 0, .slice none 0 0, .bool false]) := by rw [hW4]; exact ((((((((R3.out.other (a := ⟨w.heap.size, 0, none⟩) (by simp) _).other (a := ⟨w.heap.size, 1, none⟩) (by simp) _).other (a := ⟨w.heap.size, 2, none⟩) (by simp) _).other (a := ⟨w.heap.size, 3, none⟩) (by simp) _).other (a := ⟨w.heap.size, 4, none⟩) (by simp) _).other (a := ⟨w.heap.size, 5, none⟩) (by simp) _).other (a := ⟨w.heap.size, 6, none⟩) (by simp) _).other (a := ⟨w.heap.size, 7, none⟩) (by simp) _)
  have O4 : Hid (OKeeper w2.heap.size W4 gr rc' r gf fc' f) := by rw [hW4]; exact ((((((((hO3.setBelow (a := ⟨w.heap.size, 0, none⟩) (by simp only; omega) _).setBelow (a := ⟨w.heap.size, 1, none⟩) (by simp only; omega) _).setBelow (a := ⟨w.heap.size, 2, none⟩) (by simp only; omega) _).setBelow (a := ⟨w.heap.size, 3, none⟩) (by simp only; omega) _).setBelow (a := ⟨w.heap.size, 4, none⟩) (by simp only; omega) _).setBelow (a := ⟨w.heap.size, 5, none⟩) (by simp only; omega) _).setBelow (a := ⟨w.heap.size, 6, none⟩) (by simp only; omega) _).setBelow (a := ⟨w.heap.size, 7, none⟩) (by simp only; omega) _)
  have hs4 : w2.heap.size ≤ W4.heap.size := by rw [hW4]; simp [World.setCell]; omega
  have F4 := hid O4.out.fr
  have hRl : w.heap.size + 1 < w2.heap.size := by omega
  have hlw : w.heap.size ≤ w2.heap.size := by omega
  have HW4 := hid hW4
  clear hW4 hO3
  go_wp2_with fail
  rw [← HW4.out]
  clear d0 df0 d1 df1 d2 df2 d3 df3 d4 df4 d5 df5 d6 df6 d7 df7
  have a0 := A4.out.c 0 rfl
  have a1 := A4.out.c 1 rfl
  have a2 := A4.out.c 2 rfl
  have a3 := A4.out.c 3 rfl
  have a4 := A4.out.c 4 rfl
  have a5 := A4.out.c 5 rfl
  have a6 := A4.out.c 6 rfl
  have a7 := A4.out.c 7 rfl
  have r0 := R4.out.c 0 rfl
  have rf0 := R4.out.f 0 rfl
  have r1 := R4.out.c 1 rfl
  have rf1 := R4.out.f 1 rfl
  have r2 := R4.out.c 2 rfl
  have rf2 := R4.out.f 2 rfl
  have r3 := R4.out.c 3 rfl
  have rf3 := R4.out.f 3 rfl
  have r4 := R4.out.c 4 rfl
  have rf4 := R4.out.f 4 rfl
  have r5 := R4.out.c 5 rfl
  have rf5 := R4.out.f 5 rfl
  have r6 := R4.out.c 6 rfl
  have rf6 := R4.out.f 6 rfl
  have r7 := R4.out.c 7 rfl
  have rf7 := R4.out.f 7 rfl
  have hin : ∀ b, (decide (0 ≤ c) && decide (c ≤ (r.length : Int) - 1)) = b → Calls Tryd.prog 27 #[.int .i64 c, .int .i64 0, .int .i64 ((r.length : Int) - 1)] W4 fun e w' => e = .returned (.bool b) ∧ w' = W4 := fun b hb => l1In_is c 0 ((r.length : Int) - 1) W4 b hb
  cases hi : (decide (0 ≤ c) && decide (c ≤ (r.length : Int) - 1))
  · refine (hin false hi).mono ?_
    rintro e w5 ⟨rfl, hw5⟩
    rw [hw5]
    clear hw5 w5
    have HI := hid hi
    clear hi hin
    have HR := hid (hRow 2 (by have h := HI.out; rw [codeP, if_pos]; simp at h; exact (Decidable.em (c < 0)).elim (fun hc => .inl hc) (fun hc => .inr (.inl (by omega)))) (by decide))
    go_wp2
    refine bodyPost_ret (v := .tuple #[.agg #[.int .i64 kd, .int .i64 mr, .int .i64 wi, .int .i64 up, .int .i64 ch, .slice (some ⟨gr, 0, none⟩) r.length rc', .slice (some ⟨gf, 0, none⟩) f.length fc', .bool ov], .slice none 0 0, .int .i64 2]) (by simp [results, Tryd.results6, go_sem, r0, r1, r2, r3, r4, r5, r6, r7]) rfl ?_
    rw [HR.out]
    exact ⟨⟨some ⟨gr, 0, none⟩, rc', some ⟨gf, 0, none⟩, fc', none, 0, rfl, ((((((((F4.out.setBelow (a := ⟨w.heap.size + 1, 0, none⟩) hRl _).setBelow (a := ⟨w.heap.size + 1, 1, none⟩) hRl _).setBelow (a := ⟨w.heap.size + 1, 2, none⟩) hRl _).setBelow (a := ⟨w.heap.size + 1, 3, none⟩) hRl _).setBelow (a := ⟨w.heap.size + 1, 4, none⟩) hRl _).setBelow (a := ⟨w.heap.size + 1, 5, none⟩) hRl _).setBelow (a := ⟨w.heap.size + 1, 6, none⟩) hRl _).setBelow (a := ⟨w.heap.size + 1, 7, none⟩) hRl _).wide hlw (by simp [World.setCell]), .inl rfl⟩, ((((((((hB4.setCell (p := ⟨w.heap.size + 1, 0, none⟩) (by simp) _).setCell (p := ⟨w.heap.size + 1, 1, none⟩) (by simp) _).setCell (p := ⟨w.heap.size + 1, 2, none⟩) (by simp) _).setCell (p := ⟨w.heap.size + 1, 3, none⟩) (by simp) _).setCell (p := ⟨w.heap.size + 1, 4, none⟩) (by simp) _).setCell (p := ⟨w.heap.size + 1, 5, none⟩) (by simp) _).setCell (p := ⟨w.heap.size + 1, 6, none⟩) (by simp) _).setCell (p := ⟨w.heap.size + 1, 7, none⟩) (by simp) _)⟩
  refine (hin true hi).mono ?_
  rintro e w5 ⟨rfl, hw5⟩
  rw [hw5]
  clear hw5 w5
  obtain ⟨k, rfl⟩ : ∃ k : Nat, c = (k : Int) := ⟨c.toNat, by simp at hi; omega⟩
  have hkr : k < r.length := by simp at hi; omega
  clear hi hin
  obtain ⟨b, off, eb, hb, hc⟩ := bools_at O4.out.in.1 hkr
  obtain ⟨rfl, rfl⟩ : gr = b ∧ 0 = off := by simp at eb; exact eb
  have ck := hc k hkr
  simp only [Nat.zero_add] at ck
  clear hc eb
  cases hr : el r k
  · rw [hr] at ck
    have HRN := hid hr
    clear hr
    have HR := hid (hRow 2 (by rw [codeP, if_pos]; exact .inr (.inr (by simpa using HRN.out))) (by decide))
    go_wp2
    refine bodyPost_ret (v := .tuple #[.agg #[.int .i64 kd, .int .i64 mr, .int .i64 wi, .int .i64 up, .int .i64 ch, .slice (some ⟨gr, 0, none⟩) r.length rc', .slice (some ⟨gf, 0, none⟩) f.length fc', .bool ov], .slice none 0 0, .int .i64 2]) (by simp [results, Tryd.results6, go_sem, r0, r1, r2, r3, r4, r5, r6, r7]) rfl ?_
    rw [HR.out]
    exact ⟨⟨some ⟨gr, 0, none⟩, rc', some ⟨gf, 0, none⟩, fc', none, 0, rfl, ((((((((F4.out.setBelow (a := ⟨w.heap.size + 1, 0, none⟩) hRl _).setBelow (a := ⟨w.heap.size + 1, 1, none⟩) hRl _).setBelow (a := ⟨w.heap.size + 1, 2, none⟩) hRl _).setBelow (a := ⟨w.heap.size + 1, 3, none⟩) hRl _).setBelow (a := ⟨w.heap.size + 1, 4, none⟩) hRl _).setBelow (a := ⟨w.heap.size + 1, 5, none⟩) hRl _).setBelow (a := ⟨w.heap.size + 1, 6, none⟩) hRl _).setBelow (a := ⟨w.heap.size + 1, 7, none⟩) hRl _).wide hlw (by simp [World.setCell]), .inl rfl⟩, ((((((((hB4.setCell (p := ⟨w.heap.size + 1, 0, none⟩) (by simp) _).setCell (p := ⟨w.heap.size + 1, 1, none⟩) (by simp) _).setCell (p := ⟨w.heap.size + 1, 2, none⟩) (by simp) _).setCell (p := ⟨w.heap.size + 1, 3, none⟩) (by simp) _).setCell (p := ⟨w.heap.size + 1, 4, none⟩) (by simp) _).setCell (p := ⟨w.heap.size + 1, 5, none⟩) (by simp) _).setCell (p := ⟨w.heap.size + 1, 6, none⟩) (by simp) _).setCell (p := ⟨w.heap.size + 1, 7, none⟩) (by simp) _)⟩
  rw [hr] at ck
  obtain rfl := keeperB_over HK.out hr
  have HRN := hid hr
  clear hr
  have hcode : ∀ h : ¬ (0 < f.length ∧ t < el f (f.length - 1)), codeP r f k t = 0 := fun h => by
    rw [codeP, if_neg, if_neg h]
    rintro (h' | h' | h')
    · omega
    · omega
    · have := HRN.out; simp at h'; rw [this] at h'; cases h'
  have hcode3 : (0 < f.length ∧ t < el f (f.length - 1)) → codeP r f k t = 3 := fun h => by
    rw [codeP, if_neg, if_pos h]
    rintro (h' | h' | h')
    · omega
    · omega
    · have := HRN.out; simp at h'; rw [this] at h'; cases h'
  by_cases hf0 : f.length = 0
  · have HC0 := hid (hcode (by omega))
    have hg0 : decide ((0 : Int) < (f.length : Int)) = false := decide_eq_false (by omega)
    have hg0n : decide (0 < f.length) = false := decide_eq_false (by omega)
    have hg0m : ¬ 0 < f.length := by omega
    clear hcode hcode3 hf0 hRow
    obtain ⟨k1, k2, k3, k4, k5⟩ := keeperB_facts HK.out
    have ht01 : 0 ≤ t ∧ t ≤ 1000000 := by have h := HT.out; simp only [tickB, Bool.and_eq_true, decide_eq_true_eq] at h; exact h
    have hfe := fail_eq (kd, mr, wi, up, ch, r, f, false) k t
    have h1f := one_fail (kd, mr, wi, up, ch, r, f, false) k t
    obtain ⟨FF, hFF⟩ : ∃ FF, FF = failSP ([((kd, mr, wi, up, ch, r, f, false) : PKeeper)], []) k t := ⟨_, rfl⟩
    rw [← hFF] at hfe h1f
    have HR : Hid (failR (kd, mr, wi, up, ch, r, f, false) k t = (el FF.1 0, FF.2, 0)) := by
      rw [Hid, failR_ok HGT.out HC0.out]
      have e1 := hfe.1
      have e2 := hfe.2
      have e3 : withUp (kd, mr, wi, up, ch, r, f, false) (-1) = ((kd, mr, wi, (-1 : Int), ch, r, f, false) : PKeeper) := rfl
      rw [e3] at e1 e2
      exact Prod.ext e1 (Prod.ext e2 rfl)
    have HF1 := hid h1f
    have HFF := hid hFF
    have HB5 := hid (And.intro k2 (And.intro k3 (And.intro k4 k5)))
    obtain ⟨V1, hV1⟩ : ∃ V1, V1 = W4.alloc (.cells #[.int .i64 kd, .int .i64 mr, .int .i64 wi, .int .i64 up, .int .i64 ch, .slice (some ⟨gr, 0, none⟩) r.length rc', .slice (some ⟨gf, 0, none⟩) f.length fc', .bool false] 27) := ⟨_, rfl⟩
    obtain ⟨V2, hV2⟩ : ∃ V2, V2 = V1.alloc (.cells #[.slice (some ⟨W4.heap.size, 0, none⟩) 1 1, .slice none 0 0] 54) := ⟨_, rfl⟩
    have hb1 : Below W4.heap.size W4 V1 := by rw [hV1]; exact below1 _ _
    have hb2 : Below V1.heap.size V1 V2 := by rw [hV2]; exact below1 _ _
    have hsv1 : V1.heap.size = W4.heap.size + 1 := by rw [hV1]; simp
    have hD1 := alone_fr kd mr wi up ch false gr rc' r gf fc' f F4.out (by omega)
    rw [← hV1] at hD1
    have L2 : Hid (LiveW 54 w2.heap.size V1.heap.size V2 V1.heap.size ([((kd, mr, wi, up, ch, (some ⟨gr, 0, none⟩, rc', r), (some ⟨gf, 0, none⟩, fc', f), false) : LKeeper)].map radr) ([((kd, mr, wi, up, ch, r, f, false) : PKeeper)], [])) := by
      rw [hV2]; exact live_at (t := 54) (ps := [((kd, mr, wi, up, ch, r, f, false) : PKeeper)]) rfl hD1 (by omega) (by simp)
    have hBV := hB4.trans ((hb1.trans (hb2.mono hb1.size)).mono hB4.size)
    have RV := hid (R4.out.later (hb1.trans (hb2.mono hb1.size)))
    have hsv2 : V1.heap.size ≤ V2.heap.size := hb2.size
    have HV2 : Hid (V2 = (W4.alloc (.cells #[.int .i64 kd, .int .i64 mr, .int .i64 wi, .int .i64 up, .int .i64 ch, .slice (some ⟨gr, 0, none⟩) r.length rc', .slice (some ⟨gf, 0, none⟩) f.length fc', .bool false] 27)).alloc (.cells #[.slice (some ⟨W4.heap.size, 0, none⟩) 1 1, .slice none 0 0] 54)) := by rw [Hid, hV2, hV1]
    have HSV := hid hsv1
    rw [hsv1] at L2
    clear hV1 hV2 hb1 hb2 hD1 hfe hFF h1f k1 k2 k3 k4 k5
    go_wp2_with fail
    rw [← HV2.out]
    refine (failS_one w2.heap.size (W4.heap.size + 1) (W4.heap.size + 1) ([((kd, mr, wi, up, ch, (some ⟨gr, 0, none⟩, rc', r), (some ⟨gf, 0, none⟩, fc', f), false) : LKeeper)].map radr) ([((kd, mr, wi, up, ch, r, f, false) : PKeeper)], []) k t V2 L2.out (by omega) (by omega) rfl hkr HB5.out.1 HB5.out.2.1 ht01.1 ht01.2 HB5.out.2.2.1 HB5.out.2.2.2 (by simp)).mono ?_
    rw [← HFF.out]
    rintro e v5 ⟨rfl, ⟨hi5, hlh5, hL5⟩, hb5⟩
    have hB5 := hBV.trans (hb5.mono hlw)
    have R5 := hid (RV.out.below hb5 hRl)
    have hs5 := hb5.size
    obtain ⟨g, kc, av, ls, hp, hD, hO, hv, hrr, hlp, hhi⟩ := hL5
    have hlen := len_ls hv
    rw [HF1.out] at hlen
    have p0 : v5.cell? ⟨W4.heap.size + 1, 0, none⟩ = some (.slice (some ⟨g, 0, none⟩) 1 kc) := by rw [Go.Joins.cell_of_block hp, ← HF1.out]; rfl
    obtain ⟨qo, qc, rfl, _, hFq⟩ := hO.fresh
    have p1 : v5.cell? ⟨W4.heap.size + 1, 1, none⟩ = some (.slice qo FF.2.length qc) := Go.Joins.cell_of_block hp 1
    have hev := el_map_val hv (k := 0) (by omega)
    obtain ⟨⟨kd', mr', wi', up', ch', ⟨ro', rq, r'⟩, ⟨fo', fq, f'⟩, ov'⟩, ex⟩ : ∃ v, v = el ls 0 := ⟨_, rfl⟩
    obtain ⟨⟨i0, i1, i2, i3, i4, i5, i6, i7⟩, _, hgl, _, hg33⟩ := hK_at hD.1 (k := 0) (by omega) ex.symm
    rw [← ex] at hev
    have hFr := hD.2.1 0 (by omega)
    rw [← ex] at hFr
    have F5 : Hid (FrKeeper w2.heap.size hi5 v5 ro' rq r' fo' fq f') := hFr
    have Q5 := hid hFq
    have HR' : Hid (failR (kd, mr, wi, up, ch, r, f, false) k t = ((kd', mr', wi', up', ch', r', f', ov'), FF.2, 0)) := by rw [Hid, HR.out, hev]; rfl
    simp only [Nat.zero_mul, Nat.zero_add] at i0 i1 i2 i3 i4 i5 i6 i7
    clear a0 a1 a2 a3 a4 a5 a6 a7 r0 rf0 r1 rf1 r2 rf2 r3 rf3 r4 rf4 r5 rf5 r6 rf6 r7 rf7 hp hD hO hv hrr ex hev hFr hFq hb5 HV2 ck
    have r0 := R5.out.c 0 rfl
    have rf0 := R5.out.f 0 rfl
    have r1 := R5.out.c 1 rfl
    have rf1 := R5.out.f 1 rfl
    have r2 := R5.out.c 2 rfl
    have rf2 := R5.out.f 2 rfl
    have r3 := R5.out.c 3 rfl
    have rf3 := R5.out.f 3 rfl
    have r4 := R5.out.c 4 rfl
    have rf4 := R5.out.f 4 rfl
    have r5 := R5.out.c 5 rfl
    have rf5 := R5.out.f 5 rfl
    have r6 := R5.out.c 6 rfl
    have rf6 := R5.out.f 6 rfl
    have r7 := R5.out.c 7 rfl
    have rf7 := R5.out.f 7 rfl
    have hpn : W4.heap.size + 1 ≠ w.heap.size + 1 := by omega
    have hgn : g ≠ w.heap.size + 1 := by have := hgl; omega
    go_wp2
    go_region
    all_goals
      go_wp2
      refine bodyPost_ret (v := .tuple #[.agg #[.int .i64 kd', .int .i64 mr', .int .i64 wi', .int .i64 up', .int .i64 ch', .slice ro' r'.length rq, .slice fo' f'.length fq, .bool ov'], .slice qo FF.2.length qc, .int .i64 0]) (by simp [results, Tryd.results6, go_sem, r0, r1, r2, r3, r4, r5, r6, r7]) rfl ?_
      rw [HR'.out]
      obtain ⟨W7, hW7⟩ : ∃ W7, W7 = ((((((((v5.setCell ⟨w.heap.size + 1, 0, none⟩ (.int .i64 kd')).setCell ⟨w.heap.size + 1, 1, none⟩ (.int .i64 mr')).setCell ⟨w.heap.size + 1, 2, none⟩ (.int .i64 wi')).setCell ⟨w.heap.size + 1, 3, none⟩ (.int .i64 up')).setCell ⟨w.heap.size + 1, 4, none⟩ (.int .i64 ch')).setCell ⟨w.heap.size + 1, 5, none⟩ (.slice ro' r'.length rq)).setCell ⟨w.heap.size + 1, 6, none⟩ (.slice fo' f'.length fq)).setCell ⟨w.heap.size + 1, 7, none⟩ (.bool ov')) := ⟨_, rfl⟩
      rw [← hW7]
      have hB67 : Below w.heap.size v5 W7 := by rw [hW7]; exact (((((((((Below.refl _ _).setCell (p := ⟨w.heap.size + 1, 0, none⟩) (by simp) _).setCell (p := ⟨w.heap.size + 1, 1, none⟩) (by simp) _).setCell (p := ⟨w.heap.size + 1, 2, none⟩) (by simp) _).setCell (p := ⟨w.heap.size + 1, 3, none⟩) (by simp) _).setCell (p := ⟨w.heap.size + 1, 4, none⟩) (by simp) _).setCell (p := ⟨w.heap.size + 1, 5, none⟩) (by simp) _).setCell (p := ⟨w.heap.size + 1, 6, none⟩) (by simp) _).setCell (p := ⟨w.heap.size + 1, 7, none⟩) (by simp) _)
      have F7 : FrKeeper w2.heap.size hi5 W7 ro' rq r' fo' fq f' := by rw [hW7]; exact ((((((((F5.out.setBelow (a := ⟨w.heap.size + 1, 0, none⟩) hRl _).setBelow (a := ⟨w.heap.size + 1, 1, none⟩) hRl _).setBelow (a := ⟨w.heap.size + 1, 2, none⟩) hRl _).setBelow (a := ⟨w.heap.size + 1, 3, none⟩) hRl _).setBelow (a := ⟨w.heap.size + 1, 4, none⟩) hRl _).setBelow (a := ⟨w.heap.size + 1, 5, none⟩) hRl _).setBelow (a := ⟨w.heap.size + 1, 6, none⟩) hRl _).setBelow (a := ⟨w.heap.size + 1, 7, none⟩) hRl _)
      have Q7 : kA.Fresh w2.heap.size v5.heap.size W7 qo qc FF.2 := by rw [hW7]; exact ((((((((Q5.out.setBelow (a := ⟨w.heap.size + 1, 0, none⟩) hRl _).setBelow (a := ⟨w.heap.size + 1, 1, none⟩) hRl _).setBelow (a := ⟨w.heap.size + 1, 2, none⟩) hRl _).setBelow (a := ⟨w.heap.size + 1, 3, none⟩) hRl _).setBelow (a := ⟨w.heap.size + 1, 4, none⟩) hRl _).setBelow (a := ⟨w.heap.size + 1, 5, none⟩) hRl _).setBelow (a := ⟨w.heap.size + 1, 6, none⟩) hRl _).setBelow (a := ⟨w.heap.size + 1, 7, none⟩) hRl _)
      have hd := (Below.refl W7.heap.size W7).drew
      have hd7 := hd.size
      have hs7 := hB67.size
      exact ⟨⟨ro', rq, fo', fq, qo, qc, rfl, (F7.later hd).wide (by omega) (by omega), (Q7.later hd).wide (by omega) (by omega)⟩, (hB5.trans hB67).drew⟩
  have hfp : 0 < f.length := by omega
  obtain ⟨b2, off2, eb2, hb2, hc2⟩ := ints_at O4.out.in.2 (k := f.length - 1) (by omega)
  obtain ⟨rfl, rfl⟩ : gf = b2 ∧ 0 = off2 := by simp at eb2; exact eb2
  have cf := hc2 (f.length - 1) (by omega)
  simp only [Nat.zero_add] at cf
  obtain ⟨l1, hl1⟩ : ∃ l1 : Nat, l1 = f.length - 1 := ⟨_, rfl⟩
  rw [← hl1] at cf hcode hcode3
  have hlm : (f.length : Int) - 1 = (l1 : Int) := by omega
  have hll : (l1 : Int) < (f.length : Int) := by omega
  have hg0 : decide ((0 : Int) < (f.length : Int)) = true := decide_eq_true (by omega)
  obtain ⟨la, hla⟩ : ∃ la, la = el f l1 := ⟨_, rfl⟩
  rw [← hla] at cf hcode hcode3
  clear hc2 eb2 hl1 hla
  by_cases htl : t < la
  · have HC3 := hid (hcode3 ⟨hfp, htl⟩)
    have hg1 : decide (t < la) = true := by simpa using htl
    clear hcode hcode3
    have HR := hid (hRow 3 (by exact HC3.out) (by decide))
    go_wp2
    refine bodyPost_ret (v := .tuple #[.agg #[.int .i64 kd, .int .i64 mr, .int .i64 wi, .int .i64 up, .int .i64 ch, .slice (some ⟨gr, 0, none⟩) r.length rc', .slice (some ⟨gf, 0, none⟩) f.length fc', .bool false], .slice none 0 0, .int .i64 3]) (by simp [results, Tryd.results6, go_sem, r0, r1, r2, r3, r4, r5, r6, r7]) rfl ?_
    rw [HR.out]
    exact ⟨⟨some ⟨gr, 0, none⟩, rc', some ⟨gf, 0, none⟩, fc', none, 0, rfl, ((((((((F4.out.setBelow (a := ⟨w.heap.size + 1, 0, none⟩) hRl _).setBelow (a := ⟨w.heap.size + 1, 1, none⟩) hRl _).setBelow (a := ⟨w.heap.size + 1, 2, none⟩) hRl _).setBelow (a := ⟨w.heap.size + 1, 3, none⟩) hRl _).setBelow (a := ⟨w.heap.size + 1, 4, none⟩) hRl _).setBelow (a := ⟨w.heap.size + 1, 5, none⟩) hRl _).setBelow (a := ⟨w.heap.size + 1, 6, none⟩) hRl _).setBelow (a := ⟨w.heap.size + 1, 7, none⟩) hRl _).wide hlw (by simp [World.setCell]), .inl rfl⟩, ((((((((hB4.setCell (p := ⟨w.heap.size + 1, 0, none⟩) (by simp) _).setCell (p := ⟨w.heap.size + 1, 1, none⟩) (by simp) _).setCell (p := ⟨w.heap.size + 1, 2, none⟩) (by simp) _).setCell (p := ⟨w.heap.size + 1, 3, none⟩) (by simp) _).setCell (p := ⟨w.heap.size + 1, 4, none⟩) (by simp) _).setCell (p := ⟨w.heap.size + 1, 5, none⟩) (by simp) _).setCell (p := ⟨w.heap.size + 1, 6, none⟩) (by simp) _).setCell (p := ⟨w.heap.size + 1, 7, none⟩) (by simp) _)⟩
  have HC0 := hid (hcode (fun h => htl h.2))
  have hg1 : decide (t < la) = false := by simpa using htl
  clear hcode hcode3 hRow
  obtain ⟨k1, k2, k3, k4, k5⟩ := keeperB_facts HK.out
  have ht01 : 0 ≤ t ∧ t ≤ 1000000 := by have h := HT.out; simp only [tickB, Bool.and_eq_true, decide_eq_true_eq] at h; exact h
  have hfe := fail_eq (kd, mr, wi, up, ch, r, f, false) k t
  have h1f := one_fail (kd, mr, wi, up, ch, r, f, false) k t
  obtain ⟨FF, hFF⟩ : ∃ FF, FF = failSP ([((kd, mr, wi, up, ch, r, f, false) : PKeeper)], []) k t := ⟨_, rfl⟩
  rw [← hFF] at hfe h1f
  have HR : Hid (failR (kd, mr, wi, up, ch, r, f, false) k t = (el FF.1 0, FF.2, 0)) := by
    rw [Hid, failR_ok HGT.out HC0.out]
    have e1 := hfe.1
    have e2 := hfe.2
    have e3 : withUp (kd, mr, wi, up, ch, r, f, false) (-1) = ((kd, mr, wi, (-1 : Int), ch, r, f, false) : PKeeper) := rfl
    rw [e3] at e1 e2
    exact Prod.ext e1 (Prod.ext e2 rfl)
  have HF1 := hid h1f
  have HFF := hid hFF
  have HB5 := hid (And.intro k2 (And.intro k3 (And.intro k4 k5)))
  obtain ⟨V1, hV1⟩ : ∃ V1, V1 = W4.alloc (.cells #[.int .i64 kd, .int .i64 mr, .int .i64 wi, .int .i64 up, .int .i64 ch, .slice (some ⟨gr, 0, none⟩) r.length rc', .slice (some ⟨gf, 0, none⟩) f.length fc', .bool false] 27) := ⟨_, rfl⟩
  obtain ⟨V2, hV2⟩ : ∃ V2, V2 = V1.alloc (.cells #[.slice (some ⟨W4.heap.size, 0, none⟩) 1 1, .slice none 0 0] 54) := ⟨_, rfl⟩
  have hb1 : Below W4.heap.size W4 V1 := by rw [hV1]; exact below1 _ _
  have hb2 : Below V1.heap.size V1 V2 := by rw [hV2]; exact below1 _ _
  have hsv1 : V1.heap.size = W4.heap.size + 1 := by rw [hV1]; simp
  have hD1 := alone_fr kd mr wi up ch false gr rc' r gf fc' f F4.out (by omega)
  rw [← hV1] at hD1
  have L2 : Hid (LiveW 54 w2.heap.size V1.heap.size V2 V1.heap.size ([((kd, mr, wi, up, ch, (some ⟨gr, 0, none⟩, rc', r), (some ⟨gf, 0, none⟩, fc', f), false) : LKeeper)].map radr) ([((kd, mr, wi, up, ch, r, f, false) : PKeeper)], [])) := by
    rw [hV2]; exact live_at (t := 54) (ps := [((kd, mr, wi, up, ch, r, f, false) : PKeeper)]) rfl hD1 (by omega) (by simp)
  have hBV := hB4.trans ((hb1.trans (hb2.mono hb1.size)).mono hB4.size)
  have RV := hid (R4.out.later (hb1.trans (hb2.mono hb1.size)))
  have hsv2 : V1.heap.size ≤ V2.heap.size := hb2.size
  have HV2 : Hid (V2 = (W4.alloc (.cells #[.int .i64 kd, .int .i64 mr, .int .i64 wi, .int .i64 up, .int .i64 ch, .slice (some ⟨gr, 0, none⟩) r.length rc', .slice (some ⟨gf, 0, none⟩) f.length fc', .bool false] 27)).alloc (.cells #[.slice (some ⟨W4.heap.size, 0, none⟩) 1 1, .slice none 0 0] 54)) := by rw [Hid, hV2, hV1]
  have HSV := hid hsv1
  rw [hsv1] at L2
  clear hV1 hV2 hb1 hb2 hD1 hfe hFF h1f k1 k2 k3 k4 k5
  go_wp2_with fail
  rw [← HV2.out]
  refine (failS_one w2.heap.size (W4.heap.size + 1) (W4.heap.size + 1) ([((kd, mr, wi, up, ch, (some ⟨gr, 0, none⟩, rc', r), (some ⟨gf, 0, none⟩, fc', f), false) : LKeeper)].map radr) ([((kd, mr, wi, up, ch, r, f, false) : PKeeper)], []) k t V2 L2.out (by omega) (by omega) rfl hkr HB5.out.1 HB5.out.2.1 ht01.1 ht01.2 HB5.out.2.2.1 HB5.out.2.2.2 (by simp)).mono ?_
  rw [← HFF.out]
  rintro e v5 ⟨rfl, ⟨hi5, hlh5, hL5⟩, hb5⟩
  have hB5 := hBV.trans (hb5.mono hlw)
  have R5 := hid (RV.out.below hb5 hRl)
  have hs5 := hb5.size
  obtain ⟨g, kc, av, ls, hp, hD, hO, hv, hrr, hlp, hhi⟩ := hL5
  have hlen := len_ls hv
  rw [HF1.out] at hlen
  have p0 : v5.cell? ⟨W4.heap.size + 1, 0, none⟩ = some (.slice (some ⟨g, 0, none⟩) 1 kc) := by rw [Go.Joins.cell_of_block hp, ← HF1.out]; rfl
  obtain ⟨qo, qc, rfl, _, hFq⟩ := hO.fresh
  have p1 : v5.cell? ⟨W4.heap.size + 1, 1, none⟩ = some (.slice qo FF.2.length qc) := Go.Joins.cell_of_block hp 1
  have hev := el_map_val hv (k := 0) (by omega)
  obtain ⟨⟨kd', mr', wi', up', ch', ⟨ro', rq, r'⟩, ⟨fo', fq, f'⟩, ov'⟩, ex⟩ : ∃ v, v = el ls 0 := ⟨_, rfl⟩
  obtain ⟨⟨i0, i1, i2, i3, i4, i5, i6, i7⟩, _, hgl, _, hg33⟩ := hK_at hD.1 (k := 0) (by omega) ex.symm
  rw [← ex] at hev
  have hFr := hD.2.1 0 (by omega)
  rw [← ex] at hFr
  have F5 : Hid (FrKeeper w2.heap.size hi5 v5 ro' rq r' fo' fq f') := hFr
  have Q5 := hid hFq
  have HR' : Hid (failR (kd, mr, wi, up, ch, r, f, false) k t = ((kd', mr', wi', up', ch', r', f', ov'), FF.2, 0)) := by rw [Hid, HR.out, hev]; rfl
  simp only [Nat.zero_mul, Nat.zero_add] at i0 i1 i2 i3 i4 i5 i6 i7
  clear a0 a1 a2 a3 a4 a5 a6 a7 r0 rf0 r1 rf1 r2 rf2 r3 rf3 r4 rf4 r5 rf5 r6 rf6 r7 rf7 hp hD hO hv hrr ex hev hFr hFq hb5 HV2 ck
  have r0 := R5.out.c 0 rfl
  have rf0 := R5.out.f 0 rfl
  have r1 := R5.out.c 1 rfl
  have rf1 := R5.out.f 1 rfl
  have r2 := R5.out.c 2 rfl
  have rf2 := R5.out.f 2 rfl
  have r3 := R5.out.c 3 rfl
  have rf3 := R5.out.f 3 rfl
  have r4 := R5.out.c 4 rfl
  have rf4 := R5.out.f 4 rfl
  have r5 := R5.out.c 5 rfl
  have rf5 := R5.out.f 5 rfl
  have r6 := R5.out.c 6 rfl
  have rf6 := R5.out.f 6 rfl
  have r7 := R5.out.c 7 rfl
  have rf7 := R5.out.f 7 rfl
  have hpn : W4.heap.size + 1 ≠ w.heap.size + 1 := by omega
  have hgn : g ≠ w.heap.size + 1 := by have := hgl; omega
  go_wp2
  go_region
  all_goals
    go_wp2
    refine bodyPost_ret (v := .tuple #[.agg #[.int .i64 kd', .int .i64 mr', .int .i64 wi', .int .i64 up', .int .i64 ch', .slice ro' r'.length rq, .slice fo' f'.length fq, .bool ov'], .slice qo FF.2.length qc, .int .i64 0]) (by simp [results, Tryd.results6, go_sem, r0, r1, r2, r3, r4, r5, r6, r7]) rfl ?_
    rw [HR'.out]
    obtain ⟨W7, hW7⟩ : ∃ W7, W7 = ((((((((v5.setCell ⟨w.heap.size + 1, 0, none⟩ (.int .i64 kd')).setCell ⟨w.heap.size + 1, 1, none⟩ (.int .i64 mr')).setCell ⟨w.heap.size + 1, 2, none⟩ (.int .i64 wi')).setCell ⟨w.heap.size + 1, 3, none⟩ (.int .i64 up')).setCell ⟨w.heap.size + 1, 4, none⟩ (.int .i64 ch')).setCell ⟨w.heap.size + 1, 5, none⟩ (.slice ro' r'.length rq)).setCell ⟨w.heap.size + 1, 6, none⟩ (.slice fo' f'.length fq)).setCell ⟨w.heap.size + 1, 7, none⟩ (.bool ov')) := ⟨_, rfl⟩
    rw [← hW7]
    have hB67 : Below w.heap.size v5 W7 := by rw [hW7]; exact (((((((((Below.refl _ _).setCell (p := ⟨w.heap.size + 1, 0, none⟩) (by simp) _).setCell (p := ⟨w.heap.size + 1, 1, none⟩) (by simp) _).setCell (p := ⟨w.heap.size + 1, 2, none⟩) (by simp) _).setCell (p := ⟨w.heap.size + 1, 3, none⟩) (by simp) _).setCell (p := ⟨w.heap.size + 1, 4, none⟩) (by simp) _).setCell (p := ⟨w.heap.size + 1, 5, none⟩) (by simp) _).setCell (p := ⟨w.heap.size + 1, 6, none⟩) (by simp) _).setCell (p := ⟨w.heap.size + 1, 7, none⟩) (by simp) _)
    have F7 : FrKeeper w2.heap.size hi5 W7 ro' rq r' fo' fq f' := by rw [hW7]; exact ((((((((F5.out.setBelow (a := ⟨w.heap.size + 1, 0, none⟩) hRl _).setBelow (a := ⟨w.heap.size + 1, 1, none⟩) hRl _).setBelow (a := ⟨w.heap.size + 1, 2, none⟩) hRl _).setBelow (a := ⟨w.heap.size + 1, 3, none⟩) hRl _).setBelow (a := ⟨w.heap.size + 1, 4, none⟩) hRl _).setBelow (a := ⟨w.heap.size + 1, 5, none⟩) hRl _).setBelow (a := ⟨w.heap.size + 1, 6, none⟩) hRl _).setBelow (a := ⟨w.heap.size + 1, 7, none⟩) hRl _)
    have Q7 : kA.Fresh w2.heap.size v5.heap.size W7 qo qc FF.2 := by rw [hW7]; exact ((((((((Q5.out.setBelow (a := ⟨w.heap.size + 1, 0, none⟩) hRl _).setBelow (a := ⟨w.heap.size + 1, 1, none⟩) hRl _).setBelow (a := ⟨w.heap.size + 1, 2, none⟩) hRl _).setBelow (a := ⟨w.heap.size + 1, 3, none⟩) hRl _).setBelow (a := ⟨w.heap.size + 1, 4, none⟩) hRl _).setBelow (a := ⟨w.heap.size + 1, 5, none⟩) hRl _).setBelow (a := ⟨w.heap.size + 1, 6, none⟩) hRl _).setBelow (a := ⟨w.heap.size + 1, 7, none⟩) hRl _)
    have hd := (Below.refl W7.heap.size W7).drew
    have hd7 := hd.size
    have hs7 := hB67.size
    exact ⟨⟨ro', rq, fo', fq, qo, qc, rfl, (F7.later hd).wide (by omega) (by omega), (Q7.later hd).wide (by omega) (by omega)⟩, (hB5.trans hB67).drew⟩
end Go.Proofs.YtbpacibfboldcaaDoor
