
/- A child of a keeper fails: the program's FailChild. No conditions but those written. -/
import Derived.Test.YtbpacibfboldcaaDoorFf
namespace Go.Proofs.YtbpacibfboldcaaDoor
open Go.RowKit

def withUp (p : PKeeper) (u : Int) : PKeeper := (p.1, p.2.1, p.2.2.1, u, p.2.2.2.2.1, p.2.2.2.2.2.1, p.2.2.2.2.2.2.1, p.2.2.2.2.2.2.2)
/-- What FailChild answers. -/
def failR (p : PKeeper) (c t : Int) : PKeeper × List (Int × Int × Int) × Int :=
  if goodP p = true ∧ tickB t = true then (if codeP (runsP p) (fltP p) c t = 0 then (withUp (el (failP ([withUp p (-1)], []) c.toNat t).1 0) (upP p), (failP ([withUp p (-1)], []) c.toNat t).2, 0) else (p, [], codeP (runsP p) (fltP p) c t)) else ((0, 0, 0, 0, 0, [], [], false), [], 1)
/-- A keeper, acts and a code, in memory of their own. -/
def AnsF (w : World) (R : PKeeper × List (Int × Int × Int) × Int) (e : Ending) (w' : World) : Prop :=
  (∃ ro rc fo fc ao ac, e = .returned (.tuple #[.agg #[.int .i64 R.1.1, .int .i64 R.1.2.1, .int .i64 R.1.2.2.1, .int .i64 R.1.2.2.2.1, .int .i64 R.1.2.2.2.2.1, .slice ro R.1.2.2.2.2.2.1.length rc, .slice fo R.1.2.2.2.2.2.2.1.length fc, .bool R.1.2.2.2.2.2.2.2], .slice ao R.2.1.length ac, .int .i64 R.2.2]) ∧ FrKeeper w.heap.size w'.heap.size w' ro rc R.1.2.2.2.2.2.1 fo fc R.1.2.2.2.2.2.2.1 ∧ kA.Fresh w.heap.size w'.heap.size w' ao ac R.2.1) ∧ Below w.heap.size w w'
theorem codeP_ok {r : List Bool} {f : List Int} {c t : Int} (h : codeP r f c t = 0) : ∃ k : Nat, c = (k : Int) ∧ k < r.length ∧ el r k = true := by
  by_cases h1 : c < 0 ∨ (r.length : Int) ≤ c ∨ el r c.toNat = false
  · rw [codeP, if_pos h1] at h; exact absurd h (by decide)
  · have h2 : ¬ c < 0 := fun e => h1 (.inl e)
    have h3 : ¬ (r.length : Int) ≤ c := fun e => h1 (.inr (.inl e))
    have h4 : ¬ el r c.toNat = false := fun e => h1 (.inr (.inr e))
    exact ⟨c.toNat, by omega, by omega, by simpa using h4⟩
theorem keeperB_facts {kd mr wi : Int} {r : List Bool} {f : List Int} {ov : Bool} (h : keeperB kd mr wi r f ov = true) : 1 ≤ r.length ∧ r.length ≤ 10 ∧ f.length ≤ 1000 ∧ 1 ≤ wi ∧ wi ≤ 1000 := by
  simp only [keeperB, maxRB, withinB, Bool.and_eq_true, decide_eq_true_eq] at h
  omega
theorem goodS_one {p : PKeeper} (hu : upP p = -1) (hr : (runsP p).length ≤ 10) : GoodS 8 ([p], []) 0 := by
  refine ⟨fun j hj => ?_, by simp, by simp, by simp, fun j => ?_, ?_⟩
  · obtain rfl : j = 0 := by simpa using hj
    show upP p < _
    rw [hu]; decide
  · rcases Nat.eq_zero_or_pos j with rfl | hj
    · exact hr
    · have : el [p] j = default := by simp only [el]; rw [List.getElem?_eq_none (by show 1 ≤ j; omega)]; rfl
      rw [this]; exact Nat.zero_le _
  · have : cntR [p] ≤ 10 := by
      simp only [cntR, List.map_cons, List.map_nil, List.sum_cons, List.sum_nil, Nat.add_zero]
      exact Nat.le_trans List.count_le_length hr
    simp only [List.length_nil]; omega
theorem startP_len (s : St) (k c : Nat) : (startP s k c).1.length = s.1.length := by simp [startP, setRun]
theorem startAll_len (k : Nat) : ∀ (l : List Int) (s : St), (startAll s k l).1.length = s.1.length
  | [], _ => rfl
  | x :: l, s => by
    have h := startAll_len k l (startP s k x.toNat)
    rw [startP_len] at h; exact h
theorem failP_len {s : St} {c : Nat} {t : Int} (hG : GoodS 8 s 0) (hr : el (runsP (el s.1 0)) c = true) : (failP s c t).1.length = s.1.length := by
  by_cases h : (recentI (fltP (el s.1 0)) t (el s.1 0).2.2.1).length > (el s.1 0).2.1
  · rw [failP, if_pos h]; exact (giveP_sh hG hr).1
  · rw [failP, if_neg h]
    obtain ⟨s2, h2⟩ : ∃ s2 : St, s2 = (setFaults s.1 0 (recentI (fltP (el s.1 0)) t (el s.1 0).2.2.1), s.2) := ⟨_, rfl⟩
    have h3 : s2.1.length = s.1.length := by rw [h2]; simp [setFaults]
    have hT : GoodS 8 s2 0 := by rw [h2]; exact hG.faults _
    rw [← h2, ← h3]
    by_cases hk : ((el s2.1 0).1 == 1) = true
    · rw [restartP, if_pos hk]; exact startP_len _ _ _
    · rw [restartP, if_neg hk, startAll_len, startP_len]
      exact (fromF_keeps (n := 8) (u := 0) (c + 1) hT.tree hT.kl hT.fuel).sh.1
theorem failR_ok {kd mr wi up ch : Int} {r : List Bool} {f : List Int} {ov : Bool} {k : Nat} {t : Int} (h : goodP (kd, mr, wi, up, ch, r, f, ov) = true ∧ tickB t = true) (hz : codeP r f k t = 0) :
    failR (kd, mr, wi, up, ch, r, f, ov) k t = (withUp (el (failP ([(kd, mr, wi, (-1 : Int), ch, r, f, ov)], []) k t).1 0) up, (failP ([(kd, mr, wi, (-1 : Int), ch, r, f, ov)], []) k t).2, 0) := by
  have e : withUp (kd, mr, wi, up, ch, r, f, ov) (-1) = (kd, mr, wi, (-1 : Int), ch, r, f, ov) := rfl
  rw [failR, if_pos h, e, Int.toNat_natCast]; exact if_pos hz
theorem ansF_bad {w w' : World} {e : Ending} (he : e = .returned (.tuple #[.agg #[.int .i64 0, .int .i64 0, .int .i64 0, .int .i64 0, .int .i64 0, .slice none 0 0, .slice none 0 0, .bool false], .slice none 0 0, .int .i64 1])) (hb : Below w.heap.size w w') : AnsF w ((0, 0, 0, 0, 0, [], [], false), [], 1) e w' :=
  ⟨⟨none, 0, none, 0, none, 0, he, ⟨.inl rfl, .inl rfl⟩, .inl rfl⟩, hb⟩
set_option maxRecDepth 100000 in
set_option maxHeartbeats 8000000 in
theorem implFailC_any (kd : Int) (mr : Int) (wi : Int) (up : Int) (ch : Int) (ov : Bool) (ro : Option Addr) (rc : Nat) (r : List (Bool)) (fo : Option Addr) (fc : Nat) (f : List (Int)) (c t : Int) (w : World) (hlr : r.length ≤ 1048576) (hlf : f.length ≤ 1048576) (hz : InKeeper w.heap.size w ro r fo f) (h0 : 0 < w.heap.size) (hg : w.cell? ⟨0, 0, none⟩ = some (.iface 104 (.agg #[.pointer (some ⟨1, 84, none⟩)]))) :
    Calls Tryd.prog 8 #[.agg #[.int .i64 kd, .int .i64 mr, .int .i64 wi, .int .i64 up, .int .i64 ch, .slice ro r.length rc, .slice fo f.length fc, .bool ov], .int .i64 c, .int .i64 t] w fun e w' => AnsF w (failR (kd, mr, wi, up, ch, r, f, ov) c t) e w' := by
  obtain ⟨W2, hW2⟩ : ∃ W2, W2 = (w.alloc (.cells #[.int .i64 kd, .int .i64 mr, .int .i64 wi, .int .i64 up, .int .i64 ch, .slice ro r.length rc, .slice fo f.length fc, .bool ov] 27)).alloc (.cells #[.int .i64 0, .int .i64 0, .int .i64 0, .int .i64 0, .int .i64 0, .slice none 0 0, .slice none 0 0, .bool false] 27) := ⟨_, rfl⟩
  have hB2 : Below w.heap.size w W2 := by rw [hW2]; exact below2 _ _ _
  have A2 : Hid (Bx W2 w.heap.size [.int .i64 kd, .int .i64 mr, .int .i64 wi, .int .i64 up, .int .i64 ch, .slice ro r.length rc, .slice fo f.length fc, .bool ov]) := by rw [hW2]; exact (Bx.new [.int .i64 kd, .int .i64 mr, .int .i64 wi, .int .i64 up, .int .i64 ch, .slice ro r.length rc, .slice fo f.length fc, .bool ov] _ rfl).alloc _
  have R2 : Hid (Bx W2 (w.heap.size + 1) [.int .i64 0, .int .i64 0, .int .i64 0, .int .i64 0, .int .i64 0, .slice none 0 0, .slice none 0 0, .bool false]) := by rw [hW2]; exact Bx.new [.int .i64 0, .int .i64 0, .int .i64 0, .int .i64 0, .int .i64 0, .slice none 0 0, .slice none 0 0, .bool false] _ (by simp)
  have HW := hid hW2
  have HS : Hid (W2.heap.size = w.heap.size + 1 + 1) := by rw [hW2]; simp [Hid]
  have HZ := hid hz
  have HG := hid hg
  clear hW2 hz hg
  cases hk : keeperB kd mr wi r f ov
  · have HK := hid hk
    have HR : Hid (failR (kd, mr, wi, up, ch, r, f, ov) c t = ((0, 0, 0, 0, 0, [], [], false), [], 1)) := by rw [Hid, failR, if_neg (fun h => by have h1 : keeperB kd mr wi r f ov = true := h.1; rw [hk] at h1; cases h1)]
    clear hk
    go_enter Tryd.func8, Tryd.ntmps8
    go_wp2_with fail
    rw [← HW.out]
    refine (implGoodK_is kd mr wi up ch ov ro rc r fo fc f W2 false hlr hlf (HZ.out.later hB2) HK.out).mono ?_
    rintro e w1 ⟨rfl, hb1⟩
    have hB1 := hB2.trans (hb1.mono hB2.size)
    have R1 := hid (R2.out.later hb1)
    have r0 := R1.out.c 0 rfl
    have r1 := R1.out.c 1 rfl
    have r2 := R1.out.c 2 rfl
    have r3 := R1.out.c 3 rfl
    have r4 := R1.out.c 4 rfl
    have r5 := R1.out.c 5 rfl
    have r6 := R1.out.c 6 rfl
    have r7 := R1.out.c 7 rfl
    have rf0 := R1.out.f 0 rfl
    have rf1 := R1.out.f 1 rfl
    have rf2 := R1.out.f 2 rfl
    have rf3 := R1.out.f 3 rfl
    have rf4 := R1.out.f 4 rfl
    have rf5 := R1.out.f 5 rfl
    have rf6 := R1.out.f 6 rfl
    have rf7 := R1.out.f 7 rfl
    clear hb1
    go_wp2
    refine bodyPost_ret (v := .tuple #[.agg #[.int .i64 0, .int .i64 0, .int .i64 0, .int .i64 0, .int .i64 0, .slice none 0 0, .slice none 0 0, .bool false], .slice none 0 0, .int .i64 1]) (by simp [results, Tryd.results8, go_sem, r0, r1, r2, r3, r4, r5, r6, r7]) rfl ?_
    rw [HR.out]
    exact ansF_bad rfl ((((((((hB1.setCell (p := ⟨w.heap.size + 1, 0, none⟩) (by simp) _).setCell (p := ⟨w.heap.size + 1, 1, none⟩) (by simp) _).setCell (p := ⟨w.heap.size + 1, 2, none⟩) (by simp) _).setCell (p := ⟨w.heap.size + 1, 3, none⟩) (by simp) _).setCell (p := ⟨w.heap.size + 1, 4, none⟩) (by simp) _).setCell (p := ⟨w.heap.size + 1, 5, none⟩) (by simp) _).setCell (p := ⟨w.heap.size + 1, 6, none⟩) (by simp) _).setCell (p := ⟨w.heap.size + 1, 7, none⟩) (by simp) _)
  have HK := hid hk
  clear hk
  cases ht : tickB t
  · have HT := hid ht
    have HR : Hid (failR (kd, mr, wi, up, ch, r, f, ov) c t = ((0, 0, 0, 0, 0, [], [], false), [], 1)) := by rw [Hid, failR, if_neg (fun h => by simp [ht] at h)]
    clear ht
    go_enter Tryd.func8, Tryd.ntmps8
    go_wp2_with fail
    rw [← HW.out]
    refine (implGoodK_is kd mr wi up ch ov ro rc r fo fc f W2 true hlr hlf (HZ.out.later hB2) HK.out).mono ?_
    rintro e w1 ⟨rfl, hb1⟩
    have hB1 := hB2.trans (hb1.mono hB2.size)
    have R1 := hid (R2.out.later hb1)
    have r0 := R1.out.c 0 rfl
    have r1 := R1.out.c 1 rfl
    have r2 := R1.out.c 2 rfl
    have r3 := R1.out.c 3 rfl
    have r4 := R1.out.c 4 rfl
    have r5 := R1.out.c 5 rfl
    have r6 := R1.out.c 6 rfl
    have r7 := R1.out.c 7 rfl
    have rf0 := R1.out.f 0 rfl
    have rf1 := R1.out.f 1 rfl
    have rf2 := R1.out.f 2 rfl
    have rf3 := R1.out.f 3 rfl
    have rf4 := R1.out.f 4 rfl
    have rf5 := R1.out.f 5 rfl
    have rf6 := R1.out.f 6 rfl
    have rf7 := R1.out.f 7 rfl
    clear hb1
    go_wp2_with fail
    refine (isTick_is t _ false HT.out).mono ?_
    rintro e w2 ⟨rfl, rfl⟩
    go_wp2
    refine bodyPost_ret (v := .tuple #[.agg #[.int .i64 0, .int .i64 0, .int .i64 0, .int .i64 0, .int .i64 0, .slice none 0 0, .slice none 0 0, .bool false], .slice none 0 0, .int .i64 1]) (by simp [results, Tryd.results8, go_sem, r0, r1, r2, r3, r4, r5, r6, r7]) rfl ?_
    rw [HR.out]
    exact ansF_bad rfl ((((((((hB1.setCell (p := ⟨w.heap.size + 1, 0, none⟩) (by simp) _).setCell (p := ⟨w.heap.size + 1, 1, none⟩) (by simp) _).setCell (p := ⟨w.heap.size + 1, 2, none⟩) (by simp) _).setCell (p := ⟨w.heap.size + 1, 3, none⟩) (by simp) _).setCell (p := ⟨w.heap.size + 1, 4, none⟩) (by simp) _).setCell (p := ⟨w.heap.size + 1, 5, none⟩) (by simp) _).setCell (p := ⟨w.heap.size + 1, 6, none⟩) (by simp) _).setCell (p := ⟨w.heap.size + 1, 7, none⟩) (by simp) _)
  have HT := hid ht
  have HGT : Hid (goodP (kd, mr, wi, up, ch, r, f, ov) = true ∧ tickB t = true) := ⟨by rw [goodP]; exact HK.out, ht⟩
  clear ht
  have hRow : ∀ z, codeP r f c t = z → z ≠ 0 → failR (kd, mr, wi, up, ch, r, f, ov) c t = ((kd, mr, wi, up, ch, r, f, ov), [], z) := fun z hz hn => by
    rw [failR, if_pos HGT.out]
    show (if codeP r f c t = 0 then _ else _) = _
    rw [if_neg (by rw [hz]; exact hn)]
    show ((kd, mr, wi, up, ch, r, f, ov), [], codeP r f c t) = _
    rw [hz]
  obtain ⟨z, hz⟩ : ∃ z, codeP r f c t = z := ⟨_, rfl⟩
  have HCZ := hid hz
  by_cases hz0 : z = 0
  · subst hz0
    obtain ⟨k, rfl, hkr, hkt⟩ := codeP_ok hz
    obtain ⟨k1, k2, k3, k4, k5⟩ := keeperB_facts HK.out
    have ht01 : 0 ≤ t ∧ t ≤ 1000000 := by have h := HT.out; simp only [tickB, Bool.and_eq_true, decide_eq_true_eq] at h; exact h
    have hGS : GoodS 8 ([(kd, mr, wi, (-1 : Int), ch, r, f, ov)], []) 0 := goodS_one rfl k2
    have HGS := hid hGS
    have HRT : Hid (el (runsP (el ([((kd, mr, wi, (-1 : Int), ch, r, f, ov) : PKeeper)], ([] : List (Int × Int × Int))).1 0)) k = true) := hkt
    have HFL := hid (failP_len (t := t) hGS HRT.out)
    obtain ⟨FF, hFF⟩ : ∃ FF, FF = failP ([((kd, mr, wi, (-1 : Int), ch, r, f, ov) : PKeeper)], []) k t := ⟨_, rfl⟩
    have HFF := hid hFF
    have HF1 : Hid (FF.1.length = 1) := by rw [hFF]; exact HFL.out
    have HR : Hid (failR (kd, mr, wi, up, ch, r, f, ov) k t = (withUp (el FF.1 0) up, FF.2, 0)) := by
      rw [Hid, hFF]; exact failR_ok HGT.out hz
    have HB5 := hid (And.intro k2 (And.intro k3 (And.intro k4 k5)))
    clear hz hRow hkt hGS hFF k1 k2 k3 k4 k5 HFL
    go_enter Tryd.func8, Tryd.ntmps8
    go_wp2_with fail
    rw [← HW.out]
    refine (implGoodK_is kd mr wi up ch ov ro rc r fo fc f W2 true hlr hlf (HZ.out.later hB2) HK.out).mono ?_
    rintro e w1 ⟨rfl, hb1⟩
    have hB1 := hB2.trans (hb1.mono hB2.size)
    have A1 := hid (A2.out.later hb1)
    have R1 := hid (R2.out.later hb1)
    have a0 := A1.out.c 0 rfl
    have a1 := A1.out.c 1 rfl
    have a2 := A1.out.c 2 rfl
    have a3 := A1.out.c 3 rfl
    have a4 := A1.out.c 4 rfl
    have a5 := A1.out.c 5 rfl
    have a6 := A1.out.c 6 rfl
    have a7 := A1.out.c 7 rfl
    clear hb1
    go_wp2_with fail
    refine (isTick_is t _ true HT.out).mono ?_
    rintro e w2 ⟨rfl, rfl⟩
    go_wp2_with fail
    refine (failCode_is kd mr wi up ch ov ro rc r fo fc f (k : Int) t w2 hlr hlf (HZ.out.later hB1) 0 HCZ.out).mono ?_
    rintro e w3 ⟨rfl, hb3⟩
    have hB3 := hB1.trans (hb3.mono hB1.size)
    have A3 := hid (A1.out.later hb3)
    have R3 := hid (R1.out.later hb3)
    have d0 := A3.out.c 0 rfl
    have d1 := A3.out.c 1 rfl
    have d2 := A3.out.c 2 rfl
    have d3 := A3.out.c 3 rfl
    have d4 := A3.out.c 4 rfl
    have d5 := A3.out.c 5 rfl
    have d6 := A3.out.c 6 rfl
    have d7 := A3.out.c 7 rfl
    clear hb3 a0 a1 a2 a3 a4 a5 a6 a7
    go_wp2_with fail
    obtain ⟨V, hV⟩ : ∃ V, V = (w3.alloc (.cells #[.int .i64 kd, .int .i64 mr, .int .i64 wi, .int .i64 (-1), .int .i64 ch, .slice ro r.length rc, .slice fo f.length fc, .bool ov] 27)).alloc (.cells #[.int .i64 kd, .int .i64 mr, .int .i64 wi, .int .i64 (-1), .int .i64 ch, .slice ro r.length rc, .slice fo f.length fc, .bool ov] 27) := ⟨_, rfl⟩
    have hbV : Below w3.heap.size w3 V := by rw [hV]; exact below2 _ _ _
    have hsV : V.heap.size = w3.heap.size + 1 + 1 := by rw [hV]; simp
    have XV : Bx V (w3.heap.size + 1) [.int .i64 kd, .int .i64 mr, .int .i64 wi, .int .i64 (-1), .int .i64 ch, .slice ro r.length rc, .slice fo f.length fc, .bool ov] := by rw [hV]; exact Bx.new [.int .i64 kd, .int .i64 mr, .int .i64 wi, .int .i64 (-1), .int .i64 ch, .slice ro r.length rc, .slice fo f.length fc, .bool ov] _ (by simp)
    have hBV := hB3.trans (hbV.mono hB3.size)
    have HDI : Hid (DIn dKeeper V.heap.size V (some ⟨w3.heap.size + 1, 0, none⟩) [((kd, mr, wi, (-1 : Int), ch, (ro, rc, r), (fo, fc, f), ov) : LKeeper)]) := by
      refine ⟨hKeeper_one (by omega) XV, fun j hj => ?_⟩
      obtain rfl : j = 0 := by have h : j < 1 := hj; omega
      exact HZ.out.later hBV
    have HV := hid hV
    have AV := hid (A3.out.later hbV)
    have RV := hid (R3.out.later hbV)
    have pA : w.heap.size < V.heap.size := AV.out.size
    have pR : w.heap.size + 1 < V.heap.size := RV.out.size
    clear hV hbV hsV XV d0 d1 d2 d3 d4 d5 d6 d7
    rw [← HV.out]
    refine (watchOf_any (some ⟨w3.heap.size + 1, 0, none⟩) 1 [((kd, mr, wi, (-1 : Int), ch, (ro, rc, r), (fo, fc, f), ov) : LKeeper)] V (by simp) (by simp) (fun a ha => by obtain rfl := List.mem_singleton.1 ha; exact ⟨hlr, hlf⟩) HDI.out).mono ?_
    rintro e w4 ⟨⟨p, hi, ra, rfl, hL4, hlh⟩, hb4⟩
    have L4 := hid hL4
    have hB4 := hBV.trans (hb4.mono hBV.size)
    have A4 := hid (AV.out.later hb4)
    have R4 := hid (RV.out.later hb4)
    have hs4 := hb4.size
    have hg4 := (hB4.cell (p := ⟨0, 0, none⟩) h0).trans HG.out
    clear hL4 hb4
    go_wp2_with fail
    refine (fail_one V.heap.size hi p ra ([((kd, mr, wi, (-1 : Int), ch, r, f, ov) : PKeeper)], []) k t w4 L4.out hs4 hlh (by omega) HGS.out rfl rfl HRT.out HB5.out.2.1 ht01.1 ht01.2 HB5.out.2.2.1 HB5.out.2.2.2 hg4).mono ?_
    rw [← HFF.out]
    rintro e w5 ⟨rfl, ⟨hi5, hlh5, hL5⟩, hb5⟩
    have hB5 := hB4.trans (hb5.mono hBV.size)
    have A5 := hid (A4.out.below hb5 pA)
    have R5 := hid (R4.out.below hb5 pR)
    have hs5 := hb5.size
    obtain ⟨g, kc, av, ls, hp, hD, hO, hv, hr, hlp, hhi⟩ := hL5
    have hlen := len_ls hv
    rw [HF1.out] at hlen
    have p0 : w5.cell? ⟨p, 0, none⟩ = some (.slice (some ⟨g, 0, none⟩) 1 kc) := by rw [Go.Joins.cell_of_block hp, ← HF1.out]; rfl
    obtain ⟨qo, qc, rfl, _, hFq⟩ := hO.fresh
    have p1 : w5.cell? ⟨p, 1, none⟩ = some (.slice qo FF.2.length qc) := Go.Joins.cell_of_block hp 1
    have hev := el_map_val hv (k := 0) (by omega)
    obtain ⟨⟨kd', mr', wi', up', ch', ⟨ro', rc', r'⟩, ⟨fo', fc', f'⟩, ov'⟩, ex⟩ : ∃ v, v = el ls 0 := ⟨_, rfl⟩
    obtain ⟨⟨i0, i1, i2, i3, i4, i5, i6, i7⟩, _, _, _, hg33⟩ := hK_at hD.1 (k := 0) (by omega) ex.symm
    rw [← ex] at hev
    have hFr := hD.2.1 0 (by omega)
    rw [← ex] at hFr
    have F5 : Hid (FrKeeper V.heap.size hi5 w5 ro' rc' r' fo' fc' f') := hFr
    have Q5 := hid hFq
    have hps : p < w5.heap.size := (Array.getElem?_eq_some_iff.1 hp).1
    have HR' : Hid (failR (kd, mr, wi, up, ch, r, f, ov) k t = ((kd', mr', wi', up, ch', r', f', ov'), FF.2, 0)) := by rw [Hid, HR.out, hev]; rfl
    simp only [Nat.zero_mul, Nat.zero_add] at i0 i1 i2 i3 i4 i5 i6 i7
    have u3 := (A5.out.alloc (.cells #[.int .i64 kd', .int .i64 mr', .int .i64 wi', .int .i64 up', .int .i64 ch', .slice ro' r'.length rc', .slice fo' f'.length fc', .bool ov'] 27)).c 3 rfl
    have R6 := hid (R5.out.alloc (.cells #[.int .i64 kd', .int .i64 mr', .int .i64 wi', .int .i64 up, .int .i64 ch', .slice ro' r'.length rc', .slice fo' f'.length fc', .bool ov'] 27))
    have p1' := (below1 w5 (.cells #[.int .i64 kd', .int .i64 mr', .int .i64 wi', .int .i64 up, .int .i64 ch', .slice ro' r'.length rc', .slice fo' f'.length fc', .bool ov'] 27)).cell (p := ⟨p, 1, none⟩) hps |>.trans p1
    have r0 := R6.out.c 0 rfl
    have r1 := R6.out.c 1 rfl
    have r2 := R6.out.c 2 rfl
    have r3 := R6.out.c 3 rfl
    have r4 := R6.out.c 4 rfl
    have r5 := R6.out.c 5 rfl
    have r6 := R6.out.c 6 rfl
    have r7 := R6.out.c 7 rfl
    have rf0 := R6.out.f 0 rfl
    have rf1 := R6.out.f 1 rfl
    have rf2 := R6.out.f 2 rfl
    have rf3 := R6.out.f 3 rfl
    have rf4 := R6.out.f 4 rfl
    have rf5 := R6.out.f 5 rfl
    have rf6 := R6.out.f 6 rfl
    have rf7 := R6.out.f 7 rfl
    clear hp hD hO hv hr ex hev hFr hFq hb5 HV hg4
    have X6 := hid (Bx.new (w := w5) (p := w5.heap.size) [.int .i64 kd', .int .i64 mr', .int .i64 wi', .int .i64 up, .int .i64 ch', .slice ro' r'.length rc', .slice fo' f'.length fc', .bool ov'] 27 rfl)
    obtain ⟨W6, hW6⟩ : ∃ W6, W6 = w5.alloc (.cells #[.int .i64 kd', .int .i64 mr', .int .i64 wi', .int .i64 up, .int .i64 ch', .slice ro' r'.length rc', .slice fo' f'.length fc', .bool ov'] 27) := ⟨_, rfl⟩
    have hB6 := hid (Below.allocS hB5 (.cells #[.int .i64 kd', .int .i64 mr', .int .i64 wi', .int .i64 up, .int .i64 ch', .slice ro' r'.length rc', .slice fo' f'.length fc', .bool ov'] 27))
    have F6 := hid (F5.out.later (below1 w5 (.cells #[.int .i64 kd', .int .i64 mr', .int .i64 wi', .int .i64 up, .int .i64 ch', .slice ro' r'.length rc', .slice fo' f'.length fc', .bool ov'] 27)))
    have Q6 := hid (Q5.out.later (below1 w5 (.cells #[.int .i64 kd', .int .i64 mr', .int .i64 wi', .int .i64 up, .int .i64 ch', .slice ro' r'.length rc', .slice fo' f'.length fc', .bool ov'] 27)))
    have S6 : Hid (W6.heap.size = w5.heap.size + 1) := by rw [hW6]; simp [Hid]
    have HW6 := hid hW6
    clear hW6
    go_wp2
    rw [← HW6.out]
    rw [← HW6.out] at p1' X6 R6 hB6 F6 Q6
    clear r0 r1 r2 r3 r4 r5 r6 r7 rf0 rf1 rf2 rf3 rf4 rf5 rf6 rf7 u3 i0 i1 i2 i3 i4 i5 i6 i7 p0 p1
    have hpn : p ≠ w.heap.size + 1 := by omega
    have hxn : w5.heap.size ≠ w.heap.size + 1 := by omega
    have x0 := X6.out.c 0 rfl
    have x1 := X6.out.c 1 rfl
    have x2 := X6.out.c 2 rfl
    have x3 := X6.out.c 3 rfl
    have x4 := X6.out.c 4 rfl
    have x5 := X6.out.c 5 rfl
    have x6 := X6.out.c 6 rfl
    have x7 := X6.out.c 7 rfl
    have r0 := R6.out.c 0 rfl
    have r1 := R6.out.c 1 rfl
    have r2 := R6.out.c 2 rfl
    have r3 := R6.out.c 3 rfl
    have r4 := R6.out.c 4 rfl
    have r5 := R6.out.c 5 rfl
    have r6 := R6.out.c 6 rfl
    have r7 := R6.out.c 7 rfl
    have rf0 := R6.out.f 0 rfl
    have rf1 := R6.out.f 1 rfl
    have rf2 := R6.out.f 2 rfl
    have rf3 := R6.out.f 3 rfl
    have rf4 := R6.out.f 4 rfl
    have rf5 := R6.out.f 5 rfl
    have rf6 := R6.out.f 6 rfl
    have rf7 := R6.out.f 7 rfl
    go_region
    all_goals
      go_wp2
      refine bodyPost_ret (v := .tuple #[.agg #[.int .i64 kd', .int .i64 mr', .int .i64 wi', .int .i64 up, .int .i64 ch', .slice ro' r'.length rc', .slice fo' f'.length fc', .bool ov'], .slice qo FF.2.length qc, .int .i64 0]) (by simp [results, Tryd.results8, go_sem, r0, r1, r2, r3, r4, r5, r6, r7]) rfl ?_
      rw [HR'.out]
      obtain ⟨W7, hW7⟩ : ∃ W7, W7 = (((((((W6.setCell ⟨w.heap.size + 1, 0, none⟩ (.int .i64 kd')).setCell ⟨w.heap.size + 1, 1, none⟩ (.int .i64 mr')).setCell ⟨w.heap.size + 1, 2, none⟩ (.int .i64 wi')).setCell ⟨w.heap.size + 1, 3, none⟩ (.int .i64 up)).setCell ⟨w.heap.size + 1, 4, none⟩ (.int .i64 ch')).setCell ⟨w.heap.size + 1, 5, none⟩ (.slice ro' r'.length rc')).setCell ⟨w.heap.size + 1, 6, none⟩ (.slice fo' f'.length fc')).setCell ⟨w.heap.size + 1, 7, none⟩ (.bool ov') := ⟨_, rfl⟩
      rw [← hW7]
      have hB67 : Below w.heap.size W6 W7 := by rw [hW7]; exact (((((((((Below.refl _ _).setCell (p := ⟨w.heap.size + 1, 0, none⟩) (by simp) _).setCell (p := ⟨w.heap.size + 1, 1, none⟩) (by simp) _).setCell (p := ⟨w.heap.size + 1, 2, none⟩) (by simp) _).setCell (p := ⟨w.heap.size + 1, 3, none⟩) (by simp) _).setCell (p := ⟨w.heap.size + 1, 4, none⟩) (by simp) _).setCell (p := ⟨w.heap.size + 1, 5, none⟩) (by simp) _).setCell (p := ⟨w.heap.size + 1, 6, none⟩) (by simp) _).setCell (p := ⟨w.heap.size + 1, 7, none⟩) (by simp) _)
      have F7 : FrKeeper V.heap.size hi5 W7 ro' rc' r' fo' fc' f' := by rw [hW7]; exact ((((((((F6.out.setBelow (a := ⟨w.heap.size + 1, 0, none⟩) pR _).setBelow (a := ⟨w.heap.size + 1, 1, none⟩) pR _).setBelow (a := ⟨w.heap.size + 1, 2, none⟩) pR _).setBelow (a := ⟨w.heap.size + 1, 3, none⟩) pR _).setBelow (a := ⟨w.heap.size + 1, 4, none⟩) pR _).setBelow (a := ⟨w.heap.size + 1, 5, none⟩) pR _).setBelow (a := ⟨w.heap.size + 1, 6, none⟩) pR _).setBelow (a := ⟨w.heap.size + 1, 7, none⟩) pR _)
      have Q7 : kA.Fresh V.heap.size w5.heap.size W7 qo qc FF.2 := by rw [hW7]; exact ((((((((Q6.out.setBelow (a := ⟨w.heap.size + 1, 0, none⟩) pR _).setBelow (a := ⟨w.heap.size + 1, 1, none⟩) pR _).setBelow (a := ⟨w.heap.size + 1, 2, none⟩) pR _).setBelow (a := ⟨w.heap.size + 1, 3, none⟩) pR _).setBelow (a := ⟨w.heap.size + 1, 4, none⟩) pR _).setBelow (a := ⟨w.heap.size + 1, 5, none⟩) pR _).setBelow (a := ⟨w.heap.size + 1, 6, none⟩) pR _).setBelow (a := ⟨w.heap.size + 1, 7, none⟩) pR _)
      have hd := (Below.refl W7.heap.size W7).drew
      have hd7 := hd.size
      have hs7 := hB67.size
      have hs6 := S6.out
      exact ⟨⟨ro', rc', fo', fc', qo, qc, rfl, (F7.later hd).wide (by omega) (by omega), (Q7.later hd).wide (by omega) (by omega)⟩, (hB6.out.trans hB67).drew⟩
  · have HR := hid (hRow z hz hz0)
    have hzn : (z != 0) = true := by simpa using hz0
    clear hz hRow
    go_enter Tryd.func8, Tryd.ntmps8
    go_wp2_with fail
    rw [← HW.out]
    refine (implGoodK_is kd mr wi up ch ov ro rc r fo fc f W2 true hlr hlf (HZ.out.later hB2) HK.out).mono ?_
    rintro e w1 ⟨rfl, hb1⟩
    have hB1 := hB2.trans (hb1.mono hB2.size)
    have A1 := hid (A2.out.later hb1)
    have R1 := hid (R2.out.later hb1)
    have a0 := A1.out.c 0 rfl
    have a1 := A1.out.c 1 rfl
    have a2 := A1.out.c 2 rfl
    have a3 := A1.out.c 3 rfl
    have a4 := A1.out.c 4 rfl
    have a5 := A1.out.c 5 rfl
    have a6 := A1.out.c 6 rfl
    have a7 := A1.out.c 7 rfl
    clear hb1
    go_wp2_with fail
    refine (isTick_is t _ true HT.out).mono ?_
    rintro e w2 ⟨rfl, rfl⟩
    go_wp2_with fail
    refine (failCode_is kd mr wi up ch ov ro rc r fo fc f c t w2 hlr hlf (HZ.out.later hB1) z HCZ.out).mono ?_
    rintro e w3 ⟨rfl, hb3⟩
    have hB3 := hB1.trans (hb3.mono hB1.size)
    have A3 := hid (A1.out.later hb3)
    have R3 := hid (R1.out.later hb3)
    have d0 := A3.out.c 0 rfl
    have d1 := A3.out.c 1 rfl
    have d2 := A3.out.c 2 rfl
    have d3 := A3.out.c 3 rfl
    have d4 := A3.out.c 4 rfl
    have d5 := A3.out.c 5 rfl
    have d6 := A3.out.c 6 rfl
    have d7 := A3.out.c 7 rfl
    clear hb3 a0 a1 a2 a3 a4 a5 a6 a7
    go_wp2_with fail
    refine (copyKeeper_any kd mr wi up ch ov ro rc r fo fc f w3 hlr hlf (HZ.out.later hB3)).mono ?_
    rintro e w4 ⟨⟨ro', rc', fo', fc', rfl, hF4⟩, hb4⟩
    have F4 := hid (hF4.wide (lo' := w.heap.size + 1 + 1) (hi' := w4.heap.size) (by have := HS.out; have := hB1.size; have := R3.out.size; omega) (Nat.le_refl _))
    have hB4 := hB3.trans (hb4.mono hB3.size)
    have R4 := hid (R3.out.later hb4)
    have r0 := R4.out.c 0 rfl
    have r1 := R4.out.c 1 rfl
    have r2 := R4.out.c 2 rfl
    have r3 := R4.out.c 3 rfl
    have r4 := R4.out.c 4 rfl
    have r5 := R4.out.c 5 rfl
    have r6 := R4.out.c 6 rfl
    have r7 := R4.out.c 7 rfl
    have rf0 := R4.out.f 0 rfl
    have rf1 := R4.out.f 1 rfl
    have rf2 := R4.out.f 2 rfl
    have rf3 := R4.out.f 3 rfl
    have rf4 := R4.out.f 4 rfl
    have rf5 := R4.out.f 5 rfl
    have rf6 := R4.out.f 6 rfl
    have rf7 := R4.out.f 7 rfl
    clear hF4 hb4 d0 d1 d2 d3 d4 d5 d6 d7
    go_wp2
    refine bodyPost_ret (v := .tuple #[.agg #[.int .i64 kd, .int .i64 mr, .int .i64 wi, .int .i64 up, .int .i64 ch, .slice ro' r.length rc', .slice fo' f.length fc', .bool ov], .slice none 0 0, .int .i64 z]) (by simp [results, Tryd.results8, go_sem, r0, r1, r2, r3, r4, r5, r6, r7]) rfl ?_
    rw [HR.out]
    exact ⟨⟨ro', rc', fo', fc', none, 0, rfl, (((((((((F4.out.setBelow (a := ⟨w.heap.size + 1, 0, none⟩) (by simp) _).setBelow (a := ⟨w.heap.size + 1, 1, none⟩) (by simp) _).setBelow (a := ⟨w.heap.size + 1, 2, none⟩) (by simp) _).setBelow (a := ⟨w.heap.size + 1, 3, none⟩) (by simp) _).setBelow (a := ⟨w.heap.size + 1, 4, none⟩) (by simp) _).setBelow (a := ⟨w.heap.size + 1, 5, none⟩) (by simp) _).setBelow (a := ⟨w.heap.size + 1, 6, none⟩) (by simp) _).setBelow (a := ⟨w.heap.size + 1, 7, none⟩) (by simp) _)).wide (by omega) (by simp), .inl rfl⟩, ((((((((hB4.setCell (p := ⟨w.heap.size + 1, 0, none⟩) (by simp) _).setCell (p := ⟨w.heap.size + 1, 1, none⟩) (by simp) _).setCell (p := ⟨w.heap.size + 1, 2, none⟩) (by simp) _).setCell (p := ⟨w.heap.size + 1, 3, none⟩) (by simp) _).setCell (p := ⟨w.heap.size + 1, 4, none⟩) (by simp) _).setCell (p := ⟨w.heap.size + 1, 5, none⟩) (by simp) _).setCell (p := ⟨w.heap.size + 1, 6, none⟩) (by simp) _).setCell (p := ⟨w.heap.size + 1, 7, none⟩) (by simp) _)⟩
end Go.Proofs.YtbpacibfboldcaaDoor
