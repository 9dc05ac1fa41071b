
/- Pick, the program's, where one is picked. No conditions but those written. -/
import Derived.Test.YtgbnbnjfaffaiaaOQe
import Derived.Deep.RegionHeld3
import Derived.Stop.RegionWithIn
namespace Go.Proofs.Ytgbnbnjfaffaiaa.Old
open Go.RowKit Go.Shelf

attribute [local go_sem] Oper.semAt_some

theorem wpOpIn_inRound {n : Nat} {P : Program} {ops : Array Oper} {Q : Exit → Act → World → Prop} (l : Nat) (hnd : ∀ (i : Nat) (o : Oper) (c : _), ops[i]? = some o → o.op ≠ .defer c) {i : Nat} {K : Act → World → Prop} {a : Act} {w : World} (h : wpOpIn Fence.wide n P ops Q i K a w) : wpOpIn (Fence.wide.inRound l) n P ops Q i K a w := by
  unfold wpOpIn at h ⊢
  cases ho : ops[i]? with
  | none => rw [ho] at h; exact h
  | some o =>
    rw [ho] at h
    dsimp only at h ⊢
    by_cases hw : Region.wanted o (yielded ops a.tmps) = true
    · rw [if_pos hw] at h ⊢
      unfold Oper.wpIn at h ⊢
      rw [Oper.semAt_eq _ _ _ (fun c => hnd i o c ho)] at h ⊢
      exact h
    · rw [if_neg hw] at h ⊢
      exact h
theorem wpAnyIn_inRound {n : Nat} {P : Program} {md : Region.Mode} {ops : Array Oper} {Q : Exit → Act → World → Prop} (l : Nat) (hnd : ∀ (i : Nat) (o : Oper) (c : _), ops[i]? = some o → o.op ≠ .defer c) :
    ∀ (fuel : Nat) (listed : Array Bool) (a : Act) (w : World), wpAnyIn Fence.wide n P md ops Q fuel listed a w → wpAnyIn (Fence.wide.inRound l) n P md ops Q fuel listed a w
  | 0, _, _, _, h => h
  | fuel + 1, _, _, _, h => ⟨h.1, fun i hi => wpOpIn_inRound l hnd (wpOpIn_mono (fun a' w' h' => wpAnyIn_inRound l hnd fuel _ a' w' h') (h.2 i hi))⟩

set_option maxRecDepth 100000 in
set_option maxHeartbeats 4000000 in
theorem implPick_main (ao : Option Addr) (cap : Nat) (ts : List (Int × Int)) (qo : Option Addr) (qcap : Nat) (q : List Int) (iv : Int) (w : World) (hl : ts.length ≤ 1048576) (hlq : q.length ≤ 1048576) (hz : TasksIn w.heap.size w ao ts) (hq : IntsIn w.heap.size w qo q) (hg : specGoodB ts q = true) (hx : ¬ 0 ≤ runI ts) (hq0 : q.length ≠ 0) :
    Calls Try.prog 5 #[.agg #[.slice ao ts.length cap, .slice qo q.length qcap], .int .i64 iv] w fun e w' => Ans3 w (pickR iv ts q) e w' := by
  obtain ⟨hj, hjj⟩ := pick_place iv q.length hq0
  obtain ⟨id, hid⟩ : ∃ id : Int, id = q[(iv % (q.length : Int)).toNat]?.getD 0 := ⟨_, rfl⟩
  have hQ := ((good_iff ts q).2 hg).2.2
  have hR : pickR iv ts q = (bumps (ts.set id.toNat (2, 0)) (wout q id), wout q id, id, 0) := by
    rw [pickR, hg, if_pos rfl, if_neg hx, if_neg hq0, ← hid, bumps_set _ _ _ _ (fun x hx => ?_)]
    have h1 := wout_mem hx
    have h2 := hQ.2.1 x h1.1
    have h3 := h1.2
    have h4 : 0 ≤ id := by rw [hid]; exact (hQ.2.1 _ (mem_at hj)).1
    omega
  have hD : wout q id = dropAt q ((iv % (q.length : Int)).toNat : Nat) := wout_some q id _ (by rw [hid]; exact pick_find q _ hj hQ.2.2.1) hQ.2.2.1
  rw [hR, hD]
  have hin : 0 ≤ id ∧ id < ts.length := by rw [hid]; exact hQ.2.1 _ (mem_at hj)
  have HQ : Hid (∀ x, x ∈ dropAt q ((iv % (q.length : Int)).toNat : Nat) → 0 ≤ x ∧ x < ts.length) := fun x hx => by rw [← hD] at hx; exact hQ.2.1 x (wout_mem hx).1
  have HPos : Hid (Pos (ts.set id.toNat (2, 0))) := (good_pos ts q hg).set _ _ (by simp)
  have HMod : Hid (∀ W : World, Calls Try.prog 17 #[.int .i64 iv, .int .i64 (q.length : Int)] W fun e w' => e = .returned (.int .i64 ((iv % (q.length : Int)).toNat : Int)) ∧ w' = W) := fun W => by
    have := modulo_any iv (q.length : Int) W (by omega) (by omega)
    rw [hjj] at this; exact this
  have HRun : Hid (runV ts = .tuple #[.int .i64 0, .bool false]) := by
    cases hf : firstRun ts with
    | some i => rw [runI, hf] at hx; simp at hx
    | none => rw [Hid, runV, hf]
  have HG : Hid (specGoodB ts q = true) := hg
  have HD2 : Hid (True) := trivial
  clear hR hD hQ hjj hx hg
  generalize (iv % (q.length : Int)).toNat = j at *
  have hq0' : ((q.length : Int) == 0) = false := by simpa using hq0
  obtain ⟨idn, rfl⟩ : ∃ n : Nat, id = n := ⟨id.toNat, by omega⟩
  rw [Int.toNat_natCast] at HPos ⊢
  have hidn : idn < ts.length := by omega
  have hj0 : (0 : Int) ≤ (j : Int) := by omega
  have hj1 : (j : Int) < (q.length : Int) := by omega
  obtain ⟨b, off, rfl, hbw, hcw⟩ := hq.pos hj
  have hcjw := hcw j hj
  rw [← hid] at hcjw
  clear hcw hid
  obtain ⟨Q, hQe⟩ : ∃ Q, Q = dropAt q j := ⟨_, rfl⟩
  have HWo : Hid (∀ (go : Option Addr) (W : World), IntsIn W.heap.size W go q → Calls Try.prog 20 #[.agg #[.slice go q.length q.length], .int .i64 (j : Int)] W fun e w' => (∃ go qc, e = .returned (.agg #[.slice go Q.length qc]) ∧ FreshI W.heap.size w'.heap.size w' go qc Q) ∧ Below W.heap.size W w') := fun go W h => by rw [hQe]; exact without_any go q.length q j W hlq h
  have hQl : Q.length ≤ 1048576 := by rw [hQe]; exact Nat.le_trans (dropAt_len _ _) hlq
  rw [← hQe] at HQ ⊢
  clear hQe
  have hts0 : 0 < ts.length := by omega
  have HQx : Hid (∀ x : Nat, 0 ≤ Q[x]?.getD 0 ∧ Q[x]?.getD 0 < ts.length) := fun x => by
    by_cases h : x < Q.length
    · exact HQ.out _ (mem_at h)
    · rw [List.getElem?_eq_none (by omega)]; simp; omega
  clear HQ
  refine (callsIn_wide (n := 4)).1 ?_
  have hro : Fence.wide.round = none := rfl
  refine callsIn_of_wp_marks Try.func5 rfl trivial ?_ hro
  simp only [Try.ntmps5, List.size_toArray, List.length_cons, List.length_nil, Nat.reduceAdd, Nat.reduceSub, Array.replicate_succ, Array.replicate_zero, List.push_toArray, List.append_toArray, List.nil_append, List.cons_append]
  gi_wp2_with fail
  refine ⟨trivial, ?_⟩
  refine (callsIn_wide.2 (implGood_any ao cap ts (some ⟨b, off, none⟩) qcap q _ hl (hz.later (below2 _ _ _)) (hq.later (below2 _ _ _)))).mono ?_
  rintro e w1 ⟨rfl, hb1⟩
  have hB1 := (below2 w (.cells #[.slice ao ts.length cap, .slice (some ⟨b, off, none⟩) q.length qcap] 26) (.cells #[.slice none 0 0, .slice none 0 0] 26)).trans (hb1.mono (by simp; omega))
  have hs1 : w.heap.size + 1 < w1.heap.size := by have := hb1.size; simp at this; omega
  have b0 : w1.cell? ⟨w.heap.size, 0, none⟩ = some (.slice ao ts.length cap) := (hb1.cell (p := ⟨w.heap.size, 0, none⟩) (by simp; omega)).trans (by simp [go_sem])
  have b1 : w1.cell? ⟨w.heap.size, 1, none⟩ = some (.slice (some ⟨b, off, none⟩) q.length qcap) := (hb1.cell (p := ⟨w.heap.size, 1, none⟩) (by simp; omega)).trans (by simp [go_sem])
  have r0 : w1.cell? ⟨w.heap.size + 1, 0, none⟩ = some (.slice none 0 0) := (hb1.cell (p := ⟨w.heap.size + 1, 0, none⟩) (by simp)).trans (by simp [go_sem])
  have r1 : w1.cell? ⟨w.heap.size + 1, 1, none⟩ = some (.slice none 0 0) := (hb1.cell (p := ⟨w.heap.size + 1, 1, none⟩) (by simp)).trans (by simp [go_sem])
  have f0 : w1.frozen? ⟨w.heap.size + 1, 0, none⟩ = false := (hb1.frozen (p := ⟨w.heap.size + 1, 0, none⟩) (by simp)).trans (by simp [go_sem])
  have f1 : w1.frozen? ⟨w.heap.size + 1, 1, none⟩ = false := (hb1.frozen (p := ⟨w.heap.size + 1, 1, none⟩) (by simp)).trans (by simp [go_sem])
  clear hb1
  rw [HG.out]
  gi_wp2_with fail
  refine ⟨trivial, ?_⟩
  refine (callsIn_wide.2 (runningTask_any ao cap ts (some ⟨b, off, none⟩) q.length qcap _ hl (hz.later hB1))).mono ?_
  rintro e w2 ⟨rfl, hb2⟩
  have hB2 := hB1.trans (hb2.mono hB1.size)
  have hs2 : w.heap.size + 1 < w2.heap.size := Nat.lt_of_lt_of_le hs1 hb2.size
  have c0 : w2.cell? ⟨w.heap.size, 0, none⟩ = some (.slice ao ts.length cap) := (hb2.cell (p := ⟨w.heap.size, 0, none⟩) (by simp; omega)).trans b0
  have c1 : w2.cell? ⟨w.heap.size, 1, none⟩ = some (.slice (some ⟨b, off, none⟩) q.length qcap) := (hb2.cell (p := ⟨w.heap.size, 1, none⟩) (by simp; omega)).trans b1
  have d0 : w2.cell? ⟨w.heap.size + 1, 0, none⟩ = some (.slice none 0 0) := (hb2.cell (p := ⟨w.heap.size + 1, 0, none⟩) hs1).trans r0
  have d1 : w2.cell? ⟨w.heap.size + 1, 1, none⟩ = some (.slice none 0 0) := (hb2.cell (p := ⟨w.heap.size + 1, 1, none⟩) hs1).trans r1
  have d2 : w2.frozen? ⟨w.heap.size + 1, 0, none⟩ = false := (hb2.frozen (p := ⟨w.heap.size + 1, 0, none⟩) hs1).trans f0
  have d3 : w2.frozen? ⟨w.heap.size + 1, 1, none⟩ = false := (hb2.frozen (p := ⟨w.heap.size + 1, 1, none⟩) hs1).trans f1
  clear hb2 b0 b1 r0 r1 f0 f1 hB1
  rw [HRun.out]
  gi_wp2_with fail
  refine ⟨trivial, ?_⟩
  refine (callsIn_wide.2 (HMod.out _)).mono ?_
  rintro e w2' ⟨rfl, he⟩
  have he2 := he.symm
  clear he
  subst he2
  have hz2 := hz.later hB2
  have hq2 := hq.later hB2
  have hcj : w2.cell? ⟨b, off + j, none⟩ = some (.int .i64 (idn : Int)) := (hB2.cell (p := ⟨b, off + j, none⟩) hbw).trans hcjw
  gi_wp2_with fail
  refine ⟨trivial, ?_⟩
  refine (callsIn_wide.2 (withTask_any ao cap ts (some ⟨b, off, none⟩) qcap q idn 2 _ hl hlq hidn hz2 hq2)).mono ?_
  rintro e w3 ⟨⟨to, go, rfl, hT, hI⟩, hb3⟩
  have hB3 := hB2.trans (hb3.mono hB2.size)
  have hs3 := hb3.size
  have e1 : w3.cell? ⟨w.heap.size, 1, none⟩ = some (.slice (some ⟨b, off, none⟩) q.length qcap) := (hb3.cell (p := ⟨w.heap.size, 1, none⟩) (by simp; omega)).trans c1
  have g0 : w3.cell? ⟨w.heap.size + 1, 0, none⟩ = some (.slice none 0 0) := (hb3.cell (p := ⟨w.heap.size + 1, 0, none⟩) hs2).trans d0
  have g1 : w3.cell? ⟨w.heap.size + 1, 1, none⟩ = some (.slice none 0 0) := (hb3.cell (p := ⟨w.heap.size + 1, 1, none⟩) hs2).trans d1
  have g2 : w3.frozen? ⟨w.heap.size + 1, 0, none⟩ = false := (hb3.frozen (p := ⟨w.heap.size + 1, 0, none⟩) hs2).trans d2
  have g3 : w3.frozen? ⟨w.heap.size + 1, 1, none⟩ = false := (hb3.frozen (p := ⟨w.heap.size + 1, 1, none⟩) hs2).trans d3
  have HT3 : Hid (FreshT w2.heap.size w3.heap.size w3 to ts.length (ts.set idn (2, 0))) := hT
  have HI3 : Hid (IntsIn w3.heap.size w3 (some ⟨b, off, none⟩) q) := hq.later hB3
  clear hT hI hb3 c0 c1 d0 d1 d2 d3 hcj hz2 hq2 hB2
  obtain ⟨g, rfl, hg1, hg2, hg3, z1, z2, z3⟩ := HT3.out.at (by rw [List.length_set]; omega)
  clear z1 z2 z3
  have hlt0 : w.heap.size < w3.heap.size := by omega
  have hlt1 : w.heap.size + 1 < w3.heap.size := by omega
  obtain ⟨W3, hW3⟩ : ∃ W3, W3 = w3.alloc (.cells #[.slice (some ⟨g, 0, none⟩) ts.length ts.length, .slice go q.length q.length] 26) := ⟨_, rfl⟩
  have hbA : Below w3.heap.size w3 W3 := by rw [hW3]; exact below1 _ _
  have hsA : W3.heap.size = w3.heap.size + 1 := by rw [hW3]; simp
  have e2 : (w3.alloc (.cells #[.slice (some ⟨g, 0, none⟩) ts.length ts.length, .slice go q.length q.length] 26)).cell? ⟨w.heap.size, 1, none⟩ = some (.slice (some ⟨b, off, none⟩) q.length qcap) := by rw [← hW3]; exact (hbA.cell (p := ⟨w.heap.size, 1, none⟩) hlt0).trans e1
  have n0 : W3.cell? ⟨w3.heap.size, 0, none⟩ = some (.slice (some ⟨g, 0, none⟩) ts.length ts.length) := by rw [hW3]; simp [go_sem]
  have n1 : W3.cell? ⟨w3.heap.size, 1, none⟩ = some (.slice go q.length q.length) := by rw [hW3]; simp [go_sem]
  have n2 : W3.frozen? ⟨w3.heap.size, 1, none⟩ = false := by rw [hW3]; simp [go_sem]
  have hsA' : w3.heap.size < W3.heap.size := by omega
  have HsA : Hid (W3.heap.size = w3.heap.size + 1) := hsA
  clear hsA e1
  gi_wp2_with fail
  rw [← hW3]
  clear e2 hW3
  have HI4 : IntsIn W3.heap.size W3 (some ⟨b, off, none⟩) q := HI3.out.later hbA
  refine ⟨trivial, ?_⟩
  refine (callsIn_wide.2 (queueOfI_any (some ⟨b, off, none⟩) qcap q _ hlq HI4)).mono ?_
  rintro e w4 ⟨⟨go4, rfl, hO4⟩, hb4⟩
  have HO4 : Hid (IntsIn w4.heap.size w4 go4 q) := hO4.ints
  clear hO4
  gi_wp2_with fail
  refine ⟨trivial, ?_⟩
  refine (callsIn_wide.2 (HWo.out go4 _ HO4.out)).mono ?_
  rintro e w5 ⟨⟨go5, qc5, rfl, hI5⟩, hb5⟩
  have HI5 : Hid (FreshI w4.heap.size w5.heap.size w5 go5 qc5 Q) := hI5
  clear hI5
  gi_wp2_with fail
  refine ⟨trivial, ?_⟩
  refine (callsIn_wide.2 (all_any _ ⟨_, _, _, rfl⟩ _)).mono ?_
  rintro e w6 ⟨rfl, rfl⟩
  gi_wp2_with fail
  have hs4 := hb4.size
  have hs5 := hb5.size
  obtain ⟨g5, h5lo, h5hi, h5⟩ := HI5.out.rowAt hs5
  obtain ⟨W0, hW0⟩ : ∃ W0, W0 = (w5.alloc (Obj.cells #[Value.slice go5 Q.length qc5] 50)).alloc (Obj.cells #[Value.slice go5 Q.length qc5] 50) := ⟨_, rfl⟩
  rw [← hW0]
  have hbW : Below w5.heap.size w5 W0 := by rw [hW0]; exact below2 _ _ _
  have hsW : W0.heap.size = w5.heap.size + 1 + 1 := by rw [hW0]; simp
  have cW : W0.cell? ⟨w5.heap.size + 1, 0, none⟩ = some (.slice go5 Q.length qc5) := by rw [hW0]; simp [go_sem]
  have m0 : W0.cell? ⟨w5.heap.size, 0, none⟩ = some (.slice go5 Q.length qc5) := by rw [hW0]; simp [go_sem]
  clear hW0
  have hbX : Below w3.heap.size w3 W0 := hbA.trans ((hb4.mono (by omega)).trans ((hb5.mono (by omega)).trans (hbW.mono (by omega))))
  have hbY : Below W3.heap.size W3 W0 := hb4.trans ((hb5.mono (by omega)).trans (hbW.mono (by omega)))
  have hBW : Below w.heap.size w W0 := hB3.trans (hbX.mono hB3.size)
  have hq0W : Q = [] ∨ ∃ off, go5 = some ⟨g5, off, none⟩ ∧ g5 < W0.heap.size ∧ ∀ j, j < Q.length → W0.cell? ⟨g5, off + j, none⟩ = some (.int .i64 (Q[j]?.getD 0)) := by
    rcases h5 with h | ⟨off, h1, h3, h4⟩
    · exact .inl h
    · exact .inr ⟨off, h1, by omega, fun j hj => (hbW.cell (p := ⟨g5, off + j, none⟩) h3).trans (h4 j hj)⟩
  have hgW : g5 < W0.heap.size := by omega
  have hinv0 : QLoop w.heap.size w3.heap.size w5.heap.size w2.heap.size w3.heap.size w4.heap.size w5.heap.size g ts.length (.slice go q.length q.length) go5 qc5 Q g5 (ts.set idn (2, 0)) W0 :=
    ⟨HT3.out.later hbX, by simp, HPos.out, HI5.out.later hbW, (hbY.cell (p := ⟨w3.heap.size, 0, none⟩) hsA').trans n0, (hbY.cell (p := ⟨w3.heap.size, 1, none⟩) hsA').trans n1, (hbY.frozen (p := ⟨w3.heap.size, 1, none⟩) hsA').trans n2, m0, (hbX.cell (p := ⟨w.heap.size + 1, 0, none⟩) hlt1).trans g0, (hbX.cell (p := ⟨w.heap.size + 1, 1, none⟩) hlt1).trans g1, (hbX.frozen (p := ⟨w.heap.size + 1, 0, none⟩) hlt1).trans g2, (hbX.frozen (p := ⟨w.heap.size + 1, 1, none⟩) hlt1).trans g3, by omega, hgW⟩
  have hk1 : w.heap.size + 1 < w2.heap.size := hs2
  have hk2 : w3.heap.size ≤ w4.heap.size := by omega
  have hk3 : w3.heap.size ≤ w5.heap.size := by omega
  have hk4 : w3.heap.size < w5.heap.size := by omega
  have hk5 : g5 ≠ g := by omega
  clear n0 n1 n2 m0 g0 g1 g2 g3 hbX hbY hbA hb4 hb5 HT3 HI3 HI4 HO4 HMod HRun HG HWo HI5 hB3 hz hq HPos
  refine wpIn_rangeFunc_ownG hro (by omega) (gf := 41) (lb := #[.pointer (some ⟨w5.heap.size + 1, 0, none⟩)]) rfl trivial (enters_of Try.func41 (by kernel_rfl) rfl)
    (allN_stops Fence.wide (4 - 1) trivial hro (by omega) (w5.heap.size + 1) g5 go5 qc5 Q (by omega) W0 (by omega) cW hq0W) SameB.trans (sameB_put hgW) (Below.refl _ _) (fun _ => rfl)
    (fun pre W => QLoop w.heap.size w3.heap.size w5.heap.size w2.heap.size w3.heap.size w4.heap.size w5.heap.size g ts.length (.slice go q.length q.length) go5 qc5 Q g5 (bumps (ts.set idn (2, 0)) (pre.map fun x => Q[x]?.getD 0)) W ∧ Below w.heap.size w W)
    (fun _ _ _ => False)
    (OwnFrom.and (Own.from (fun s A B row hs hg hr => hs.kept hg hr) _) (ownFrom_below (Nat.le_refl _) (by omega)))
    (fun _ _ _ _ _ hs _ _ => hs)
    ⟨hinv0, hBW⟩
    (fun x => { tmps := #[Value.agg #[Value.slice ao ts.length cap, Value.slice (some ⟨b, off, none⟩) q.length qcap], Value.int .i64 iv, Value.pointer (some ⟨w.heap.size, 0, none⟩), undef, Value.pointer (some ⟨w.heap.size + 1, 0, none⟩), Value.int .i64 0, Value.int .i64 0, Value.int .i64 0, Value.bool false, Value.int .i64 (j : Int), Value.int .i64 (idn : Int), Value.pointer (some ⟨w3.heap.size, 0, none⟩), Value.pointer (some ⟨w5.heap.size, 0, none⟩), undef, Value.int .i64 (Q[x]?.getD 0), Value.agg #[Value.slice ao ts.length cap, Value.slice (some ⟨b, off, none⟩) q.length qcap], Value.bool true, Value.bool false, undef, Value.tuple #[Value.int .i64 0, Value.bool false], Value.agg #[Value.slice ao ts.length cap, Value.slice (some ⟨b, off, none⟩) q.length qcap], Value.tuple #[Value.int .i64 0, Value.bool false], Value.int .i64 0, Value.bool false, Value.bool false, undef, undef, Value.pointer (some ⟨w.heap.size, 1, none⟩), Value.slice (some ⟨b, off, none⟩) q.length qcap, Value.int .i64 (q.length : Int), Value.bool false, undef, undef, Value.int .i64 iv, Value.pointer (some ⟨w.heap.size, 1, none⟩), Value.slice (some ⟨b, off, none⟩) q.length qcap, Value.int .i64 (q.length : Int), Value.int .i64 (j : Int), Value.pointer (some ⟨w.heap.size, 1, none⟩), Value.slice (some ⟨b, off, none⟩) q.length qcap, Value.int .i64 (j : Int), Value.pointer (some ⟨b, off + j, none⟩), Value.int .i64 (idn : Int), Value.agg #[Value.slice ao ts.length cap, Value.slice (some ⟨b, off, none⟩) q.length qcap], Value.int .i64 (idn : Int), Value.agg #[Value.slice (some ⟨g, 0, none⟩) ts.length ts.length, Value.slice go q.length q.length], Value.pointer (some ⟨w.heap.size, 1, none⟩), Value.slice (some ⟨b, off, none⟩) q.length qcap, Value.agg #[Value.slice go4 q.length q.length], Value.int .i64 (j : Int), Value.agg #[Value.slice go5 Q.length qc5], Value.agg #[Value.slice go5 Q.length qc5], Value.func (Fn.func 41) #[] #[Value.pointer (some ⟨w5.heap.size + 1, 0, none⟩)], Value.int .i64 (x : Int), Value.int .i64 (Q[x]?.getD 0), undef, undef, undef, undef, undef, undef, undef, undef, undef, undef, undef, undef, undef, undef, undef], defers := [] }) ?assign ?body ?done ?stop
  case assign =>
    intro l x W K hK
    gi_wp2
    exact hK
  case body =>
    rintro l pre x W ⟨hI, hB⟩ hlen
    have hxin := HQx.out x
    have HT : Hid (bumps (ts.set idn (2, 0)) ((pre ++ [x]).map fun x => Q[x]?.getD 0) = bump (bumps (ts.set idn (2, 0)) (pre.map fun x => Q[x]?.getD 0)) (Q[x]?.getD 0)) := by rw [Hid, List.map_append, ← bumps_snoc]; rfl
    generalize Q[x]?.getD 0 = y at *
    obtain ⟨xn, rfl⟩ : ∃ n : Nat, y = n := ⟨y.toNat, by omega⟩
    generalize bumps (ts.set idn (2, 0)) (pre.map fun x => Q[x]?.getD 0) = T at *
    have hTl := hI.len
    have hxn : xn < ts.length := by omega
    obtain ⟨g', e, _, _, hgw, hcs, hfs, _⟩ := hI.tasks.pass (by omega)
    cases e
    obtain ⟨hp0, hp1⟩ := hcs xn (by omega)
    have hf0 := hfs (xn * 2)
    have hf1 := hfs (xn * 2 + 1)
    have hpp := hI.pos xn
    obtain ⟨st, hst⟩ : ∃ s, s = (T[xn]?.getD (0, 0)).1 := ⟨_, rfl⟩
    obtain ⟨pp, hpe⟩ : ∃ p, p = (T[xn]?.getD (0, 0)).2 := ⟨_, rfl⟩
    rw [← hst] at hp0
    rw [← hpe] at hp1 hpp
    have HE : Hid (bump T (xn : Int) = T.set xn (st, passV pp)) := by rw [Hid, bump, Int.toNat_natCast, hst, hpe]
    have HPP : Hid (0 ≤ pp) := hpp
    have HI : Hid (QLoop w.heap.size w3.heap.size w5.heap.size w2.heap.size w3.heap.size w4.heap.size w5.heap.size g ts.length (.slice go q.length q.length) go5 qc5 Q g5 T W) := hI
    have n0 := hI.n0
    have hbig := hI.big
    have hNW : w3.heap.size < W.heap.size := by omega
    have hx0 : (0 : Int) ≤ (xn : Int) := by omega
    have hx1 : (xn : Int) < (ts.length : Int) := by omega
    clear hI hcs hfs hst hpe hpp
    obtain ⟨V, hV⟩ : ∃ V, V = (W.drew.alloc (.cells #[.int .i64 st, .int .i64 (passV pp)] 34)).alloc (.cells #[.int .i64 st, .int .i64 (passV pp)] 34) := ⟨_, rfl⟩
    have hbD : Below W.heap.size W V := by rw [hV]; exact (show Below W.heap.size W W.drew from ⟨rfl, rfl, rfl, Nat.le_refl _, fun _ _ => rfl⟩).trans (below2 W.drew _ _)
    have HFin : Hid (KeepsOthers W ((V.setCell ⟨g, xn * 2, none⟩ (.int .i64 st)).setCell ⟨g, xn * 2 + 1, none⟩ (.int .i64 (passV pp))) ∧ SameB g5 W ((V.setCell ⟨g, xn * 2, none⟩ (.int .i64 st)).setCell ⟨g, xn * 2 + 1, none⟩ (.int .i64 (passV pp))) ∧ QLoop w.heap.size w3.heap.size w5.heap.size w2.heap.size w3.heap.size w4.heap.size w5.heap.size g ts.length (.slice go q.length q.length) go5 qc5 Q g5 (bumps (ts.set idn (2, 0)) ((pre ++ [x]).map fun x => Q[x]?.getD 0)) ((V.setCell ⟨g, xn * 2, none⟩ (.int .i64 st)).setCell ⟨g, xn * 2 + 1, none⟩ (.int .i64 (passV pp))) ∧ Below w.heap.size w ((V.setCell ⟨g, xn * 2, none⟩ (.int .i64 st)).setCell ⟨g, xn * 2 + 1, none⟩ (.int .i64 (passV pp)))) := by
      refine ⟨((keeps_of_below hbD).trans (KeepsOthers.setCell _ _ _)).trans (KeepsOthers.setCell _ _ _), (sameB_below hbD HI.out.g5).trans ((sameB_set hk5).trans (sameB_set hk5)), ?_, ((hB.trans (hbD.mono hB.size)).setCell (p := ⟨g, xn * 2, none⟩) (by simp; omega) _).setCell (p := ⟨g, xn * 2 + 1, none⟩) (by simp; omega) _⟩
      rw [HT.out, HE.out]
      exact (HI.out.later hbD hNW (by omega)).put hk1 hg1 hg2 (Nat.le_refl _) hk2 hk3 xn hxn st (passV pp) (passV_pos HPP.out)
    have k0 : V.cell? ⟨w3.heap.size, 0, none⟩ = some (.slice (some ⟨g, 0, none⟩) ts.length ts.length) := (hbD.cell (p := ⟨w3.heap.size, 0, none⟩) hNW).trans n0
    have k1 : V.cell? ⟨g, xn * 2, none⟩ = some (.int .i64 st) := (hbD.cell (p := ⟨g, xn * 2, none⟩) hgw).trans hp0
    have k2 : V.cell? ⟨g, xn * 2 + 1, none⟩ = some (.int .i64 pp) := (hbD.cell (p := ⟨g, xn * 2 + 1, none⟩) hgw).trans hp1
    have k3 : V.frozen? ⟨g, xn * 2, none⟩ = false := (hbD.frozen (p := ⟨g, xn * 2, none⟩) hgw).trans hf0
    have k4 : V.frozen? ⟨g, xn * 2 + 1, none⟩ = false := (hbD.frozen (p := ⟨g, xn * 2 + 1, none⟩) hgw).trans hf1
    have HCall : Hid (CallsIn (Fence.wide.inRound l) (3 - 1 - 1) Try.prog 22 #[.agg #[.int .i64 st, .int .i64 pp]] W.drew fun e w' => e = .returned (.agg #[.int .i64 st, .int .i64 (passV pp)]) ∧ w' = V) := by rw [Hid, hV]; exact CallsIn.inRound l (callsIn_wide.2 (passOver_any st pp W.drew HPP.out))
    clear hbD HT HE hV HI HPP hinv0 cW hq0W hbW hBW hsW hgW h5 hk1 hk2 hk3 hk4 hk5 hs1 hs2 hs3 hs4 hs5 hlt0 hlt1 hsA' HsA HQx h5lo h5hi hcjw hbw hq0 hq0' hj hj0 hj1 hin hidn hlen hB hbig hg1 hg2 hg3 hxin hTl hQl hl hlq hts0 hNW hgw HD2
    gi_wp2_with fail
    refine wpIn_mono (Q := fun e _ w' => e = .normal ∧ w' = (V.setCell ⟨g, xn * 2, none⟩ (.int .i64 st)).setCell ⟨g, xn * 2 + 1, none⟩ (.int .i64 (passV pp))) ?region ?after
    case after =>
      rintro e a' w' ⟨rfl, rfl⟩
      exact ⟨HFin.out.1.from _, HFin.out.2.1, HFin.out.2.2.1, HFin.out.2.2.2⟩
    case region =>
      clear HFin
      refine wpIn_region_any (by kernel_rfl) ?_
      change wpAnyIn _ _ _ _ _ _ _ _ _ (World.drew _)
      refine wpAnyIn_inRound l ?nd _ _ _ _ ?go
      case nd =>
        intro i o c ho
        have hm := Array.mem_of_getElem? ho
        simp only [List.mem_toArray, List.mem_cons, List.not_mem_nil, or_false] at hm
        rcases hm with rfl | rfl | rfl | rfl | rfl | rfl | rfl | rfl | rfl | rfl | rfl <;> (intro h; cases h)
      case go =>
        have HC2 : Hid (CallsIn Fence.wide (3 - 1 - 1) Try.prog 22 #[.agg #[.int .i64 st, .int .i64 pp]] W.drew fun e w' => e = .returned (.agg #[.int .i64 st, .int .i64 (passV pp)]) ∧ w' = V) := CallsIn.outOfRound HCall.out
        clear HCall
        refine wpAnyIn_take (i := 0) (v := (.pointer (some ⟨w3.heap.size, 0, none⟩))) rfl rfl (by kernel_rfl) (by kernel_rfl) (by kernel_rfl) (fun _ _ _ h => h) ⟨Or.inl ⟨by rfl, by intro w; go_simp⟩, fun _ => rfl⟩ ?_
        refine wpAnyIn_take (i := 2) (v := (.int .i64 (xn : Int))) rfl rfl (by kernel_rfl) (by kernel_rfl) (by kernel_rfl) (fun _ _ _ h => h) ⟨Or.inl ⟨by rfl, by intro w; go_simp⟩, fun _ => rfl⟩ ?_
        refine wpAnyIn_take (i := 3) (v := (.pointer (some ⟨w3.heap.size, 0, none⟩))) rfl rfl (by kernel_rfl) (by kernel_rfl) (by kernel_rfl) (fun _ _ _ h => h) ⟨Or.inl ⟨by rfl, by intro w; go_simp⟩, fun _ => rfl⟩ ?_
        refine wpAnyIn_take (i := 5) (v := (.int .i64 (xn : Int))) rfl rfl (by kernel_rfl) (by kernel_rfl) (by kernel_rfl) (fun _ _ _ h => h) ⟨Or.inl ⟨by rfl, by intro w; go_simp⟩, fun _ => rfl⟩ ?_
        refine wpAnyIn_ready (rs := [1, 4]) (by kernel_rfl) (by simp) ?_
        refine AllReadyIn.cons rfl (fun K hK => ?_) (AllReadyIn.cons rfl (fun K hK => ?_) (AllReadyIn.nil))
        · go_simp
          refine hK _ _ ?_
          clear hK K
          refine wpAnyIn_ready (rs := [4]) (by kernel_rfl) (by simp) ?_
          refine AllReadyIn.cons rfl (fun K hK => ?_) (AllReadyIn.nil)
          go_simp
          refine hK _ _ ?_
          clear hK K
          refine wpAnyIn_take (i := 6) (v := (.pointer (some ⟨g, xn * 2, none⟩))) rfl rfl (by kernel_rfl) (by kernel_rfl) (by kernel_rfl) (fun _ _ _ h => h) ⟨Or.inl ⟨by rfl, by intro w; go_simp⟩, fun _ => rfl⟩ ?_
          refine wpAnyIn_ready (rs := [7]) (by kernel_rfl) (by simp) ?_
          refine AllReadyIn.cons rfl (fun K hK => ?_) (AllReadyIn.nil)
          go_simp
          refine hK _ _ ?_
          clear hK K
          refine wpAnyIn_ready (rs := [8]) (by kernel_rfl) (by simp) ?_
          refine AllReadyIn.cons rfl (fun K hK => ?_) (AllReadyIn.nil)
          go_simp
          refine ⟨trivial, HC2.out.mono ?_⟩
          rintro e w' ⟨rfl, rfl⟩
          refine hK _ _ ?_
          clear hK K
          refine wpAnyIn_take (i := 9) (v := (.pointer (some ⟨g, xn * 2, none⟩))) rfl rfl (by kernel_rfl) (by kernel_rfl) (by kernel_rfl) (fun _ _ _ h => h) ⟨Or.inl ⟨by rfl, by intro w; go_simp⟩, fun _ => rfl⟩ ?_
          refine wpAnyIn_ready (rs := [10]) (by kernel_rfl) (by simp) ?_
          refine AllReadyIn.cons rfl (fun K hK => ?_) (AllReadyIn.nil)
          go_simp
          refine hK _ _ ?_
          clear hK K
          refine wpAnyIn_done (by kernel_rfl) ?_ _
          exact ⟨rfl, rfl⟩
        · go_simp
          refine hK _ _ ?_
          clear hK K
          refine wpAnyIn_take (i := 6) (v := (.pointer (some ⟨g, xn * 2, none⟩))) rfl rfl (by kernel_rfl) (by kernel_rfl) (by kernel_rfl) (fun _ _ _ h => h) ⟨Or.inl ⟨by rfl, by intro w; go_simp⟩, fun _ => rfl⟩ ?_
          refine wpAnyIn_ready (rs := [1, 7]) (by kernel_rfl) (by simp) ?_
          refine AllReadyIn.cons rfl (fun K hK => ?_) (AllReadyIn.cons rfl (fun K hK => ?_) (AllReadyIn.nil))
          · go_simp
            refine hK _ _ ?_
            clear hK K
            refine wpAnyIn_ready (rs := [7]) (by kernel_rfl) (by simp) ?_
            refine AllReadyIn.cons rfl (fun K hK => ?_) (AllReadyIn.nil)
            go_simp
            refine hK _ _ ?_
            clear hK K
            refine wpAnyIn_ready (rs := [8]) (by kernel_rfl) (by simp) ?_
            refine AllReadyIn.cons rfl (fun K hK => ?_) (AllReadyIn.nil)
            go_simp
            refine ⟨trivial, HC2.out.mono ?_⟩
            rintro e w' ⟨rfl, rfl⟩
            refine hK _ _ ?_
            clear hK K
            refine wpAnyIn_take (i := 9) (v := (.pointer (some ⟨g, xn * 2, none⟩))) rfl rfl (by kernel_rfl) (by kernel_rfl) (by kernel_rfl) (fun _ _ _ h => h) ⟨Or.inl ⟨by rfl, by intro w; go_simp⟩, fun _ => rfl⟩ ?_
            refine wpAnyIn_ready (rs := [10]) (by kernel_rfl) (by simp) ?_
            refine AllReadyIn.cons rfl (fun K hK => ?_) (AllReadyIn.nil)
            go_simp
            refine hK _ _ ?_
            clear hK K
            refine wpAnyIn_done (by kernel_rfl) ?_ _
            exact ⟨rfl, rfl⟩
          · go_simp
            refine hK _ _ ?_
            clear hK K
            refine wpAnyIn_ready (rs := [1, 8]) (by kernel_rfl) (by simp) ?_
            refine AllReadyIn.cons rfl (fun K hK => ?_) (AllReadyIn.cons rfl (fun K hK => ?_) (AllReadyIn.nil))
            · go_simp
              refine hK _ _ ?_
              clear hK K
              refine wpAnyIn_ready (rs := [8]) (by kernel_rfl) (by simp) ?_
              refine AllReadyIn.cons rfl (fun K hK => ?_) (AllReadyIn.nil)
              go_simp
              refine ⟨trivial, HC2.out.mono ?_⟩
              rintro e w' ⟨rfl, rfl⟩
              refine hK _ _ ?_
              clear hK K
              refine wpAnyIn_take (i := 9) (v := (.pointer (some ⟨g, xn * 2, none⟩))) rfl rfl (by kernel_rfl) (by kernel_rfl) (by kernel_rfl) (fun _ _ _ h => h) ⟨Or.inl ⟨by rfl, by intro w; go_simp⟩, fun _ => rfl⟩ ?_
              refine wpAnyIn_ready (rs := [10]) (by kernel_rfl) (by simp) ?_
              refine AllReadyIn.cons rfl (fun K hK => ?_) (AllReadyIn.nil)
              go_simp
              refine hK _ _ ?_
              clear hK K
              refine wpAnyIn_done (by kernel_rfl) ?_ _
              exact ⟨rfl, rfl⟩
            · go_simp
              refine ⟨trivial, HC2.out.mono ?_⟩
              rintro e w' ⟨rfl, rfl⟩
              refine hK _ _ ?_
              clear hK K
              refine wpAnyIn_ready (rs := [1]) (by kernel_rfl) (by simp) ?_
              refine AllReadyIn.cons rfl (fun K hK => ?_) (AllReadyIn.nil)
              go_simp
              refine hK _ _ ?_
              clear hK K
              refine wpAnyIn_take (i := 9) (v := (.pointer (some ⟨g, xn * 2, none⟩))) rfl rfl (by kernel_rfl) (by kernel_rfl) (by kernel_rfl) (fun _ _ _ h => h) ⟨Or.inl ⟨by rfl, by intro w; go_simp⟩, fun _ => rfl⟩ ?_
              refine wpAnyIn_ready (rs := [10]) (by kernel_rfl) (by simp) ?_
              refine AllReadyIn.cons rfl (fun K hK => ?_) (AllReadyIn.nil)
              go_simp
              refine hK _ _ ?_
              clear hK K
              refine wpAnyIn_done (by kernel_rfl) ?_ _
              exact ⟨rfl, rfl⟩
  case done =>
    rintro D ys W hD rfl ⟨hI, hB⟩ hK
    have hmap : (List.range Q.length).map (fun x => Q[x]?.getD 0) = Q := by
      refine List.ext_getElem (by simp) fun i h1 h2 => ?_
      simp [h2]
    rw [hmap] at hI
    have HF : Hid (QLoop w.heap.size w3.heap.size w5.heap.size w2.heap.size w3.heap.size w4.heap.size w5.heap.size g ts.length (.slice go q.length q.length) go5 qc5 Q g5 (bumps (ts.set idn (2, 0)) Q) W) := hI
    have n0 := hI.n0
    have n1 := hI.n1
    have n2 := hI.n2
    have m0 := hI.m0
    have r0 := hI.r0
    have r1 := hI.r1
    have r2 := hI.r2
    have r3 := hI.r3
    have hne : w3.heap.size ≠ w.heap.size + 1 := by omega
    clear hI hmap
    gi_wp2
    obtain ⟨X, hX⟩ : ∃ X, X = ((W.setCell ⟨w3.heap.size, 1, none⟩ (.slice go5 Q.length qc5)).setCell ⟨w.heap.size + 1, 0, none⟩ (.slice (some ⟨g, 0, none⟩) ts.length ts.length)).setCell ⟨w.heap.size + 1, 1, none⟩ (.slice go5 Q.length qc5) := ⟨_, rfl⟩
    have hk1 : KeepsOthers W X := by rw [hX]; exact ((KeepsOthers.setCell _ _ _).trans (KeepsOthers.setCell _ _ _)).trans (KeepsOthers.setCell _ _ _)
    have hK' := hk1.same D _ hK rfl
    have x0 : X.cell? ⟨w.heap.size + 1, 0, none⟩ = some (.slice (some ⟨g, 0, none⟩) ts.length ts.length) := by rw [hX]; simp [go_sem, r0]
    have x1 : X.cell? ⟨w.heap.size + 1, 1, none⟩ = some (.slice go5 Q.length qc5) := by rw [hX]; simp [go_sem, r1]
    have hTl := HF.out.len
    have hA := ans3_of (i := (idn : Int)) (c := 0) (hB.setCell (p := ⟨w3.heap.size, 1, none⟩) (by simp; omega) (.slice go5 Q.length qc5)) ((HF.out.tasks.setAbove (a := ⟨w3.heap.size, 1, none⟩) (by simp) (.slice go5 Q.length qc5)).wide (by omega) (by have := HF.out.big; simp; omega)) ((HF.out.ints.setBelow (a := ⟨w3.heap.size, 1, none⟩) (by simp; omega) (.slice go5 Q.length qc5)).wide (by omega) (by have := HF.out.big; simp; omega)) (.slice (some ⟨g, 0, none⟩) ts.length ts.length) (.slice go5 Q.length qc5)
    rw [← hX, hTl] at hA
    rw [← hX]
    refine ⟨by simp, .inl ⟨_, _, rfl, run_takeDeferred hK', ?_⟩⟩
    have c0 := cell_kept x0 (grownBy_putObj' X D (.deferred none)) (fun r e => by cases e; exact ⟨_, hK', rfl⟩)
    have c1 := cell_kept x1 (grownBy_putObj' X D (.deferred none)) (fun r e => by cases e; exact ⟨_, hK', rfl⟩)
    refine ⟨.tuple #[.agg #[.slice (some ⟨g, 0, none⟩) ts.length ts.length, .slice go5 Q.length qc5], .int .i64 (idn : Int), .int .i64 0], by simp [results, Try.f5, go_sem, c0, c1], ?_⟩
    obtain ⟨⟨to', tc', go', qc', he, hT', hI'⟩, hB'⟩ := hA
    exact ⟨⟨to', tc', go', qc', he, (hT'.kept (grownBy_putObj' _ D (.deferred none)) (fun r e => by cases e; exact ⟨_, hK', rfl⟩)).wide (by omega) (by simp), (hI'.kept (grownBy_putObj' _ D (.deferred none)) (fun r e => by cases e; exact ⟨_, hK', rfl⟩)).wide (by omega) (by simp)⟩, hB'.trans (belowK_b (w := W0) (by have := hBW.size; omega) _ D _ _ hD hK' rfl rfl)⟩
  case stop =>
    rintro D c pre W _ _ h _
    exact h.elim

theorem implPick_any (ao : Option Addr) (cap : Nat) (ts : List (Int × Int)) (qo : Option Addr) (qcap : Nat) (q : List Int) (iv : Int) (w : World) (hl : ts.length ≤ 1048576) (hlq : q.length ≤ 1048576) (hz : TasksIn w.heap.size w ao ts) (hq : IntsIn w.heap.size w qo q) :
    Calls Try.prog 5 #[.agg #[.slice ao ts.length cap, .slice qo q.length qcap], .int .i64 iv] w fun e w' => Ans3 w (pickR iv ts q) e w' := by
  cases hg : specGoodB ts q
  · exact implPick_early ao cap ts qo qcap q iv w hl hlq hz hq (.inl hg)
  · by_cases hx : 0 ≤ runI ts
    · exact implPick_early ao cap ts qo qcap q iv w hl hlq hz hq (.inr (.inl hx))
    · by_cases h0 : q.length = 0
      · exact implPick_early ao cap ts qo qcap q iv w hl hlq hz hq (.inr (.inr h0))
      · exact implPick_main ao cap ts qo qcap q iv w hl hlq hz hq hg hx h0
end Go.Proofs.Ytgbnbnjfaffaiaa.Old
