
/- The queue without one place: the program's, by its iterator. No conditions but those written. -/
import Derived.Test.YtgbnbnjfaffaiaaOKc
import Derived.Test.YtgbnbnjfaffaiaaOMe
namespace Go.Proofs.Ytgbnbnjfaffaiaa.Old
open Go.RowKit Go.Shelf

attribute [local go_sem] Oper.semAt_some

/-- Of what came the numbers whose place is not pl. -/
def keepP (pl : Int) (pre : List (Nat × Int)) : List Int := (pre.filter (fun p => (p.1 : Int) != pl)).map Prod.snd
theorem keepP_snoc (pl : Int) (pre : List (Nat × Int)) (x : Nat × Int) : keepP pl (pre ++ [x]) = if (x.1 : Int) = pl then keepP pl pre else keepP pl pre ++ [x.2] := by
  rw [keepP, List.filter_append]
  by_cases e : (x.1 : Int) = pl <;> simp [keepP, e]
theorem keepP_len (pl : Int) (pre : List (Nat × Int)) : (keepP pl pre).length ≤ pre.length := by
  rw [keepP, List.length_map]; exact List.length_filter_le _ _
def dropAt (q : List Int) (pl : Int) : List Int := keepP pl (upto (fun j => (j, q[j]?.getD 0)) q.length)
theorem dropAt_len (q : List Int) (pl : Int) : (dropAt q pl).length ≤ q.length := by
  have := keepP_len pl (upto (fun j => (j, q[j]?.getD 0)) q.length)
  rw [upto_length] at this; exact this

theorem owns_kept {w w' : World} {base : Nat} {e : TypeId} {size : Nat} {v : Value} {n : Nat} {xs : List Value} {row : Option Nat} (h : w.ownsRow base e size v n xs) (hg : w.grownBy w' row) (hr : ∀ r, row = some r → ∃ o : Obj, w.heap[r]? = some o ∧ o.isCells = false) : w'.ownsRow base e size v n xs := by
  obtain ⟨h1, h2⟩ := h
  refine ⟨h1, ?_⟩
  rcases h2 with h2 | ⟨g, cap, cur, hv, hb, hh, r⟩
  · exact Or.inl h2
  · refine Or.inr ⟨g, cap, cur, hv, hb, ?_, r⟩
    rw [hg.block g (Array.getElem?_eq_some_iff.1 hh).1 (fun e => ?_)]
    · exact hh
    · obtain ⟨o, ho, hc⟩ := hr g e.symm
      rw [hh] at ho; cases ho; cases hc

theorem FreshI.kept {lo hi : Nat} {W W' : World} {qo : Option Addr} {qc : Nat} {q : List Int} {row : Option Nat} (h : FreshI lo hi W qo qc q) (hg : W.grownBy W' row) (hr : ∀ r, row = some r → ∃ o : Obj, W.heap[r]? = some o ∧ o.isCells = false) : FreshI lo hi W' qo qc q := by
  rcases h with h | ⟨g, e, hl, ho⟩
  · exact .inl h
  · exact .inr ⟨g, e, hl, owns_kept ho hg hr⟩

/-- Between two rounds: the box holds a row of its own with what is kept. -/
def DInv (B : Nat) (pl : Int) (g : Nat) (pre : List (Nat × Int)) (W : World) : Prop :=
  W.cell? ⟨B + 1, 0, none⟩ = some (.int .i64 pl) ∧ (W.cell? ⟨B + 1 + 1, 0, none⟩ = some (.slice none 0 0) ∧ W.frozen? ⟨B + 1 + 1, 0, none⟩ = false) ∧ (∃ v, W.cell? ⟨B + 1 + 1 + 1, 0, none⟩ = some v ∧ W.ownsRow (B + 1 + 1 + 1 + 1) 3 1 v (keepP pl pre).length ((keepP pl pre).map (Value.int .i64))) ∧ W.frozen? ⟨B + 1 + 1 + 1, 0, none⟩ = false ∧ g < W.heap.size
theorem DInv.kept {B : Nat} {pl : Int} {g : Nat} {pre : List (Nat × Int)} {W W' : World} {row : Option Nat} (h : DInv B pl g pre W) (hg : W.grownBy W' row) (hr : ∀ r, row = some r → ∃ o : Obj, W.heap[r]? = some o ∧ o.isCells = false) : DInv B pl g pre W' := by
  obtain ⟨h2, ⟨h3, h4⟩, ⟨v, h5, h6⟩, h7, h8⟩ := h
  exact ⟨cell_kept h2 hg hr, ⟨cell_kept h3 hg hr, (frozen_kept h3 hg hr).trans h4⟩, ⟨v, cell_kept h5 hg hr, owns_kept h6 hg hr⟩, (frozen_kept h5 hg hr).trans h7, Nat.lt_of_lt_of_le h8 hg.size⟩
theorem owns_fresh {lo : Nat} {W : World} {v : Value} {F : List Int} (h : W.ownsRow lo 3 1 v F.length (F.map (Value.int .i64))) : ∃ go qc, v = .slice go F.length qc ∧ FreshI lo W.heap.size W go qc F := by
  rcases h.2 with ⟨e, h0⟩ | ⟨g, cap, cur, e, _⟩
  · have : F = [] := List.length_eq_zero_iff.1 h0
    subst this
    exact ⟨none, 0, e, .inl rfl⟩
  · refine ⟨some ⟨g, 0, none⟩, cap, e, .inr ⟨g, rfl, ?_, ?_⟩⟩
    · rw [e] at h; exact (owns_lt h).2
    · rw [e] at h; exact h
theorem own_block {lo : Nat} {W : World} {v : Value} {n : Nat} {xs : List Value} (h : W.ownsRow lo 3 1 v n xs) : (∀ k, v.ownBlock = some k → lo ≤ k) ∧ ∀ (j : Nat) (o : Obj), v.ownBlock = some j → W.heap[j]? = some o → o.isCells = true := by
  rcases h.2 with ⟨e, _⟩ | ⟨g, cap, cur, e, hb, hh, _⟩
  · subst e
    exact ⟨fun k h => by simp [Value.ownBlock] at h, fun j o h => by simp [Value.ownBlock] at h⟩
  · subst e
    refine ⟨fun k h => by simp [Value.ownBlock] at h; omega, fun j o h ho => ?_⟩
    simp [Value.ownBlock] at h
    subst h
    rw [hh] at ho; cases ho; rfl

theorem IntsIn.row {n : Nat} {W : World} {ao : Option Addr} {q : List Int} (h : IntsIn n W ao q) : ∃ g, g ≤ n ∧ (q = [] ∨ ∃ off, ao = some ⟨g, off, none⟩ ∧ g < n ∧ ∀ j, j < q.length → W.cell? ⟨g, off + j, none⟩ = some (.int .i64 (q[j]?.getD 0))) := by
  rcases h with h | ⟨b, off, e, hb, hc⟩
  · exact ⟨0, Nat.zero_le _, .inl h⟩
  · exact ⟨b, Nat.le_of_lt hb, .inr ⟨off, e, hb, hc⟩⟩

set_option maxRecDepth 100000 in
set_option maxHeartbeats 4000000 in
theorem without_any (ao : Option Addr) (cap : Nat) (q : List Int) (pl : Int) (w : World) (hm : q.length ≤ 1048576) (hq : IntsIn w.heap.size w ao q) :
    Calls Try.prog 20 #[.agg #[.slice ao q.length cap], .int .i64 pl] w fun e w' => (∃ go qc, e = .returned (.agg #[.slice go (dropAt q pl).length qc]) ∧ FreshI w.heap.size w'.heap.size w' go qc (dropAt q pl)) ∧ Below w.heap.size w w' := by
  refine (callsIn_wide (n := 4)).1 ?_
  have hro : Fence.wide.round = none := rfl
  refine callsIn_of_wp_marks Try.func20 rfl trivial ?_ hro
  simp only [Try.ntmps20, List.size_toArray, List.length_cons, List.length_nil, Nat.reduceAdd, Nat.reduceSub, Array.replicate_succ, Array.replicate_zero, List.push_toArray, List.append_toArray, List.nil_append, List.cons_append]
  gi_wp2_with fail
  refine ⟨trivial, ?_⟩
  refine (callsIn_wide.2 (all_any _ ⟨_, _, _, rfl⟩ _)).mono ?_
  rintro e w2 ⟨rfl, rfl⟩
  gi_wp2_with fail
  obtain ⟨g, hgs, hg⟩ := hq.row
  obtain ⟨W0, hW0⟩ : ∃ W0, W0 = ((((w.alloc (Obj.cells #[Value.slice ao q.length cap] 50)).alloc (Obj.cells #[Value.int IntKind.i64 pl] 3)).alloc (Obj.cells #[Value.slice none 0 0] 50)).alloc (Obj.cells #[Value.slice none 0 0] 24)).alloc (Obj.cells #[Value.slice ao q.length cap] 50) := ⟨_, rfl⟩
  rw [← hW0]
  have hBW : Below w.heap.size w W0 := by rw [hW0]; exact (((below3 w _ _ _).alloc (by simp; omega) _).alloc (by simp; omega) _)
  have hsW : W0.heap.size = w.heap.size + 1 + 1 + 1 + 1 + 1 := by rw [hW0]; simp
  have cW : W0.cell? ⟨w.heap.size + 1 + 1 + 1 + 1, 0, none⟩ = some (.slice ao q.length cap) := by rw [hW0]; simp [go_sem]
  have b0 : W0.cell? ⟨w.heap.size + 1, 0, none⟩ = some (.int .i64 pl) := by rw [hW0]; simp [go_sem]
  have r0 : W0.cell? ⟨w.heap.size + 1 + 1, 0, none⟩ = some (.slice none 0 0) := by rw [hW0]; simp [go_sem]
  have r1 : W0.frozen? ⟨w.heap.size + 1 + 1, 0, none⟩ = false := by rw [hW0]; simp [go_sem]
  have r2 : W0.cell? ⟨w.heap.size + 1 + 1 + 1, 0, none⟩ = some (.slice none 0 0) := by rw [hW0]; simp [go_sem]
  have r3 : W0.frozen? ⟨w.heap.size + 1 + 1 + 1, 0, none⟩ = false := by rw [hW0]; simp [go_sem]
  clear hW0
  have hq0 : q = [] ∨ ∃ off, ao = some ⟨g, off, none⟩ ∧ g < W0.heap.size ∧ ∀ j, j < q.length → W0.cell? ⟨g, off + j, none⟩ = some (.int .i64 (q[j]?.getD 0)) := by
    rcases hg with h | ⟨off, h1, h3, h4⟩
    · exact .inl h
    · exact .inr ⟨off, h1, by omega, fun j hj => (hBW.cell (p := ⟨g, off + j, none⟩) h3).trans (h4 j hj)⟩
  have hgW : g < W0.heap.size := by omega
  have hinv0 : DInv w.heap.size pl g [] W0 := ⟨b0, ⟨r0, r1⟩, ⟨.slice none 0 0, r2, World.ownsRow_nil _ _ _ _⟩, r3, hgW⟩
  clear b0 r0 r1 r2 r3 hg
  obtain ⟨i0, hi, hz0, hz1, hz2⟩ := info_parts Try.info3
  refine wpIn_rangeFunc_ownG hro (by omega) (gf := 41) (lb := #[.pointer (some ⟨w.heap.size + 1 + 1 + 1 + 1, 0, none⟩)]) rfl trivial (enters_of Try.func41 (by kernel_rfl) rfl)
    (all_stops Fence.wide (4 - 1) trivial hro (by omega) (w.heap.size + 1 + 1 + 1 + 1) g ao cap q (by omega) W0 (by omega) cW hq0) SameB.trans (sameB_put hgW) (Below.refl _ _) (fun _ => rfl)
    (fun pre W => (pre.length ≤ q.length ∧ DInv w.heap.size pl g pre W) ∧ Below w.heap.size w W)
    (fun _ _ _ => False)
    (OwnFrom.and (Own.from (fun s A B row hs hg hr => ⟨hs.1, hs.2.kept hg hr⟩) _) (ownFrom_below (Nat.le_refl _) (by omega)))
    (fun _ _ _ _ _ hs _ _ => hs)
    ⟨⟨by simp, hinv0⟩, hBW⟩
    (fun x => { tmps := #[Value.agg #[Value.slice ao q.length cap], Value.int .i64 pl, Value.pointer (some ⟨w.heap.size, 0, none⟩), Value.pointer (some ⟨w.heap.size + 1, 0, none⟩), Value.pointer (some ⟨w.heap.size + 1 + 1, 0, none⟩), Value.pointer (some ⟨w.heap.size + 1 + 1 + 1, 0, none⟩), Value.int .i64 (x.1 : Int), Value.int .i64 x.2, Value.agg #[Value.slice ao q.length cap], Value.func (Fn.func 41) #[] #[Value.pointer (some ⟨w.heap.size + 1 + 1 + 1 + 1, 0, none⟩)], Value.int .i64 (x.1 : Int), Value.int .i64 x.2, undef, undef, undef, undef, undef, undef, undef, undef, undef], defers := [] }) ?assign ?body ?done ?stop
  case assign =>
    intro l x W K hK
    gi_wp2
    exact hK
  case body =>
    rintro l pre ⟨x1, x2⟩ W ⟨⟨hpl, hI⟩, hB⟩ hlen
    have HL : Hid ((pre ++ [(x1, x2)]).length ≤ q.length) := by simp [Hid]; omega
    have hkl := keepP_len pl pre
    have hK1 := keepP_snoc pl pre (x1, x2)
    obtain ⟨hb0, ⟨hr0, hr1⟩, ⟨v, hv, hown⟩, hr3, hgW'⟩ := hI
    obtain ⟨go, qc, rfl, _⟩ := owns_fresh hown
    have hBs := hB.size
    have hsB : w.heap.size + 1 + 1 + 1 < W.heap.size := World.block_lt_of_cell? _ _ hv
    have HO : Hid (W.ownsRow (w.heap.size + 1 + 1 + 1 + 1) 3 1 (.slice go (keepP pl pre).length qc) (keepP pl pre).length ((keepP pl pre).map (Value.int .i64))) := hown
    have HK1 : Hid (keepP pl (pre ++ [(x1, x2)]) = if (x1 : Int) = pl then keepP pl pre else keepP pl pre ++ [x2]) := hK1
    clear hown hK1
    generalize hF : keepP pl pre = F at *
    by_cases hx : (x1 : Int) = pl
    · have hx' : ((x1 : Int) != pl) = false := by simpa using hx
      have HE : Hid (keepP pl (pre ++ [(x1, x2)]) = F) := by rw [Hid, HK1.out, if_pos hx]
      clear hx hF
      gi_wp2
      exact ⟨KeepsFrom.refl _ _, rfl, ⟨HL.out, hb0, ⟨hr0, hr1⟩, ⟨_, hv, by rw [HE.out]; exact HO.out⟩, hr3, hgW'⟩, hB⟩
    · have hx' : ((x1 : Int) != pl) = true := by simpa using hx
      have HE : Hid (keepP pl (pre ++ [(x1, x2)]) = F ++ [x2]) := by rw [Hid, HK1.out, if_neg hx]
      have HX : Hid (w.heap.size + 1 + 1 + 1 + 1 ≤ (W.alloc (.cells #[.int .i64 x2] 3)).heap.size ∧ (∀ j u, ([Value.int .i64 x2] : List Value)[j]? = some u → (W.alloc (.cells #[.int .i64 x2] 3)).cell? ((⟨W.heap.size, 0, none⟩ : Addr).add j) = some u) ∧ ∀ u ∈ ([Value.int .i64 x2] : List Value), u.oneCell' = true) := by
        refine ⟨by simp; omega, fun j u h => ?_, fun u hu => by simp at hu; subst hu; rfl⟩
        match j, h with
        | 0, h => simp at h; subst h; simp [Addr.add]
      clear hx hF
      gi_wp2_with (gi_at_builtin; refine wpListIn_append_own (W.alloc (.cells #[.int .i64 x2] 3)) rfl (.tmp 15) (.tmp 17) 24 rfl (w.heap.size + 1 + 1 + 1 + 1) 3 i0 (.int .i64 0) 1 8 Try.underlying24 hi hz0 hz1 hz2 rfl (by decide) (.slice go F.length qc) F.length (F.map (Value.int .i64)) rfl (HO.out.alloc _) ⟨W.heap.size, 0, none⟩ 1 1 [.int .i64 x2] rfl rfl HX.out.2.1 HX.out.2.2 (by unfold maxLen; omega) (by omega) HX.out.1 ?_; intro v' w1 hown' hgrow _; obtain ⟨g', cap', rfl⟩ := owns_form hown' (by omega); have hob := own_block (HO.out.alloc (.cells #[.int .i64 x2] 3)); have hlow : ∀ k, k < w.heap.size + 1 + 1 + 1 + 1 → w1.heap[k]? = W.heap[k]? := (fun k hk => (hgrow.block k (by simp; omega) (fun e => by have := hob.1 k e.symm; omega)).trans (Below.heap_alloc _ _ k (by omega))); have l0 : w1.cell? ⟨w.heap.size + 1 + 1 + 1, 0, none⟩ = some (.slice go F.length qc) := (World.cell?_of_block (a := ⟨w.heap.size + 1 + 1 + 1, 0, none⟩) (hlow _ (by simp))).trans hv; have l1 : w1.frozen? ⟨w.heap.size + 1 + 1 + 1, 0, none⟩ = false := (World.frozen?_of_block (a := ⟨w.heap.size + 1 + 1 + 1, 0, none⟩) (hlow _ (by simp))).trans hr3; have HH : Hid (w1.ownsRow (w.heap.size + 1 + 1 + 1 + 1) 3 1 (.slice (some ⟨g', 0, none⟩) (F.length + 1) cap') (F.length + 1) (F.map (Value.int .i64) ++ [.int .i64 x2]) ∧ KeepsOthers W w1 ∧ (∀ k, k < w.heap.size + 1 + 1 + 1 + 1 → w1.heap[k]? = W.heap[k]?) ∧ W.heap.size ≤ w1.heap.size ∧ w1.os = W.os ∧ w1.tape = W.tape ∧ w1.output = W.output) := ⟨hown', (KeepsOthers.alloc _ _).trans (KeepsOthers.of_grownBy hgrow hob.2), hlow, (by have := hgrow.size; simp at this; omega), hgrow.os, hgrow.tape, hgrow.output⟩; clear hown' hgrow hob hlow)
      obtain ⟨ho, hk, hlow, hsz, c1, c2, c3⟩ := HH.out
      have hB1 : Below w.heap.size w w1 := hB.trans ⟨c1, c2, c3, hsz, fun k hk => hlow k (by omega)⟩
      refine ⟨(hk.trans (KeepsOthers.setCell _ _ _)).from _, SameB.trans (hlow g (by omega)) (sameB_set (by simp; omega)), ⟨HL.out, ?_, ⟨?_, ?_⟩, ⟨_, World.cell?_setCell_same' _ _ _ (by rw [l0]; rfl), ?_⟩, by rw [World.frozen?_setCell]; exact l1, by simp; omega⟩, hB1.setCell (p := ⟨w.heap.size + 1 + 1 + 1, 0, none⟩) (by simp; omega) _⟩
      · rw [World.cell?_setCell_other _ _ _ _ (by simp)]; exact (World.cell?_of_block (a := ⟨w.heap.size + 1, 0, none⟩) (hlow (w.heap.size + 1) (by omega))).trans hb0
      · rw [World.cell?_setCell_other _ _ _ _ (by simp)]; exact (World.cell?_of_block (a := ⟨w.heap.size + 1 + 1, 0, none⟩) (hlow (w.heap.size + 1 + 1) (by omega))).trans hr0
      · rw [World.frozen?_setCell]; exact (World.frozen?_of_block (a := ⟨w.heap.size + 1 + 1, 0, none⟩) (hlow (w.heap.size + 1 + 1) (by omega))).trans hr1
      · rw [HE.out]
        have := ownsRow_setCell_below ho (a := ⟨w.heap.size + 1 + 1 + 1, 0, none⟩) (by simp) (.slice (some ⟨g', 0, none⟩) (F.length + 1) cap')
        simpa using this
  case done =>
    rintro D ys W hD rfl ⟨⟨hpl, hI⟩, hB⟩ hK
    obtain ⟨hb0, ⟨hr0, hr1⟩, ⟨v, hv, hown⟩, hr3, hgW'⟩ := hI
    have hown2 : W.ownsRow (w.heap.size + 1 + 1 + 1 + 1) 3 1 v (dropAt q pl).length ((dropAt q pl).map (Value.int .i64)) := hown
    obtain ⟨go, qc, rfl, hF⟩ := owns_fresh hown2
    have HF : Hid (FreshI (w.heap.size + 1 + 1 + 1 + 1) W.heap.size W go qc (dropAt q pl)) := hF
    clear hF hown hown2 hpl
    gi_wp2
    have hk1 : KeepsOthers W (W.setCell ⟨w.heap.size + 1 + 1, 0, none⟩ (.slice go (dropAt q pl).length qc)) := KeepsOthers.setCell _ _ _
    have hK' := hk1.same D _ hK rfl
    have hX0 : (W.setCell ⟨w.heap.size + 1 + 1, 0, none⟩ (.slice go (dropAt q pl).length qc)).cell? ⟨w.heap.size + 1 + 1, 0, none⟩ = some (.slice go (dropAt q pl).length qc) := World.cell?_setCell_same' _ _ _ (by rw [hr0]; rfl)
    refine ⟨by simp, .inl ⟨_, _, rfl, run_takeDeferred hK', ?_⟩⟩
    have hc5 := cell_kept hX0 (grownBy_putObj' _ D (.deferred none)) (fun r e => by cases e; exact ⟨_, hK', rfl⟩)
    have hF2 := HF.out.setBelow (a := ⟨w.heap.size + 1 + 1, 0, none⟩) (by simp) (.slice go (dropAt q pl).length qc)
    refine ⟨.agg #[.slice go (dropAt q pl).length qc], ?_, ⟨go, qc, rfl, ?_⟩, (hB.setCell (p := ⟨w.heap.size + 1 + 1, 0, none⟩) (by simp; omega) _).trans (belowK_b (w := W0) (by omega) _ D _ _ hD hK' rfl rfl)⟩
    · simp [results, Try.f20, go_sem, hc5]
    · exact (hF2.kept (grownBy_putObj' _ D (.deferred none)) (fun r e => by cases e; exact ⟨_, hK', rfl⟩)).wide (by omega) (by simp)
  case stop =>
    rintro D c pre W _ _ h _
    exact h.elim
end Go.Proofs.Ytgbnbnjfaffaiaa.Old
