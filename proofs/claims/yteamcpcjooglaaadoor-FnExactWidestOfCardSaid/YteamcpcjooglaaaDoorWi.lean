
/- A queue of ints: its iterator, without one place. No conditions but those written. -/
import Derived.Test.YteamcpcjooglaaaDoorWa
namespace Go.Proofs.YteamcpcjooglaaaDoor
open Go.RowKit Go.Shelf

attribute [local go_sem] Oper.semAt_some

/-- An element's value. -/
def tvI (t : Int) : Value := .int .i64 t
set_option maxRecDepth 100000 in
set_option maxHeartbeats 2000000 in
theorem all1I_in (F : Fence) (n : Nat) (hAll : F.fn 76) (hro : F.round = none) (hn : 1 ≤ n) (l Bs b off len cap : Nat) (ts : List (Int)) (hreach : len ≤ 1048576) (J Jx : List Nat → World → Prop) (W : World) (_ : AbidesFrom W.heap.size J)
    (hY : ∀ (pre : List Nat) (x : Nat) (W : World), J pre W → pre.length < len → YieldAt F (n - 1) Tryd.prog l #[.int .i64 (x : Int), tvI (el ts x)] W fun e W' =>
      (e = .returned (.bool true) ∧ J (pre ++ [x]) W' ∧ SameB b W W') ∨ (e = .returned (.bool false) ∧ Jx (pre ++ [x]) W'))
    (hBs : W.cell? ⟨Bs, 0, none⟩ = some (.slice (some ⟨b, off, none⟩) len cap)) (hc : ∀ j, j < len → W.cell? ⟨b, off + j, none⟩ = some (.int .i64 (el ts j))) (h0 : J [] W) :
    CallsIn F n Tryd.prog 76 #[.func (.yield l) #[] #[], .pointer (some ⟨Bs, 0, none⟩)] W fun e W' => (∃ v, e = .returned v) ∧
      ((∃ ys, ys = List.range len ∧ J ys W') ∨ (∃ pre, (∃ k, k ≤ len ∧ pre = List.range k) ∧ Jx pre W')) := by
  refine callsIn_of_wp Tryd.func76 rfl hAll ?_ hro
  simp only [Tryd.ntmps76, List.size_toArray, List.length_cons, List.length_nil, Nat.reduceAdd, Nat.reduceSub, Array.replicate_succ, Array.replicate_zero, List.push_toArray, List.append_toArray, List.nil_append, List.cons_append]
  gi_wp2
  gi_loopw [8] (fun i wr => ∃ k : Nat, k ≤ len ∧ i = .int .i64 k ∧ J (List.range k) wr ∧ Hid (SameB b W wr))
    (fun i _ => len - (intOf i).toNat)
  case atStart => exact ⟨0, Nat.zero_le _, rfl, h0, rfl⟩
  case round =>
    obtain ⟨k, hk, rfl, hJs, hnx⟩ := hrel
    by_cases hlt : k < len
    · have c1 := hc k hlt
      have d1 := (hnx.out.cell (off + k)).trans c1
      obtain ⟨x1, e1⟩ : ∃ x, x = (el ts k) := ⟨_, rfl⟩
      have hJa := hJs
      obtain ⟨fn, tmps, assign, body, hy, hR⟩ := hY _ k _ hJa (by rw [List.length_range]; exact hlt)
      simp only [tvI, ← e1] at hy
      rw [← e1] at d1
      clear c1 hc e1
      gi_wp2
      refine hR.mono ?_
      rintro e W3 (⟨rfl, hJ3, hk3⟩ | ⟨rfl, hJx3⟩)
      · have hk4 : SameB b wr W3 := hk3
        gi_wp2
        go_roundw
        case rel => exact ⟨k + 1, by omega, by simp, by rw [List.range_succ]; exact hJ3, hnx.out.trans hk4⟩
        case measure => simp [intOf]; omega
      · gi_wp2
        refine bodyPost_ret (results_none rfl _ _ _) rfl ?_
        exact ⟨⟨_, rfl⟩, .inr ⟨_, ⟨k + 1, by omega, List.range_succ.symm⟩, hJx3⟩⟩
    · obtain rfl : k = len := by omega
      gi_wp2
      go_end0
      exact ⟨⟨_, rfl⟩, .inl ⟨_, rfl, hJs⟩⟩
set_option maxRecDepth 100000 in
set_option maxHeartbeats 1000000 in
theorem all1I_nil_in (F : Fence) (n : Nat) (hAll : F.fn 76) (hro : F.round = none) (l Bs : Nat) (ao : Option Addr) (cap : Nat) (J : List Nat → World → Prop) (W : World) (hBs : W.cell? ⟨Bs, 0, none⟩ = some (.slice ao 0 cap)) (h0 : J [] W) :
    CallsIn F n Tryd.prog 76 #[.func (.yield l) #[] #[], .pointer (some ⟨Bs, 0, none⟩)] W fun e W' => (∃ v, e = .returned v) ∧ J [] W' := by
  refine callsIn_of_wp Tryd.func76 rfl hAll ?_ hro
  simp only [Tryd.ntmps76, List.size_toArray, List.length_cons, List.length_nil, Nat.reduceAdd, Nat.reduceSub, Array.replicate_succ, Array.replicate_zero, List.push_toArray, List.append_toArray, List.nil_append, List.cons_append]
  gi_wp2
  gi_loopw [8] (fun i wr => i = .int .i64 0 ∧ J [] wr) (fun _ _ => 0)
  case atStart => exact ⟨rfl, h0⟩
  case round =>
    obtain ⟨rfl, hJs⟩ := hrel
    gi_wp2
    go_end0
    exact ⟨⟨_, rfl⟩, hJs⟩
/-- The queue's iterator hands out (0, ts[0]), (1, ts[1]), ..: all, or the first k of them. -/
theorem allI_stops (F : Fence) (n : Nat) (hAll : F.fn 76) (hro : F.round = none) (hn : 1 ≤ n) (Bs b : Nat) (ao : Option Addr) (cap : Nat) (ts : List (Int)) (hreach : ts.length ≤ 1048576) (w : World) (hBs : Bs < w.heap.size)
    (hc : w.cell? ⟨Bs, 0, none⟩ = some (.slice ao ts.length cap)) (hI : ts = [] ∨ ∃ off, ao = some ⟨b, off, none⟩ ∧ b < w.heap.size ∧ ∀ j, j < ts.length → w.cell? ⟨b, off + j, none⟩ = some (.int .i64 (el ts j))) :
    SeqStopsK F n Tryd.prog 76 #[.pointer (some ⟨Bs, 0, none⟩)] (fun x : Nat => #[Value.int .i64 (x : Int), tvI (el ts x)]) (SameB b) (fun ys => ys = List.range ts.length)
      (fun pre => ∃ k, k ≤ ts.length ∧ pre = List.range k) ts.length w := fun l J Jx W hW hJ _ hY h0 => by
  have hc' := (hW.cell (p := ⟨Bs, 0, none⟩) hBs).trans hc
  rcases hI with rfl | ⟨off, rfl, hb, hcs⟩
  · exact (all1I_nil_in F n hAll hro l Bs ao cap J W hc' h0).mono fun e W' ⟨he, hj⟩ => ⟨he, .inl ⟨_, rfl, hj⟩⟩
  · exact all1I_in F n hAll hro hn l Bs b off ts.length cap ts hreach J Jx W hJ hY hc' (fun j hj => (hW.cell (p := ⟨b, off + j, none⟩) hb).trans (hcs j hj)) h0
set_option maxHeartbeats 1000000 in
theorem allI_any (v : Value) (hv : ∃ a n c, v = .slice a n c) (w : World) :
    Calls Tryd.prog 65 #[.agg #[v]] w fun e w' => e = .returned (.func (.func 76) #[] #[.pointer (some ⟨w.heap.size, 0, none⟩)]) ∧ w' = w.alloc (.cells #[v] 82) := by
  obtain ⟨a, n, c, rfl⟩ := hv
  go_enter Tryd.func65, Tryd.ntmps65
  go_wp2
  go_ret
  exact ⟨rfl, rfl⟩
/-- Between two rounds: the box holds a row of its own with what is kept. -/
def DInvI (B : Nat) (ts : List (Int)) (pl : Int) (g : Nat) (pre : List Nat) (W : World) : Prop :=
  W.cell? ⟨B + 1, 0, none⟩ = some (.int .i64 pl) ∧ (W.cell? ⟨B + 1 + 1, 0, none⟩ = some (.slice none 0 0) ∧ W.frozen? ⟨B + 1 + 1, 0, none⟩ = false) ∧ (∃ v, W.cell? ⟨B + 1 + 1 + 1, 0, none⟩ = some v ∧ kI.Own (B + 1 + 1 + 1 + 1) W v (keepE ts pl pre)) ∧ W.frozen? ⟨B + 1 + 1 + 1, 0, none⟩ = false ∧ g < W.heap.size
theorem DInvI.kept {B : Nat} {ts : List (Int)} {pl : Int} {g : Nat} {pre : List Nat} {W W' : World} {row : Option Nat} (h : DInvI B ts pl g pre W) (hg : W.grownBy W' row) (hr : ∀ r, row = some r → ∃ o : Obj, W.heap[r]? = some o ∧ o.isCells = false) : DInvI B ts pl g pre W' := by
  obtain ⟨h2, ⟨h3, h4⟩, ⟨v, h5, h6⟩, h7, h8⟩ := h
  exact ⟨cell_kept h2 hg hr, ⟨cell_kept h3 hg hr, (frozen_kept h3 hg hr).trans h4⟩, ⟨v, cell_kept h5 hg hr, owns_kept h6 hg hr⟩, (frozen_kept h5 hg hr).trans h7, Nat.lt_of_lt_of_le h8 hg.size⟩
set_option maxRecDepth 100000 in
set_option maxHeartbeats 4000000 in
theorem withoutI_any (ao : Option Addr) (cap : Nat) (ts : List (Int)) (pl : Int) (w : World) (hm : ts.length ≤ 1048576) (hq : kI.In w.heap.size w ao ts) (R : List (Int)) (hR : R = keepE ts pl (List.range ts.length)) :
    Calls Tryd.prog 57 #[.agg #[.slice ao ts.length cap], .int .i64 pl] w fun e w' => (∃ go qc, e = .returned (.agg #[.slice go R.length qc]) ∧ kI.Fresh w.heap.size w'.heap.size w' go qc R) ∧ Below w.heap.size w w' := by
  have HR : Hid (R = keepE ts pl (List.range ts.length)) := hR
  clear hR
  refine (callsIn_wide (n := 4)).1 ?_
  have hro : Fence.wide.round = none := rfl
  refine callsIn_of_wp_marks Tryd.func57 rfl trivial ?_ hro
  simp only [Tryd.ntmps57, List.size_toArray, List.length_cons, List.length_nil, Nat.reduceAdd, Nat.reduceSub, Array.replicate_succ, Array.replicate_zero, List.push_toArray, List.append_toArray, List.nil_append, List.cons_append]
  gi_wp2_with fail
  refine ⟨trivial, ?_⟩
  refine (callsIn_wide.2 (allI_any _ ⟨_, _, _, rfl⟩ _)).mono ?_
  rintro e w2 ⟨rfl, rfl⟩
  gi_wp2_with fail
  obtain ⟨g, hgs, hg⟩ : ∃ g, g ≤ w.heap.size ∧ (ts = [] ∨ ∃ off, ao = some ⟨g, off, none⟩ ∧ g < w.heap.size ∧ ∀ j, j < ts.length → w.cell? ⟨g, off + j, none⟩ = some (.int .i64 (el ts j))) := by
    rcases Nat.eq_zero_or_pos ts.length with h | h
    · exact ⟨0, Nat.zero_le _, .inl (List.length_eq_zero_iff.1 h)⟩
    · obtain ⟨b, off, e, hb, hc⟩ := ints_at hq h
      exact ⟨b, Nat.le_of_lt hb, .inr ⟨off, e, hb, hc⟩⟩
  obtain ⟨W0, hW0⟩ : ∃ W0, W0 = ((((w.alloc (Obj.cells #[Value.slice ao ts.length cap] 82)).alloc (Obj.cells #[Value.int IntKind.i64 pl] 3)).alloc (Obj.cells #[Value.slice none 0 0] 82)).alloc (Obj.cells #[Value.slice none 0 0] 33)).alloc (Obj.cells #[Value.slice ao ts.length cap] 82) := ⟨_, rfl⟩
  rw [← hW0]
  have hBW : Below w.heap.size w W0 := by rw [hW0]; exact (((below3 w _ _ _).alloc (by simp; omega) _).alloc (by simp; omega) _)
  have hsW : W0.heap.size = w.heap.size + 1 + 1 + 1 + 1 + 1 := by rw [hW0]; simp
  have cW : W0.cell? ⟨w.heap.size + 1 + 1 + 1 + 1, 0, none⟩ = some (.slice ao ts.length cap) := by rw [hW0]; simp [go_sem]
  have b0 : W0.cell? ⟨w.heap.size + 1, 0, none⟩ = some (.int .i64 pl) := by rw [hW0]; simp [go_sem]
  have r0 : W0.cell? ⟨w.heap.size + 1 + 1, 0, none⟩ = some (.slice none 0 0) := by rw [hW0]; simp [go_sem]
  have r1 : W0.frozen? ⟨w.heap.size + 1 + 1, 0, none⟩ = false := by rw [hW0]; simp [go_sem]
  have r2 : W0.cell? ⟨w.heap.size + 1 + 1 + 1, 0, none⟩ = some (.slice none 0 0) := by rw [hW0]; simp [go_sem]
  have r3 : W0.frozen? ⟨w.heap.size + 1 + 1 + 1, 0, none⟩ = false := by rw [hW0]; simp [go_sem]
  clear hW0
  have hq0 : ts = [] ∨ ∃ off, ao = some ⟨g, off, none⟩ ∧ g < W0.heap.size ∧ ∀ j, j < ts.length → W0.cell? ⟨g, off + j, none⟩ = some (.int .i64 (el ts j)) := by
    rcases hg with h | ⟨off, h1, h3, h4⟩
    · exact .inl h
    · exact .inr ⟨off, h1, by omega, fun j hj => (hBW.cell (p := ⟨g, off + j, none⟩) h3).trans (h4 j hj)⟩
  have hgW : g < W0.heap.size := by omega
  have hinv0 : DInvI w.heap.size ts pl g [] W0 := ⟨b0, ⟨r0, r1⟩, ⟨.slice none 0 0, r2, Kind.Own.nil _ _ _⟩, r3, hgW⟩
  clear b0 r0 r1 r2 r3 hg
  obtain ⟨i0, hi, hz0, hz1, hz2⟩ := info_parts Tryd.info3
  refine wpIn_rangeFunc_ownG hro (by omega) (gf := 76) (lb := #[.pointer (some ⟨w.heap.size + 1 + 1 + 1 + 1, 0, none⟩)]) rfl trivial (enters_of Tryd.func76 (by kernel_rfl) rfl)
    (allI_stops Fence.wide (4 - 1) trivial hro (by omega) (w.heap.size + 1 + 1 + 1 + 1) g ao cap ts (by omega) W0 (by omega) cW hq0) SameB.trans (sameB_put hgW) (Below.refl _ _) (fun _ => rfl)
    (fun pre W => (pre.length ≤ ts.length ∧ DInvI w.heap.size ts pl g pre W) ∧ Below w.heap.size w W)
    (fun _ _ _ => False)
    (OwnFrom.and (Own.from (fun s A B row hs hg hr => ⟨hs.1, hs.2.kept hg hr⟩) _) (ownFrom_below (Nat.le_refl _) (by omega)))
    (fun _ _ _ _ _ hs _ _ => hs)
    ⟨⟨by simp, hinv0⟩, hBW⟩
    (fun x => { tmps := #[Value.agg #[Value.slice ao ts.length cap], Value.int .i64 pl, Value.pointer (some ⟨w.heap.size, 0, none⟩), Value.pointer (some ⟨w.heap.size + 1, 0, none⟩), Value.pointer (some ⟨w.heap.size + 1 + 1, 0, none⟩), Value.pointer (some ⟨w.heap.size + 1 + 1 + 1, 0, none⟩), Value.int .i64 (x : Int), Value.int .i64 (el ts x), Value.agg #[Value.slice ao ts.length cap], Value.func (Fn.func 76) #[] #[Value.pointer (some ⟨w.heap.size + 1 + 1 + 1 + 1, 0, none⟩)], Value.int .i64 (x : Int), Value.int .i64 (el ts x), undef, undef, undef, undef, undef, undef, undef, undef, undef], defers := [] }) ?assign ?body ?done ?stop
  case assign =>
    intro l x W K hK
    simp only [tvI]
    gi_wp2
    exact hK
  case body =>
    rintro l pre x W ⟨⟨hpl, hI⟩, hB⟩ hlen
    have HL : Hid ((pre ++ [x]).length ≤ ts.length) := by simp [Hid]; omega
    have hkl := keepE_len ts pl pre
    have hK1 := keepE_snoc ts pl pre x
    obtain ⟨hb0, ⟨hr0, hr1⟩, ⟨v, hv, hown⟩, hr3, hgW'⟩ := hI
    obtain ⟨go, qc, rfl, _⟩ := hown.fresh
    have hBs := hB.size
    have hsB : w.heap.size + 1 + 1 + 1 < W.heap.size := World.block_lt_of_cell? _ _ hv
    obtain ⟨x1, ex⟩ : ∃ v, v = el ts x := ⟨_, rfl⟩
    rw [← ex] at hK1 ⊢
    clear ex
    have HO : Hid (kI.Own (w.heap.size + 1 + 1 + 1 + 1) W (.slice go (keepE ts pl pre).length qc) (keepE ts pl pre)) := hown
    have HK1 : Hid (keepE ts pl (pre ++ [x]) = if (x : Int) = pl then keepE ts pl pre else keepE ts pl pre ++ [x1]) := hK1
    clear hown hK1
    generalize hF : keepE ts pl pre = F at *
    by_cases hx : (x : Int) = pl
    · have hx' : ((x : Int) != pl) = false := by simpa using hx
      have HE : Hid (keepE ts pl (pre ++ [x]) = F) := by rw [Hid, HK1.out, if_pos hx]
      clear hx hF
      gi_wp2
      exact ⟨KeepsFrom.refl _ _, rfl, ⟨HL.out, hb0, ⟨hr0, hr1⟩, ⟨_, hv, by rw [HE.out]; exact HO.out⟩, hr3, hgW'⟩, hB⟩
    · have hx' : ((x : Int) != pl) = true := by simpa using hx
      have HE : Hid (keepE ts pl (pre ++ [x]) = F ++ [x1]) := by rw [Hid, HK1.out, if_neg hx]
      have HX : Hid (w.heap.size + 1 + 1 + 1 + 1 ≤ (W.alloc (.cells #[.int .i64 x1] 3)).heap.size ∧ (∀ j u, ([.int .i64 x1] : List Value)[j]? = some u → (W.alloc (.cells #[.int .i64 x1] 3)).cell? ((⟨W.heap.size, 0, none⟩ : Addr).add j) = some u) ∧ ∀ u ∈ ([.int .i64 x1] : List Value), u.oneCell' = true) := by
        refine ⟨by simp; omega, fun j u h => ?_, fun u hu => by simp at hu; rcases hu with rfl <;> rfl⟩
        match j, h with
        | 0, h => simp at h; subst h; simp [Addr.add]
      clear hx hF
      gi_wp2_with (gi_at_builtin; refine wpListIn_append_own (W.alloc (.cells #[.int .i64 x1] 3)) rfl (.tmp 15) (.tmp 17) 33 rfl (w.heap.size + 1 + 1 + 1 + 1) 3 i0 (.int .i64 0) 1 8 Tryd.underlying33 hi hz0 hz1 hz2 rfl (by decide) (.slice go F.length qc) F.length (kI.flat F) rfl (HO.out.below (below1 _ _)) ⟨W.heap.size, 0, none⟩ 1 1 [.int .i64 x1] rfl rfl HX.out.2.1 HX.out.2.2 (by unfold maxLen; omega) (by omega) HX.out.1 ?_; intro v' w1 hown' hgrow _; have hob1 := Kind.Own.low (xs := F) (HO.out.below (below1 W (.cells #[.int .i64 x1] 3))); have hob2 := own_cells (HO.out.below (below1 W (.cells #[.int .i64 x1] 3))); have hlow : ∀ k, k < w.heap.size + 1 + 1 + 1 + 1 → w1.heap[k]? = W.heap[k]? := (fun k hk => (hgrow.block k (by simp; omega) (fun e => by have := hob1 k e.symm; omega)).trans (Below.heap_alloc _ _ k (by omega))); have l0 : w1.cell? ⟨w.heap.size + 1 + 1 + 1, 0, none⟩ = some (.slice go F.length qc) := (World.cell?_of_block (a := ⟨w.heap.size + 1 + 1 + 1, 0, none⟩) (hlow _ (by simp))).trans hv; have l1 : w1.frozen? ⟨w.heap.size + 1 + 1 + 1, 0, none⟩ = false := (World.frozen?_of_block (a := ⟨w.heap.size + 1 + 1 + 1, 0, none⟩) (hlow _ (by simp))).trans hr3; have HH : Hid (kI.Own (w.heap.size + 1 + 1 + 1 + 1) w1 v' (F ++ [x1]) ∧ KeepsOthers W w1 ∧ (∀ k, k < w.heap.size + 1 + 1 + 1 + 1 → w1.heap[k]? = W.heap[k]?) ∧ W.heap.size ≤ w1.heap.size ∧ w1.os = W.os ∧ w1.tape = W.tape ∧ w1.output = W.output) := ⟨(by unfold Kind.Own; rw [Kind.flat_app, List.length_append]; exact hown'), (KeepsOthers.alloc _ _).trans (KeepsOthers.of_grownBy hgrow hob2), hlow, (by have := hgrow.size; simp at this; omega), hgrow.os, hgrow.tape, hgrow.output⟩; obtain ⟨go', qc', rfl, _⟩ := HH.out.1.fresh; clear hown' hgrow hob1 hob2 hlow)
      obtain ⟨ho, hk, hlow, hsz, c1, c2, c3⟩ := HH.out
      have hB1 : Below w.heap.size w w1 := hB.trans ⟨c1, c2, c3, hsz, fun k hk => hlow k (by omega)⟩
      refine ⟨(hk.trans (KeepsOthers.setCell _ _ _)).from _, SameB.trans (hlow g (by omega)) (sameB_set (by simp; omega)), ⟨HL.out, ?_, ⟨?_, ?_⟩, ⟨_, World.cell?_setCell_same' _ _ _ (by rw [l0]; rfl), ?_⟩, by rw [World.frozen?_setCell]; exact l1, by simp; omega⟩, hB1.setCell (p := ⟨w.heap.size + 1 + 1 + 1, 0, none⟩) (by simp; omega) _⟩
      · rw [World.cell?_setCell_other _ _ _ _ (by simp)]; exact (World.cell?_of_block (a := ⟨w.heap.size + 1, 0, none⟩) (hlow (w.heap.size + 1) (by omega))).trans hb0
      · rw [World.cell?_setCell_other _ _ _ _ (by simp)]; exact (World.cell?_of_block (a := ⟨w.heap.size + 1 + 1, 0, none⟩) (hlow (w.heap.size + 1 + 1) (by omega))).trans hr0
      · rw [World.frozen?_setCell]; exact (World.frozen?_of_block (a := ⟨w.heap.size + 1 + 1, 0, none⟩) (hlow (w.heap.size + 1 + 1) (by omega))).trans hr1
      · rw [HE.out]
        have h := ho.setBelow (a := ⟨w.heap.size + 1 + 1 + 1, 0, none⟩) (by simp) (.slice go' (F ++ [x1]).length qc')
        simpa using h
  case done =>
    rintro D ys W hD rfl ⟨⟨hpl, hI⟩, hB⟩ hK
    obtain ⟨hb0, ⟨hr0, hr1⟩, ⟨v, hv, hown⟩, hr3, hgW'⟩ := hI
    rw [← HR.out] at hown
    obtain ⟨go, qc, rfl, _, hF⟩ := hown.fresh
    have HF : Hid (kI.Fresh (w.heap.size + 1 + 1 + 1 + 1) W.heap.size W go qc R) := hF
    clear hF hown hpl
    gi_wp2
    have hk1 : KeepsOthers W (W.setCell ⟨w.heap.size + 1 + 1, 0, none⟩ (.slice go R.length qc)) := KeepsOthers.setCell _ _ _
    have hK' := hk1.same D _ hK rfl
    have hX0 : (W.setCell ⟨w.heap.size + 1 + 1, 0, none⟩ (.slice go R.length qc)).cell? ⟨w.heap.size + 1 + 1, 0, none⟩ = some (.slice go R.length qc) := World.cell?_setCell_same' _ _ _ (by rw [hr0]; rfl)
    refine ⟨by simp, .inl ⟨_, _, rfl, run_takeDeferred hK', ?_⟩⟩
    have hc5 := cell_kept hX0 (grownBy_putObj' _ D (.deferred none)) (fun r e => by cases e; exact ⟨_, hK', rfl⟩)
    have hF2 := HF.out.setBelow (a := ⟨w.heap.size + 1 + 1, 0, none⟩) (by simp) (.slice go R.length qc)
    refine ⟨.agg #[.slice go R.length qc], ?_, ⟨go, qc, rfl, ?_⟩, (hB.setCell (p := ⟨w.heap.size + 1 + 1, 0, none⟩) (by simp; omega) _).trans (belowK_b (w := W0) (by omega) _ D _ _ hD hK' rfl rfl)⟩
    · simp [results, Tryd.f57, go_sem, hc5]
    · exact (hF2.kept (grownBy_putObj' _ D (.deferred none)) (fun r e => by cases e; exact ⟨_, hK', rfl⟩)).wide (by omega) (by simp)
  case stop =>
    rintro D c pre W _ _ h _
    exact h.elim
end Go.Proofs.YteamcpcjooglaaaDoor
