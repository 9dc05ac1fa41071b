/- Where a number stands in the queue: the program's look, by its iterator. No conditions but those written. -/
import Derived.Test.YtemmjkmaiedadaaWh
namespace Go.Proofs.Ytemmjkmaiedadaa
open Go.RowKit Go.Shelf

attribute [local go_sem] Oper.semAt_some

/-- The first place of id in q, and whether there is one. -/
def placeV (q : List Int) (id : Int) : Value := match q.findIdx? (fun x => x == id) with | some p => .tuple #[.int .i64 (p : Int), .bool true] | none => .tuple #[.int .i64 0, .bool false]
theorem place_some (q : List Int) (id : Int) (k : Nat) (hk : k < q.length) (h : q[k]?.getD 0 = id) (hno : ∀ j, j < k → q[j]?.getD 0 ≠ id) : q.findIdx? (fun x => x == id) = some k := by
  rw [List.findIdx?_eq_some_iff_getElem]
  refine ⟨hk, by simpa [hk] using h, fun j hj => ?_⟩
  have := hno j hj
  have hj' : j < q.length := by omega
  simpa [hj'] using this
theorem place_none (q : List Int) (id : Int) (hno : ∀ j, j < q.length → q[j]?.getD 0 ≠ id) : q.findIdx? (fun x => x == id) = none := by
  rw [List.findIdx?_eq_none_iff]
  intro x hx
  obtain ⟨j, hj, rfl⟩ := List.mem_iff_getElem.1 hx
  have := hno j hj
  simpa [hj] using this

/-- Between two rounds: none that came is id. -/
def PInv (B : Nat) (id : Int) (g : Nat) (pre : List (Nat × Int)) (W : World) : Prop :=
  (∀ p, p ∈ pre → p.2 ≠ id) ∧ W.cell? ⟨B + 1, 0, none⟩ = some (.int .i64 id) ∧ (W.cell? ⟨B + 1 + 1, 0, none⟩ = some (.int .i64 0) ∧ W.frozen? ⟨B + 1 + 1, 0, none⟩ = false) ∧ (W.cell? ⟨B + 1 + 1 + 1, 0, none⟩ = some (.bool false) ∧ W.frozen? ⟨B + 1 + 1 + 1, 0, none⟩ = false) ∧ g < W.heap.size
theorem PInv.kept {B : Nat} {id : Int} {g : Nat} {pre : List (Nat × Int)} {W W' : World} {row : Option Nat} (h : PInv B id g pre W) (hg : W.grownBy W' row) (hr : ∀ r, row = some r → ∃ o : Obj, W.heap[r]? = some o ∧ o.isCells = false) : PInv B id g pre W' := by
  obtain ⟨h1, h2, ⟨h3, h4⟩, ⟨h5, h6⟩, h7⟩ := h
  exact ⟨h1, cell_kept h2 hg hr, ⟨cell_kept h3 hg hr, (frozen_kept h3 hg hr).trans h4⟩, ⟨cell_kept h5 hg hr, (frozen_kept h5 hg hr).trans h6⟩, Nat.lt_of_lt_of_le h7 hg.size⟩
/-- A round has left: the last that came is id. -/
def PHit (B : Nat) (id : Int) (pre : List (Nat × Int)) (W : World) : Prop :=
  ∃ ini last, pre = ini ++ [last] ∧ (∀ p, p ∈ ini → p.2 ≠ id) ∧ last.2 = id ∧ W.cell? ⟨B + 1 + 1, 0, none⟩ = some (.int .i64 (last.1 : Int)) ∧ W.cell? ⟨B + 1 + 1 + 1, 0, none⟩ = some (.bool true)

set_option maxRecDepth 100000 in
set_option maxHeartbeats 4000000 in
theorem placeInQueue_any (ao : Option Addr) (n cap : Nat) (qo : Option Addr) (qcap : Nat) (q : List Int) (id : Int) (w : World) (hm : q.length ≤ 1048576) (hq : IntsIn w.heap.size w qo q) :
    Calls Try.prog 67 #[.agg #[.slice ao n cap, .slice qo q.length qcap], .int .i64 id] w fun e w' => e = .returned (placeV q id) ∧ Below w.heap.size w w' := by
  refine (callsIn_wide (n := 4)).1 ?_
  have hro : Fence.wide.round = none := rfl
  refine callsIn_of_wp_marks Try.func67 rfl trivial ?_ hro
  simp only [Try.ntmps67, List.size_toArray, List.length_cons, List.length_nil, Nat.reduceAdd, Nat.reduceSub, Array.replicate_succ, Array.replicate_zero, List.push_toArray, List.append_toArray, List.nil_append, List.cons_append]
  gi_wp2_with fail
  refine ⟨trivial, ?_⟩
  refine (callsIn_wide.2 (queueOfI_any qo qcap q _ hm (hq.later ((below3 _ _ _ _).alloc (by simp; omega) _)))).mono ?_
  rintro e w1 ⟨⟨go, rfl, hO⟩, hb1⟩
  have hB1 : Below w.heap.size w w1 := ((below3 w _ _ _).alloc (by simp; omega) _).trans (hb1.mono (by simp; omega))
  have hs1 := hb1.size
  simp only [World.size_alloc] at hs1 hO
  have b0 : w1.cell? ⟨w.heap.size + 1, 0, none⟩ = some (.int .i64 id) := (hb1.cell (p := ⟨w.heap.size + 1, 0, none⟩) (by simp <;> omega)).trans (by simp [go_sem])
  have r0 : w1.cell? ⟨w.heap.size + 1 + 1, 0, none⟩ = some (.int .i64 0) := (hb1.cell (p := ⟨w.heap.size + 1 + 1, 0, none⟩) (by simp)).trans (by simp [go_sem])
  have r1 : w1.frozen? ⟨w.heap.size + 1 + 1, 0, none⟩ = false := (hb1.frozen (p := ⟨w.heap.size + 1 + 1, 0, none⟩) (by simp)).trans (by simp [go_sem])
  have r2 : w1.cell? ⟨w.heap.size + 1 + 1 + 1, 0, none⟩ = some (.bool false) := (hb1.cell (p := ⟨w.heap.size + 1 + 1 + 1, 0, none⟩) (by simp)).trans (by simp [go_sem])
  have r3 : w1.frozen? ⟨w.heap.size + 1 + 1 + 1, 0, none⟩ = false := (hb1.frozen (p := ⟨w.heap.size + 1 + 1 + 1, 0, none⟩) (by simp)).trans (by simp [go_sem])
  clear hb1
  gi_wp2_with fail
  refine ⟨trivial, ?_⟩
  refine (callsIn_wide.2 (all_any _ ⟨_, _, _, rfl⟩ _)).mono ?_
  rintro e w2 ⟨rfl, rfl⟩
  gi_wp2_with fail
  obtain ⟨g, hgs, hg⟩ := hO.at
  obtain ⟨W0, hW0⟩ : ∃ W0, W0 = w1.alloc (Obj.cells #[Value.slice go q.length q.length] 67) := ⟨_, rfl⟩
  rw [← hW0]
  have hbW : Below w1.heap.size w1 W0 := by rw [hW0]; exact below1 _ _
  have hsW : W0.heap.size = w1.heap.size + 1 := by rw [hW0]; simp
  have cW : W0.cell? ⟨w1.heap.size, 0, none⟩ = some (.slice go q.length q.length) := by rw [hW0]; simp
  clear hW0
  have hBW : Below w.heap.size w W0 := hB1.trans (hbW.mono (by omega))
  have hgl : q = [] ∨ w.heap.size + 1 + 1 + 1 < g := by
    rcases hg with h | ⟨_, h1, h2, _⟩
    · exact .inl h
    · exact .inr (by omega)
  have hq0 : q = [] ∨ ∃ off, go = some ⟨g, off, none⟩ ∧ g < W0.heap.size ∧ ∀ j, j < q.length → W0.cell? ⟨g, off + j, none⟩ = some (.int .i64 (q[j]?.getD 0)) := by
    rcases hg with h | ⟨h1, h2, h3, h4⟩
    · exact .inl h
    · exact .inr ⟨0, h1, by omega, fun j hj => (hbW.cell (p := ⟨g, 0 + j, none⟩) h3).trans (h4 j hj)⟩
  have hgW : g < W0.heap.size := by omega
  have hinv0 : PInv w.heap.size id g [] W0 :=
    ⟨by simp, (hbW.cell (p := ⟨w.heap.size + 1, 0, none⟩) (by simp; omega)).trans b0, ⟨(hbW.cell (p := ⟨w.heap.size + 1 + 1, 0, none⟩) (by simp; omega)).trans r0, (hbW.frozen (p := ⟨w.heap.size + 1 + 1, 0, none⟩) (by simp; omega)).trans r1⟩, ⟨(hbW.cell (p := ⟨w.heap.size + 1 + 1 + 1, 0, none⟩) (by simp; omega)).trans r2, (hbW.frozen (p := ⟨w.heap.size + 1 + 1 + 1, 0, none⟩) (by simp; omega)).trans r3⟩, hgW⟩
  clear b0 r0 r1 r2 r3 hO hg
  refine wpIn_rangeFunc_ownG hro (by omega) (gf := 74) (lb := #[.pointer (some ⟨w1.heap.size, 0, none⟩)]) rfl trivial (enters_of Try.func74 (by kernel_rfl) rfl)
    (all_stops Fence.wide (4 - 1) trivial hro (by omega) w1.heap.size g go q.length q (by omega) W0 (by omega) cW hq0) SameB.trans (sameB_put hgW) (Below.refl _ _) (fun _ => rfl)
    (fun pre W => PInv w.heap.size id g pre W ∧ Below w.heap.size w W)
    (fun c pre W => (c = .ret ∧ PHit w.heap.size id pre W) ∧ Below w.heap.size w W)
    (OwnFrom.and (Own.from (fun s A B row hs hg hr => hs.kept hg hr) _) (ownFrom_below (Nat.le_refl _) (by omega)))
    (fun c => OwnFrom.and (Own.from (fun s A B row hs hg hr => ⟨hs.1, by obtain ⟨ini, last, e1, e2, e3, e4, e5⟩ := hs.2; exact ⟨ini, last, e1, e2, e3, cell_kept e4 hg hr, cell_kept e5 hg hr⟩⟩) _) (ownFrom_below (Nat.le_refl _) (by omega)))
    ⟨hinv0, hBW⟩
    (fun x => { tmps := #[Value.agg #[Value.slice ao n cap, Value.slice qo q.length qcap], Value.int .i64 id, Value.pointer (some ⟨w.heap.size, 0, none⟩), Value.pointer (some ⟨w.heap.size + 1, 0, none⟩), Value.pointer (some ⟨w.heap.size + 1 + 1, 0, none⟩), Value.pointer (some ⟨w.heap.size + 1 + 1 + 1, 0, none⟩), Value.int .i64 (x.1 : Int), Value.int .i64 x.2, Value.pointer (some ⟨w.heap.size, 1, none⟩), Value.slice qo q.length qcap, Value.agg #[Value.slice go q.length q.length], Value.func (Fn.func 74) #[] #[Value.pointer (some ⟨w1.heap.size, 0, none⟩)], Value.int .i64 (x.1 : Int), Value.int .i64 x.2, undef, undef, undef, undef], defers := [] }) ?assign ?body ?done ?stop
  case assign =>
    intro l x W K hK
    gi_wp2
    exact hK
  case body =>
    rintro l pre ⟨x1, x2⟩ W ⟨hI, hB⟩ hlen
    have hI' : Hid (PInv w.heap.size id g pre W) := hI
    obtain ⟨hp, hb0, ⟨hr0, hr1⟩, ⟨hr2, hr3⟩, hgW'⟩ := hI
    have HP : Hid (∀ p, p ∈ pre → p.2 ≠ id) := hp
    clear hp
    by_cases hx : x2 = id
    · have hx' : (x2 == id) = true := by simpa using hx
      have HX : Hid (x2 = id) := hx
      clear hx
      gi_wp2
      refine ⟨((KeepsOthers.setCell _ _ _).trans (KeepsOthers.setCell _ _ _)).from _, ⟨rfl, pre, (x1, x2), rfl, HP.out, HX.out, ?_, ?_⟩, (hB.setCell (p := ⟨w.heap.size + 1 + 1, 0, none⟩) (by simp; omega) _).setCell (p := ⟨w.heap.size + 1 + 1 + 1, 0, none⟩) (by simp; omega) _⟩
      · rw [World.cell?_setCell_other _ _ _ _ (by simp)]; exact World.cell?_setCell_same' _ _ _ (by rw [hr0]; rfl)
      · exact World.cell?_setCell_same' _ _ _ (by rw [World.cell?_setCell_other _ _ _ _ (by simp), hr2]; rfl)
    · have hx' : (x2 == id) = false := by simpa using hx
      have HX : Hid (x2 ≠ id) := hx
      clear hx
      gi_wp2
      exact ⟨KeepsFrom.refl _ _, rfl, ⟨fun p hp' => (List.mem_append.1 hp').elim (HP.out p) (fun e => by simp at e; subst e; exact HX.out), hb0, ⟨hr0, hr1⟩, ⟨hr2, hr3⟩, hgW'⟩, hB⟩
  case done =>
    rintro D ys W hD rfl ⟨hI, hB⟩ hK
    obtain ⟨hp, hb0, ⟨hr0, hr1⟩, ⟨hr2, hr3⟩, hgW'⟩ := hI
    have HV : Hid (placeV q id = .tuple #[.int .i64 0, .bool false]) := by
      rw [Hid, placeV, place_none q id (fun j hj => hp (j, q[j]?.getD 0) (by simp only [upto, List.mem_map, List.mem_range]; exact ⟨j, hj, rfl⟩))]
    clear hp
    gi_wp2
    have hk1 : KeepsOthers W ((W.setCell ⟨w.heap.size + 1 + 1, 0, none⟩ (.int .i64 0)).setCell ⟨w.heap.size + 1 + 1 + 1, 0, none⟩ (.bool false)) := (KeepsOthers.setCell _ _ _).trans (KeepsOthers.setCell _ _ _)
    have hK' := hk1.same D _ hK rfl
    have hX0 : ((W.setCell ⟨w.heap.size + 1 + 1, 0, none⟩ (.int .i64 0)).setCell ⟨w.heap.size + 1 + 1 + 1, 0, none⟩ (.bool false)).cell? ⟨w.heap.size + 1 + 1, 0, none⟩ = some (.int .i64 0) := by rw [World.cell?_setCell_other _ _ _ _ (by simp)]; exact World.cell?_setCell_same' _ _ _ (by rw [hr0]; rfl)
    have hX1 : ((W.setCell ⟨w.heap.size + 1 + 1, 0, none⟩ (.int .i64 0)).setCell ⟨w.heap.size + 1 + 1 + 1, 0, none⟩ (.bool false)).cell? ⟨w.heap.size + 1 + 1 + 1, 0, none⟩ = some (.bool false) := World.cell?_setCell_same' _ _ _ (by rw [World.cell?_setCell_other _ _ _ _ (by simp), hr2]; rfl)
    refine ⟨by simp, .inl ⟨_, _, rfl, run_takeDeferred hK', ?_⟩⟩
    have hc5 := cell_kept hX0 (grownBy_putObj' _ D (.deferred none)) (fun r e => by cases e; exact ⟨_, hK', rfl⟩)
    have hc6 := cell_kept hX1 (grownBy_putObj' _ D (.deferred none)) (fun r e => by cases e; exact ⟨_, hK', rfl⟩)
    rw [HV.out]
    refine ⟨.tuple #[.int .i64 0, .bool false], ?_, rfl, ((hB.setCell (p := ⟨w.heap.size + 1 + 1, 0, none⟩) (by simp; omega) _).setCell (p := ⟨w.heap.size + 1 + 1 + 1, 0, none⟩) (by simp; omega) _).trans (belowK_b (w := W0) (by omega) _ D _ _ hD hK' rfl rfl)⟩
    simp [results, Try.f67, go_sem, hc5, hc6]
  case stop =>
    rintro D c pre W hD ⟨k, hk, rfl⟩ ⟨⟨rfl, ini, last, e1, e2, e3, hc0, hc1⟩, hB⟩ hK
    obtain ⟨k', rfl⟩ : ∃ k', k = k' + 1 := by
      cases k with
      | zero => simp [upto] at e1
      | succ k' => exact ⟨k', rfl⟩
    rw [upto_succ] at e1
    obtain ⟨rfl, e5⟩ := List.append_inj' e1 rfl
    obtain rfl : (k', q[k']?.getD 0) = last := by simpa using e5
    have HV : Hid (placeV q id = .tuple #[.int .i64 (k' : Int), .bool true]) := by
      rw [Hid, placeV, place_some q id k' (by omega) e3 (fun j hj => e2 (j, q[j]?.getD 0) (by simp only [upto, List.mem_map, List.mem_range]; exact ⟨j, hj, rfl⟩))]
    clear e1 e2 e3 e5
    gi_wp2
    refine ⟨by simp, .inl ⟨_, _, rfl, run_takeDeferred hK, ?_⟩⟩
    have hc5 := cell_kept hc0 (grownBy_putObj' _ D (.deferred none)) (fun r e => by cases e; exact ⟨_, hK, rfl⟩)
    have hc6 := cell_kept hc1 (grownBy_putObj' _ D (.deferred none)) (fun r e => by cases e; exact ⟨_, hK, rfl⟩)
    rw [HV.out]
    refine ⟨.tuple #[.int .i64 (k' : Int), .bool true], ?_, rfl, hB.trans (belowK_b (w := W0) (by omega) W D _ _ hD hK rfl rfl)⟩
    simp [results, Try.f67, go_sem, hc5, hc6]
end Go.Proofs.Ytemmjkmaiedadaa
