
/- The contract of impl.goodQueue. No conditions but those written. -/
import Derived.Test.YtgbnbnjfaffaiaaOWg
import Derived.Test.YtgbnbnjfaffaiaaOPb
namespace Go.Proofs.Ytgbnbnjfaffaiaa.Old
open Go.RowKit Go.Shelf

attribute [local go_sem] Oper.semAt_some


theorem seen0 (i : Nat) (hi : i < 30) : (#[.bool false, .bool false, .bool false, .bool false, .bool false, .bool false, .bool false, .bool false, .bool false, .bool false, .bool false, .bool false, .bool false, .bool false, .bool false, .bool false, .bool false, .bool false, .bool false, .bool false, .bool false, .bool false, .bool false, .bool false, .bool false, .bool false, .bool false, .bool false, .bool false, .bool false] : Array Value)[i]? = some (.bool false) := by
  show (Array.replicate 30 (Value.bool false))[i]? = some (.bool false)
  simp [hi]

theorem keeps_of_below {W W' : World} (h : Below W.heap.size W W') : KeepsOthers W W' := ⟨h.size, fun k _ hk _ => (h.block k (Array.getElem?_eq_some_iff.1 hk).1).trans hk⟩
theorem sameB_below {g : Nat} {W W' : World} (h : Below W.heap.size W W') (hg : g < W.heap.size) : SameB g W W' := h.block g hg
theorem sameB_set {g : Nat} {W : World} {a : Addr} {u : Value} (h : g ≠ a.block) : SameB g W (W.setCell a u) := Below.heap_setCell W a u g h

/-- Between two rounds: what has come is in bounds and no two are alike, and just these are marked. -/
def QInv (B : Nat) (bv0 bv1 : Value) (n g : Nat) (pre : List (Nat × Int)) (W : World) : Prop :=
  ((∀ p, p ∈ pre → 0 ≤ p.2 ∧ p.2 < n) ∧ (pre.map Prod.snd).Nodup) ∧ W.cell? ⟨B, 0, none⟩ = some bv0 ∧ W.cell? ⟨B, 1, none⟩ = some bv1 ∧ (W.cell? ⟨B + 1, 0, none⟩ = some (.bool false) ∧ W.frozen? ⟨B + 1, 0, none⟩ = false) ∧
  (∀ i, i < 30 → W.cell? ⟨B + 1 + 1, i, none⟩ = some (.bool (decide ((i : Int) ∈ pre.map Prod.snd))) ∧ W.frozen? ⟨B + 1 + 1, i, none⟩ = false) ∧ g < W.heap.size ∧ B + 1 + 1 < W.heap.size
theorem QInv.kept {B : Nat} {bv0 bv1 : Value} {n g : Nat} {pre : List (Nat × Int)} {W W' : World} {row : Option Nat} (h : QInv B bv0 bv1 n g pre W) (hg : W.grownBy W' row) (hr : ∀ r, row = some r → ∃ o : Obj, W.heap[r]? = some o ∧ o.isCells = false) : QInv B bv0 bv1 n g pre W' := by
  obtain ⟨h1, h2, h3, ⟨h4, h5⟩, h6, h7, h8⟩ := h
  exact ⟨h1, cell_kept h2 hg hr, cell_kept h3 hg hr, ⟨cell_kept h4 hg hr, (frozen_kept h4 hg hr).trans h5⟩, fun i hi => ⟨cell_kept (h6 i hi).1 hg hr, (frozen_kept (h6 i hi).1 hg hr).trans (h6 i hi).2⟩, Nat.lt_of_lt_of_le h7 hg.size, Nat.lt_of_lt_of_le h8 hg.size⟩
theorem QInv.below {B : Nat} {bv0 bv1 : Value} {n g : Nat} {pre : List (Nat × Int)} {W W' : World} (h : QInv B bv0 bv1 n g pre W) (hb : Below W.heap.size W W') : QInv B bv0 bv1 n g pre W' := by
  obtain ⟨h1, h2, h3, ⟨h4, h5⟩, h6, h7, h8⟩ := h
  exact ⟨h1, (hb.cell (p := ⟨B, 0, none⟩) (by simp; omega)).trans h2, (hb.cell (p := ⟨B, 1, none⟩) (by simp; omega)).trans h3, ⟨(hb.cell (p := ⟨B + 1, 0, none⟩) (by simp; omega)).trans h4, (hb.frozen (p := ⟨B + 1, 0, none⟩) (by simp; omega)).trans h5⟩,
    fun i hi => ⟨(hb.cell (p := ⟨B + 1 + 1, i, none⟩) h8).trans (h6 i hi).1, (hb.frozen (p := ⟨B + 1 + 1, i, none⟩) h8).trans (h6 i hi).2⟩, Nat.lt_of_lt_of_le h7 hb.size, Nat.lt_of_lt_of_le h8 hb.size⟩
theorem QInv.mark {B : Nat} {bv0 bv1 : Value} {n g : Nat} {pre : List (Nat × Int)} {W : World} (h : QInv B bv0 bv1 n g pre W) (x : Nat × Int) (i : Nat) (hx : x.2 = i) (hn : i < n) (hi : i < 30) (hx2 : x.2 ∉ pre.map Prod.snd) :
    QInv B bv0 bv1 n g (pre ++ [x]) (W.setCell ⟨B + 1 + 1, i, none⟩ (.bool true)) := by
  obtain ⟨⟨h0, h1⟩, h2, h3, ⟨h4, h5⟩, h6, h7, h8⟩ := h
  refine ⟨⟨?_, ?_⟩, ?_, ?_, ⟨?_, ?_⟩, ?_, by simpa using h7, by simpa using h8⟩
  · intro p hp
    rcases List.mem_append.1 hp with hp | hp
    · exact h0 p hp
    · simp at hp; subst hp; omega
  · rw [List.map_append]
    exact List.nodup_append.2 ⟨h1, by simp, fun a ha b hb => by simp at hb; subst hb; intro e; subst e; exact hx2 ha⟩
  · rw [World.cell?_setCell_other _ _ _ _ (by simp)]; exact h2
  · rw [World.cell?_setCell_other _ _ _ _ (by simp)]; exact h3
  · rw [World.cell?_setCell_other _ _ _ _ (by simp)]; exact h4
  · rw [World.frozen?_setCell]; exact h5
  · intro j hj
    refine ⟨?_, by rw [World.frozen?_setCell]; exact (h6 j hj).2⟩
    by_cases e : j = i
    · subst e
      rw [World.cell?_setCell_same' _ _ _ (by rw [(h6 j hj).1]; rfl)]
      simp [hx]
    · rw [World.cell?_setCell_other _ _ _ _ (by simp), (h6 j hj).1]
      have : ((j : Int) ∈ (pre ++ [x]).map Prod.snd) ↔ ((j : Int) ∈ pre.map Prod.snd) := by
        rw [List.map_append, List.mem_append]
        constructor
        · rintro (h | h)
          · exact h
          · simp at h; omega
        · exact Or.inl
      simp only [this]

theorem upto_snd (q : List Int) (k : Nat) (hk : k ≤ q.length) : (upto (fun j => (j, q[j]?.getD 0)) k).map Prod.snd = q.take k := by
  apply List.ext_getElem
  · simp [upto, hk]
  · intro i h1 h2
    have : i < q.length := by simp [upto] at h1; omega
    simp [upto, this]

theorem row_bad {q : List Int} {k : Nat} {s : Int} {m : Bool} (hm : m = decide ((k : Int) ∈ q)) (h : (!(m == (s == 1))) = true) : ¬ ((k : Int) ∈ q ↔ s = 1) := by
  intro e
  subst hm
  by_cases h1 : s = 1
  · have := e.2 h1; subst h1; simp [this] at h
  · have : ¬ ((k : Int) ∈ q) := fun x => h1 (e.1 x)
    have h2 : (s == 1) = false := by simpa using h1
    simp [this, h2] at h
theorem row_ok {q : List Int} {k : Nat} {s : Int} {m : Bool} (hm : m = decide ((k : Int) ∈ q)) (h : (!(m == (s == 1))) = false) : ((k : Int) ∈ q ↔ s = 1) := by
  subst hm
  by_cases h1 : s = 1
  · subst h1; simpa using h
  · have h2 : (s == 1) = false := by simpa using h1
    simp [h2] at h
    simp [h1, h]

/-- A round has left: the last that came is out of bounds, or was there already. -/
def QBad (B : Nat) (n : Nat) (pre : List (Nat × Int)) (W : World) : Prop :=
  W.cell? ⟨B + 1, 0, none⟩ = some (.bool false) ∧ ∃ ini last, pre = ini ++ [last] ∧ (last.2 < 0 ∨ (n : Int) ≤ last.2 ∨ last.2 ∈ ini.map Prod.snd)

set_option maxRecDepth 100000 in
set_option maxHeartbeats 2000000 in
theorem goodQueue_many (ao : Option Addr) (cap : Nat) (ts : List (Int × Int)) (qo : Option Addr) (qcap : Nat) (q : List Int) (w : World) (hm : ts.length < q.length) :
    Calls Try.prog 29 #[.agg #[.slice ao ts.length cap, .slice qo q.length qcap]] w fun e w' => (∃ b, e = .returned (.bool b) ∧ (b = true ↔ QueueOk ts q)) ∧ Below w.heap.size w w' := by
  have HN : Hid (¬ QueueOk ts q) := fun h => by have := h.1; omega
  go_enter Try.func29, Try.ntmps29
  go_wp2
  refine bodyPost_ret (v := .bool false) (by simp [results, Try.results29, go_sem]) rfl ⟨⟨false, rfl, by simp [HN.out]⟩, below2 _ _ _⟩

set_option maxRecDepth 100000 in
set_option maxHeartbeats 4000000 in
theorem goodQueue_few (ao : Option Addr) (cap : Nat) (ts : List (Int × Int)) (qo : Option Addr) (qcap : Nat) (q : List Int) (w : World) (hl : ts.length ≤ 30) (hm : q.length ≤ ts.length) (hz : TasksIn w.heap.size w ao ts) (hq : IntsIn w.heap.size w qo q) :
    Calls Try.prog 29 #[.agg #[.slice ao ts.length cap, .slice qo q.length qcap]] w fun e w' => (∃ b, e = .returned (.bool b) ∧ (b = true ↔ QueueOk ts q)) ∧ Below w.heap.size w w' := by
  refine (callsIn_wide (n := 4)).1 ?_
  have hro : Fence.wide.round = none := rfl
  refine callsIn_of_wp_marks Try.func29 rfl trivial ?_ hro
  simp only [Try.ntmps29, List.size_toArray, List.length_cons, List.length_nil, Nat.reduceAdd, Nat.reduceSub, Array.replicate_succ, Array.replicate_zero, List.push_toArray, List.append_toArray, List.nil_append, List.cons_append]
  gi_wp2_with fail
  refine ⟨trivial, ?_⟩
  refine (callsIn_wide.2 (queueOfI_any qo qcap q _ (by omega) (hq.later (below3 _ _ _ _)))).mono ?_
  rintro e w1 ⟨⟨go, rfl, hO⟩, hb1⟩
  have hB1 : Below w.heap.size w w1 := (below3 w _ _ _).trans (hb1.mono (by simp; omega))
  have hs1 := hb1.size
  simp only [World.size_alloc] at hs1 hO
  have b0 : w1.cell? ⟨w.heap.size, 0, none⟩ = some (.slice ao ts.length cap) := (hb1.cell (p := ⟨w.heap.size, 0, none⟩) (by simp; omega)).trans (by simp [go_sem])
  have b1 : w1.cell? ⟨w.heap.size, 1, none⟩ = some (.slice qo q.length qcap) := (hb1.cell (p := ⟨w.heap.size, 1, none⟩) (by simp; omega)).trans (by simp [go_sem])
  have r0 : w1.cell? ⟨w.heap.size + 1, 0, none⟩ = some (.bool false) := (hb1.cell (p := ⟨w.heap.size + 1, 0, none⟩) (by simp)).trans (by simp [go_sem])
  have r1 : w1.frozen? ⟨w.heap.size + 1, 0, none⟩ = false := (hb1.frozen (p := ⟨w.heap.size + 1, 0, none⟩) (by simp)).trans (by simp [go_sem])
  have se0 : ∀ i, i < 30 → w1.cell? ⟨w.heap.size + 1 + 1, i, none⟩ = some (.bool false) := fun i hi => (hb1.cell (p := ⟨w.heap.size + 1 + 1, i, none⟩) (by simp)).trans (by
    rw [World.cell?_alloc_at (hn := by simp)]; exact seen0 i hi)
  have se1 : ∀ i, i < 30 → w1.frozen? ⟨w.heap.size + 1 + 1, i, none⟩ = false := fun i _ => (hb1.frozen (p := ⟨w.heap.size + 1 + 1, i, none⟩) (by simp)).trans (by simp [go_sem])
  clear hb1
  gi_wp2_with fail
  refine ⟨trivial, ?_⟩
  refine (callsIn_wide.2 (all_any _ ⟨_, _, _, rfl⟩ _)).mono ?_
  rintro e w2 ⟨rfl, rfl⟩
  gi_wp2_with fail
  obtain ⟨g, hgs, hg⟩ := hO.at
  obtain ⟨W0, hW0⟩ : ∃ W0, W0 = w1.alloc (Obj.cells #[Value.slice go q.length q.length] 50) := ⟨_, rfl⟩
  rw [← hW0]
  have hbW : Below w1.heap.size w1 W0 := by rw [hW0]; exact below1 _ _
  have hsW : W0.heap.size = w1.heap.size + 1 := by rw [hW0]; simp
  have cW : W0.cell? ⟨w1.heap.size, 0, none⟩ = some (.slice go q.length q.length) := by rw [hW0]; simp
  clear hW0
  have hBW : Below w.heap.size w W0 := hB1.trans (hbW.mono (by omega))
  have hgl : q = [] ∨ (w.heap.size + 1 + 1 < g ∧ g < w1.heap.size) := by
    rcases hg with h | ⟨_, h1, h2, _⟩
    · exact .inl h
    · exact .inr ⟨by omega, h2⟩
  have hq0 : q = [] ∨ ∃ off, go = some ⟨g, off, none⟩ ∧ g < W0.heap.size ∧ ∀ j, j < q.length → W0.cell? ⟨g, off + j, none⟩ = some (.int .i64 (q[j]?.getD 0)) := by
    rcases hg with h | ⟨h1, h2, h3, h4⟩
    · exact .inl h
    · exact .inr ⟨0, h1, by omega, fun j hj => (hbW.cell (p := ⟨g, 0 + j, none⟩) h3).trans (h4 j hj)⟩
  have hgW : g < W0.heap.size := by omega
  have hinv0 : QInv w.heap.size (.slice ao ts.length cap) (.slice qo q.length qcap) ts.length g [] W0 := by
    refine ⟨⟨by simp, by simp⟩, (hbW.cell (p := ⟨w.heap.size, 0, none⟩) (by simp; omega)).trans b0, (hbW.cell (p := ⟨w.heap.size, 1, none⟩) (by simp; omega)).trans b1, ⟨(hbW.cell (p := ⟨w.heap.size + 1, 0, none⟩) (by simp; omega)).trans r0, (hbW.frozen (p := ⟨w.heap.size + 1, 0, none⟩) (by simp; omega)).trans r1⟩, fun i hi => ⟨?_, (hbW.frozen (p := ⟨w.heap.size + 1 + 1, i, none⟩) (by simp; omega)).trans (se1 i hi)⟩, hgW, by omega⟩
    rw [(hbW.cell (p := ⟨w.heap.size + 1 + 1, i, none⟩) (by simp; omega)).trans (se0 i hi)]; simp
  clear b0 b1 r0 r1 se0 se1 hO hg
  refine wpIn_rangeFunc_ownG hro (by omega) (gf := 41) (lb := #[.pointer (some ⟨w1.heap.size, 0, none⟩)]) rfl trivial (enters_of Try.func41 (by kernel_rfl) rfl)
    (all_stops Fence.wide (4 - 1) trivial hro (by omega) w1.heap.size g go q.length q (by omega) W0 (by omega) cW hq0) SameB.trans (sameB_put hgW) (Below.refl _ _) (fun _ => rfl)
    (fun pre W => QInv w.heap.size (.slice ao ts.length cap) (.slice qo q.length qcap) ts.length g pre W ∧ Below w.heap.size w W)
    (fun c pre W => (c = .ret ∧ QBad w.heap.size ts.length pre W) ∧ Below w.heap.size w W)
    (OwnFrom.and (Own.from (fun s A B row hs hg hr => hs.kept hg hr) _) (ownFrom_below (Nat.le_refl _) (by omega)))
    (fun c => OwnFrom.and (Own.from (fun s A B row hs hg hr => ⟨hs.1, cell_kept hs.2.1 hg hr, hs.2.2⟩) _) (ownFrom_below (Nat.le_refl _) (by omega)))
    ⟨hinv0, hBW⟩
    (fun x => { tmps := #[Value.agg #[Value.slice ao ts.length cap, Value.slice qo q.length qcap], Value.pointer (some ⟨w.heap.size, 0, none⟩), Value.pointer (some ⟨w.heap.size + 1, 0, none⟩), Value.pointer (some ⟨w.heap.size + 1 + 1, 0, none⟩), undef, Value.int .i64 x.2, undef, undef, Value.pointer (some ⟨w.heap.size, 1, none⟩), Value.slice qo q.length qcap, Value.int .i64 (q.length : Int), Value.pointer (some ⟨w.heap.size, 0, none⟩), Value.slice ao ts.length cap, Value.int .i64 (ts.length : Int), Value.bool false, Value.pointer (some ⟨w.heap.size, 1, none⟩), Value.slice qo q.length qcap, Value.agg #[Value.slice go q.length q.length], Value.func (Fn.func 41) #[] #[Value.pointer (some ⟨w1.heap.size, 0, none⟩)], Value.int .i64 (x.1 : Int), Value.int .i64 x.2, undef, undef, undef, undef, undef, undef, undef, undef, undef, undef, undef, undef, undef, undef, undef, undef, undef, undef, undef, undef, undef, undef, undef, undef, undef, undef, undef], defers := [] }) ?assign ?body ?done ?stop
  case assign =>
    intro l x W K hK
    gi_wp2
    exact hK
  case body =>
    rintro l pre ⟨x1, x2⟩ W ⟨hI, hB⟩ hlen
    have hI' : Hid (QInv w.heap.size (.slice ao ts.length cap) (.slice qo q.length qcap) ts.length g pre W) := hI
    obtain ⟨hp, hb0, hb1, ⟨hr0, hr1⟩, hs0, hgW', hsz'⟩ := hI
    by_cases hx : x2 < 0 ∨ (ts.length : Int) ≤ x2
    · have HX : Hid (x2 < 0 ∨ (ts.length : Int) ≤ x2) := hx
      clear hs0 hx hp
      gi_wp2_with fail
      refine ⟨trivial, ?_⟩
      refine (CallsIn.inRound l (callsIn_wide.2 (hasTask_no _ _ _ _ _ _ (by omega) ⟨_, _, _, rfl⟩ HX.out))).mono ?_
      rintro e W1 ⟨rfl, hk1⟩
      have q0 : W1.cell? ⟨w.heap.size + 1, 0, none⟩ = some (.bool false) := (hk1.cell (p := ⟨w.heap.size + 1, 0, none⟩) (by simp; omega)).trans hr0
      have q1 : W1.frozen? ⟨w.heap.size + 1, 0, none⟩ = false := (hk1.frozen (p := ⟨w.heap.size + 1, 0, none⟩) (by simp; omega)).trans hr1
      gi_wp2
      exact ⟨((keeps_of_below hk1).trans (KeepsOthers.setCell _ _ _)).from _, ⟨rfl, World.cell?_setCell_same' _ _ _ (by rw [q0]; rfl), pre, (x1, x2), rfl, by rcases HX.out with h | h; exact .inl h; exact .inr (.inl h)⟩, (hB.trans (hk1.mono hB.size)).setCell (p := ⟨w.heap.size + 1, 0, none⟩) (by simp) _⟩
    · obtain ⟨i, rfl⟩ : ∃ i : Nat, x2 = i := ⟨x2.toNat, by omega⟩
      have hi : i < ts.length := by omega
      have hi30 : i < 30 := by omega
      have hsi := hs0 i hi30
      clear hs0 hx hp
      by_cases hmem : (i : Int) ∈ pre.map Prod.snd
      · have HM : Hid ((i : Int) ∈ pre.map Prod.snd) := hmem
        have hsi1 : W.cell? ⟨w.heap.size + 1 + 1, i, none⟩ = some (.bool true) := by rw [hsi.1]; simp only [hmem, decide_true]
        clear hsi hmem
        gi_wp2_with fail
        refine ⟨trivial, ?_⟩
        refine (CallsIn.inRound l (callsIn_wide.2 (hasTask_yes _ _ _ _ _ _ (by omega) ⟨_, _, _, rfl⟩ (by omega) (by omega)))).mono ?_
        rintro e W1 ⟨rfl, hk1⟩
        have q0 : W1.cell? ⟨w.heap.size + 1, 0, none⟩ = some (.bool false) := (hk1.cell (p := ⟨w.heap.size + 1, 0, none⟩) (by simp; omega)).trans hr0
        have q1 : W1.frozen? ⟨w.heap.size + 1, 0, none⟩ = false := (hk1.frozen (p := ⟨w.heap.size + 1, 0, none⟩) (by simp; omega)).trans hr1
        have q2 : W1.cell? ⟨w.heap.size + 1 + 1, i, none⟩ = some (.bool true) := (hk1.cell (p := ⟨w.heap.size + 1 + 1, i, none⟩) hsz').trans hsi1
        gi_wp2
        exact ⟨((keeps_of_below hk1).trans (KeepsOthers.setCell _ _ _)).from _, ⟨rfl, World.cell?_setCell_same' _ _ _ (by rw [q0]; rfl), pre, (x1, (i : Int)), rfl, .inr (.inr HM.out)⟩, (hB.trans (hk1.mono hB.size)).setCell (p := ⟨w.heap.size + 1, 0, none⟩) (by simp) _⟩
      · have HM : Hid ((i : Int) ∉ pre.map Prod.snd) := hmem
        have hsi1 : W.cell? ⟨w.heap.size + 1 + 1, i, none⟩ = some (.bool false) := by rw [hsi.1]; simp only [hmem, decide_false]
        have hsi2 := hsi.2
        clear hsi hmem
        gi_wp2_with fail
        refine ⟨trivial, ?_⟩
        refine (CallsIn.inRound l (callsIn_wide.2 (hasTask_yes _ _ _ _ _ _ (by omega) ⟨_, _, _, rfl⟩ (by omega) (by omega)))).mono ?_
        rintro e W1 ⟨rfl, hk1⟩
        have q2 : W1.cell? ⟨w.heap.size + 1 + 1, i, none⟩ = some (.bool false) := (hk1.cell (p := ⟨w.heap.size + 1 + 1, i, none⟩) hsz').trans hsi1
        have q3 : W1.frozen? ⟨w.heap.size + 1 + 1, i, none⟩ = false := (hk1.frozen (p := ⟨w.heap.size + 1 + 1, i, none⟩) hsz').trans hsi2
        have hgne : g ≠ w.heap.size + 1 + 1 := by
          rcases hgl with rfl | h
          · simp at hlen
          · omega
        gi_wp2
        exact ⟨((keeps_of_below hk1).trans (KeepsOthers.setCell _ _ _)).from _, (sameB_below hk1 hgW').trans (sameB_set hgne), (hI'.out.below hk1).mark (x1, (i : Int)) i rfl hi hi30 HM.out, (hB.trans (hk1.mono hB.size)).setCell (p := ⟨w.heap.size + 1 + 1, i, none⟩) (by simp; omega) _⟩
  case done =>
    rintro D ys W hD rfl ⟨hI, hB⟩ hK
    obtain ⟨⟨hp, hnd⟩, hb0, hb1, ⟨hr0, hr1⟩, hs0, hgW', hsz'⟩ := hI
    rw [upto_snd q q.length (Nat.le_refl _), List.take_length] at hs0 hnd
    have HQ : Hid ((∀ id, id ∈ q → 0 ≤ id ∧ id < ts.length) ∧ q.Nodup) := by
      refine ⟨fun id hid => ?_, hnd⟩
      rw [← List.take_length (l := q), ← upto_snd q q.length (Nat.le_refl _)] at hid
      obtain ⟨p, hp1, rfl⟩ := List.mem_map.1 hid
      exact hp p hp1
    clear hp hnd
    gi_wp2
    gi_loopw [35] (fun i wr => ∃ k : Nat, k ≤ ts.length ∧ i = .int .i64 k ∧ Hid (∀ j : Nat, j < k → ((j : Int) ∈ q ↔ (ts[j]?.getD (0, 0)).1 = 1)) ∧ Below W.heap.size W wr) (fun i _ => ts.length - (intOf i).toNat)
    case atStart => exact ⟨0, Nat.zero_le _, rfl, fun j hj => by omega, Below.refl _ _⟩
    case round =>
      obtain ⟨k, hk, rfl, hno, hnx⟩ := hrel
      have hBr : Below w.heap.size w wr := hB.trans (hnx.mono hB.size)
      have hszr := hnx.size
      have hD2 : D < W.heap.size := (Array.getElem?_eq_some_iff.1 hK).1
      have hKr : wr.heap[D]? = some (.deferred (some [])) := (hnx.block D hD2).trans hK
      have hrr0 : wr.cell? ⟨w.heap.size + 1, 0, none⟩ = some (.bool false) := (hnx.cell (p := ⟨w.heap.size + 1, 0, none⟩) (by simp; omega)).trans hr0
      have hrr1 : wr.frozen? ⟨w.heap.size + 1, 0, none⟩ = false := (hnx.frozen (p := ⟨w.heap.size + 1, 0, none⟩) (by simp; omega)).trans hr1
      have hlt1 : w.heap.size + 1 < wr.heap.size := by omega
      have hlt2 : w.heap.size + 1 + 1 < wr.heap.size := by omega
      have HK : Hid (wr.heap[D]? = some (.deferred (some []))) := hKr
      clear hK hKr
      by_cases hlt : k < ts.length
      · obtain ⟨b, off, rfl, hb, hc⟩ := hz.pos hlt
        have hck1 := (hBr.cell (p := ⟨b, off + k * 2, none⟩) hb).trans (hc k hlt).1
        have hck2 := (hBr.cell (p := ⟨b, off + k * 2 + 1, none⟩) hb).trans (hc k hlt).2
        have hsk := (hnx.cell (p := ⟨w.heap.size + 1 + 1, k, none⟩) hsz').trans (hs0 k (by omega)).1
        clear hc hz hs0 hq
        obtain ⟨s, hs⟩ : ∃ s, s = (ts[k]?.getD (0, 0)).1 := ⟨_, rfl⟩
        obtain ⟨p, hp⟩ : ∃ p, p = (ts[k]?.getD (0, 0)).2 := ⟨_, rfl⟩
        rw [← hs] at hck1
        rw [← hp] at hck2
        have HS : Hid (s = (ts[k]?.getD (0, 0)).1) := hs
        clear hs hp
        obtain ⟨m, hm⟩ : ∃ m, m = decide ((k : Int) ∈ q) := ⟨_, rfl⟩
        rw [← hm] at hsk
        have HM : Hid (m = decide ((k : Int) ∈ q)) := hm
        clear hm
        have hk30 : (k : Int) < 30 := by omega
        gi_wp2
        gi_region
        all_goals gi_wp2
        · have ht : (!(m == (s == 1))) = true := by assumption
          have HN : Hid (¬ QueueOk ts q) := fun h => row_bad HM.out ht (by rw [HS.out]; exact h.2.2.2 k hlt)
          have hk1 : KeepsOthers wr ((wr.setCell ⟨w.heap.size + 1, 0, none⟩ (.bool false)).alloc (Obj.cells #[Value.int IntKind.i64 s, Value.int IntKind.i64 p] 34)).drew := ((KeepsOthers.setCell _ _ _).trans (KeepsOthers.alloc _ _)).trans (KeepsOthers.drew _)
          have hK' := hk1.same D _ HK.out rfl
          have hX : ((wr.setCell ⟨w.heap.size + 1, 0, none⟩ (.bool false)).alloc (Obj.cells #[Value.int IntKind.i64 s, Value.int IntKind.i64 p] 34)).drew.cell? ⟨w.heap.size + 1, 0, none⟩ = some (.bool false) :=
            (World.cell?_alloc_past (hn := by simpa using hlt1) ..).trans (World.cell?_setCell_same' _ _ _ (by rw [hrr0]; rfl))
          refine ⟨by simp, .inl ⟨_, _, rfl, run_takeDeferred hK', ?_⟩⟩
          have hc5 := cell_kept hX (grownBy_putObj' _ D (.deferred none)) (fun r e => by cases e; exact ⟨_, hK', rfl⟩)
          refine ⟨.bool false, ?_, ⟨false, rfl, by simp [HN.out]⟩, (((hBr.setCell (p := ⟨w.heap.size + 1, 0, none⟩) (by simp) _).alloc (by simp; omega) _).drew).trans (belowK_b (w := W0) (by omega) _ D _ _ hD hK' rfl rfl)⟩
          simp [results, Try.f29, go_sem, hc5]
        · have ht : (!(m == (s == 1))) = false := by assumption
          go_roundw
          case rel => exact ⟨k + 1, by omega, by go_num, fun j hj => by
            rcases Nat.lt_succ_iff_lt_or_eq.1 hj with h | rfl
            · exact hno.out j h
            · rw [← HS.out]; exact row_ok HM.out ht, (hnx.alloc hnx.size _).drew⟩
          case measure => simp [intOf]; omega
      · obtain rfl : k = ts.length := by omega
        have HT : Hid (QueueOk ts q) := ⟨hm, HQ.out.1, HQ.out.2, hno.out⟩
        gi_wp2
        have hk1 : KeepsOthers wr (wr.setCell ⟨w.heap.size + 1, 0, none⟩ (.bool true)) := KeepsOthers.setCell _ _ _
        have hK' := hk1.same D _ HK.out rfl
        have hX : (wr.setCell ⟨w.heap.size + 1, 0, none⟩ (.bool true)).cell? ⟨w.heap.size + 1, 0, none⟩ = some (.bool true) := World.cell?_setCell_same' _ _ _ (by rw [hrr0]; rfl)
        refine ⟨by simp, .inl ⟨_, _, rfl, run_takeDeferred hK', ?_⟩⟩
        have hc5 := cell_kept hX (grownBy_putObj' _ D (.deferred none)) (fun r e => by cases e; exact ⟨_, hK', rfl⟩)
        refine ⟨.bool true, ?_, ⟨true, rfl, by simp [HT.out]⟩, (hBr.setCell (p := ⟨w.heap.size + 1, 0, none⟩) (by simp) _).trans (belowK_b (w := W0) (by omega) _ D _ _ hD hK' rfl rfl)⟩
        simp [results, Try.f29, go_sem, hc5]
  case stop =>
    rintro D c pre W hD ⟨k, hk, rfl⟩ ⟨⟨rfl, hc, ini, last, e1, hbad⟩, hB⟩ hK
    have HN : Hid (¬ QueueOk ts q) := by
      rintro ⟨o1, o2, o3, o4⟩
      have hmap : (upto (fun j => (j, q[j]?.getD 0)) k).map Prod.snd = q.take k := upto_snd q k hk
      have hsub : ∀ y, y ∈ (ini ++ [last]).map Prod.snd → y ∈ q := by
        intro y hy; rw [← e1, hmap] at hy; exact List.mem_of_mem_take hy
      have hl2 := o2 last.2 (hsub _ (by simp))
      rcases hbad with h | h | h
      · omega
      · omega
      · have hnd : ((ini ++ [last]).map Prod.snd).Nodup := by rw [← e1, hmap]; exact List.Nodup.sublist (List.take_sublist _ _) o3
        rw [List.map_append] at hnd
        exact (List.nodup_append.1 hnd).2.2 last.2 h last.2 (by simp) rfl
    gi_wp2
    refine ⟨by simp, .inl ⟨_, _, rfl, run_takeDeferred hK, ?_⟩⟩
    have hc5 := cell_kept hc (grownBy_putObj' _ D (.deferred none)) (fun r e => by cases e; exact ⟨_, hK, rfl⟩)
    refine ⟨.bool false, ?_, ⟨false, rfl, by simp [HN.out]⟩, hB.trans (belowK_b (w := W0) (by omega) W D _ _ hD hK rfl rfl)⟩
    simp [results, Try.f29, go_sem, hc5]
theorem goodQueue_any (ao : Option Addr) (cap : Nat) (ts : List (Int × Int)) (qo : Option Addr) (qcap : Nat) (q : List Int) (w : World) (hl : ts.length ≤ 30) (hz : TasksIn w.heap.size w ao ts) (hq : IntsIn w.heap.size w qo q) :
    Calls Try.prog 29 #[.agg #[.slice ao ts.length cap, .slice qo q.length qcap]] w fun e w' => (∃ b, e = .returned (.bool b) ∧ (b = true ↔ QueueOk ts q)) ∧ Below w.heap.size w w' := by
  by_cases h : q.length ≤ ts.length
  · exact goodQueue_few ao cap ts qo qcap q w hl h hz hq
  · exact goodQueue_many ao cap ts qo qcap q w (by omega)
end Go.Proofs.Ytgbnbnjfaffaiaa.Old
