
/- The program's copies of tasks and of boards. No conditions but those written. -/
import Derived.Test.YtgbnbnjfaffaiaaOMa
import Derived.Deep.RegionWith
namespace Go.Proofs.Ytgbnbnjfaffaiaa.Old
open Go.RowKit

theorem run_copy_rows {P : Program} (w : World) (dT sT ty elem : TypeId) (g dLen dCap : Nat) (a : Addr) (sLen sCap : Nat) (cur : Array Value) (t : TypeId) (cs : List Value) (sz n : Nat)
    (hu : P.underlying dT = some (.slice elem)) (hs : (P.info? elem).map (·.size) = some sz) (hg : w.heap[g]? = some (.cells cur t (0, 0))) (hnm : Nat.min sLen dLen = n) (hn : cs.length = n * sz)
    (hsrc : ∀ j v, cs[j]? = some v → w.cell? (a.add j) = some v) (hfit : cs.length = cur.size) (h1 : ∀ v ∈ cs, v.oneCell' = true) :
    (Builtin.copy_ #[dT, sT] ty #[.slice (some ⟨g, 0, none⟩) dLen dCap, .slice (some a) sLen sCap]).run P w = .ok (goInt n) (w.setRow g cs.toArray) := by
  have hl := run_loadCells_list (P := P) w a cs hsrc
  have hst := run_storeCells_at P g 0 t cs 0 cur w hg (by omega) h1
  have e : cur.toList.drop cs.length = [] := List.drop_eq_nil_of_le (by simp [hfit])
  cases hq : P.info? elem with
  | none => simp [hq] at hs
  | some i =>
    have hi : i.size = sz := by simpa [hq] using hs
    simp only [Nat.zero_add, e, List.take_zero, List.nil_append, List.append_nil] at hst
    simp [Builtin.copy_, run_underlying hu, Builtin.lenOf, Builtin.firstCells, sizeOf, typeInfo, hq, hi, hnm, ← hn, hl, hst]

theorem Try.size34 : (Try.prog.info? 34).map (·.size) = some 2 := by kernel_rfl

/-- The cells of a list of tasks. -/
def tcells : List (Int × Int) → List Value
  | [] => []
  | t :: r => .int .i64 t.1 :: .int .i64 t.2 :: tcells r
theorem tcells_len : ∀ ts : List (Int × Int), (tcells ts).length = ts.length * 2
  | [] => rfl
  | t :: r => by simp [tcells, tcells_len r]; omega
theorem tcells_at : ∀ (ts : List (Int × Int)) (j : Nat), j < ts.length → (tcells ts)[j * 2]? = some (.int .i64 (ts[j]?.getD (0, 0)).1) ∧ (tcells ts)[j * 2 + 1]? = some (.int .i64 (ts[j]?.getD (0, 0)).2)
  | [], j, h => by simp at h
  | t :: r, 0, _ => by simp [tcells]
  | t :: r, j + 1, h => by
    have := tcells_at r j (by simpa using h)
    rw [show (j + 1) * 2 = j * 2 + 1 + 1 from by omega]
    simpa [tcells] using this
theorem tcells_one : ∀ (ts : List (Int × Int)) (v : Value), v ∈ tcells ts → v.oneCell' = true
  | [], v, h => by simp [tcells] at h
  | t :: r, v, h => by
    simp [tcells] at h
    rcases h with rfl | rfl | h
    · rfl
    · rfl
    · exact tcells_one r v h
theorem tcells_src {w w1 : World} {b off n : Nat} {ts : List (Int × Int)} (hB : Below n w w1) (hb : b < n)
    (hc : ∀ j, j < ts.length → w.cell? ⟨b, off + j * 2, none⟩ = some (.int .i64 (ts[j]?.getD (0, 0)).1) ∧ w.cell? ⟨b, off + j * 2 + 1, none⟩ = some (.int .i64 (ts[j]?.getD (0, 0)).2)) :
    ∀ i v, (tcells ts)[i]? = some v → w1.cell? ((⟨b, off, none⟩ : Addr).add i) = some v := by
  intro i v h
  have hi : i < ts.length * 2 := by have := (List.getElem?_eq_some_iff.1 h).1; rwa [tcells_len] at this
  have ea : (⟨b, off, none⟩ : Addr).add i = ⟨b, off + i, none⟩ := by by_cases h : i = 0 <;> simp [Addr.add, h]
  rw [ea, hB.cell (p := ⟨b, off + i, none⟩) hb]
  obtain ⟨h1, h2⟩ := tcells_at ts (i / 2) (by omega)
  obtain ⟨k1, k2⟩ := hc (i / 2) (by omega)
  rcases (show i = i / 2 * 2 ∨ i = i / 2 * 2 + 1 from by omega) with e | e
  · rw [← e] at h1 k1; rw [k1, ← h1]; exact h
  · rw [← e] at h2; rw [Nat.add_assoc, ← e] at k2; rw [k2, ← h2]; exact h

theorem freshT_row {w : World} {g lo : Nat} {ts : List (Int × Int)} {cur : List Value} (hg : w.heap[g]? = some (.cells cur.toArray 34 (0, 0))) (hb : lo ≤ g) (hl : ts.length ≤ 2097152) : FreshT lo (g + 1) (w.setRow g (tcells ts).toArray) (some ⟨g, 0, none⟩) ts.length ts := by
  refine .inr ⟨g, tcells ts, rfl, by omega, ⟨tcells_len ts, .inr ⟨g, ts.length, (tcells ts).toArray, rfl, hb, ?_, Nat.le_refl _, by unfold maxLen; omega, by simp [tcells_len], by simp [List.take_of_length_le, tcells_len]⟩⟩, tcells_at ts⟩
  exact setRow_heap w g _ _ 34 _ hg

set_option maxHeartbeats 1000000 in
theorem copyListT_any (ao : Option Addr) (cap : Nat) (ts : List (Int × Int)) (w : World) (hl : ts.length ≤ 1048576) (hz : TasksIn w.heap.size w ao ts) :
    Calls Try.prog 39 #[.slice ao ts.length cap] w fun e w' => (∃ to, e = .returned (.slice to ts.length ts.length) ∧ FreshT w.heap.size w'.heap.size w' to ts.length ts) ∧ Below w.heap.size w w' := by
  by_cases h0 : ts.length = 0
  · obtain rfl : ts = [] := List.length_eq_zero_iff.1 h0
    go_enter Try.func39, Try.ntmps39
    go_wp2
    go_ret
    exact ⟨⟨none, rfl, .inl rfl⟩, Below.refl _ _⟩
  · have h0' : ((ts.length : Int) == 0) = false := by simp; intro h; apply h0; simp [h]
    obtain ⟨b, off, rfl, hb, hc⟩ := hz.pos (k := 0) (by omega)
    obtain ⟨i0, hi, hz0, hz1, hz2⟩ := info_parts Try.info34
    go_enter Try.func39, Try.ntmps39
    go_wp2_with (at_make; refine wpList_make_full _ rfl _ _ 23 rfl w.heap.size 34 i0 (.agg #[.int .i64 0, .int .i64 0]) 2 Try.underlying23 hi hz0 hz1 .i64 .i64 _ _ ts.length rfl rfl rfl rfl (by rw [hz2]; omega) (by unfold maxLen; omega) (Nat.le_refl _) ?_; intro w1 hown hgrow; obtain ⟨cur, hcur, hcl, _⟩ := owns_open hown; have hB1 : Below w.heap.size w w1 := (Below.refl _ _).grown hgrow (Nat.le_refl _) (fun k e => by cases e); have hrun := run_copy_rows (P := Try.prog) w1 23 23 3 34 w.heap.size ts.length ts.length ⟨b, off, none⟩ ts.length cap cur.toArray 34 (tcells ts) 2 ts.length Try.underlying23 Try.size34 hcur (by simp) (tcells_len ts) (tcells_src hB1 hb hc) (by simp [tcells_len, hcl]) (tcells_one ts); have HC := show Hid (w1.heap[w.heap.size]? = some (.cells cur.toArray 34 (0, 0))) from hcur; clear hown hgrow hcur)
    go_ret
    have hlt : w.heap.size < w1.heap.size := (Array.getElem?_eq_some_iff.1 HC.out).1
    exact ⟨⟨_, rfl, (freshT_row HC.out (Nat.le_refl _) (by omega)).wide (Nat.le_refl _) (by simp [World.setRow]; omega)⟩, below_setRow hB1 (Nat.le_refl _) _⟩
theorem FreshT.setBelow {lo hi : Nat} {W : World} {to : Option Addr} {tc : Nat} {ts : List (Int × Int)} (h : FreshT lo hi W to tc ts) {a : Addr} (ha : a.block < lo) (u : Value) : FreshT lo hi (W.setCell a u) to tc ts := h.keep fun k hk _ _ => Below.heap_setCell W a u k (by omega)
theorem FreshI.setBelow {lo hi : Nat} {W : World} {qo : Option Addr} {qc : Nat} {q : List Int} (h : FreshI lo hi W qo qc q) {a : Addr} (ha : a.block < lo) (u : Value) : FreshI lo hi (W.setCell a u) qo qc q := h.keep fun k hk _ _ => Below.heap_setCell W a u k (by omega)
theorem OwnIo.fresh {base : Nat} {W : World} {go : Option Addr} {zs : List Int} (h : OwnIo base W go zs) : FreshI base W.heap.size W go zs.length zs := by
  rcases h with ⟨_, h⟩ | ⟨g, e, h⟩
  · exact .inl h
  · exact .inr ⟨g, e, (owns_lt h).2, h⟩

set_option maxHeartbeats 2000000 in
theorem copyBoard_any (ao : Option Addr) (cap : Nat) (ts : List (Int × Int)) (qo : Option Addr) (qcap : Nat) (q : List Int) (w : World) (hl : ts.length ≤ 1048576) (hlq : q.length ≤ 1048576) (hz : TasksIn w.heap.size w ao ts) (hq : IntsIn w.heap.size w qo q) :
    Calls Try.prog 16 #[.agg #[.slice ao ts.length cap, .slice qo q.length qcap]] w fun e w' => (∃ to go, e = .returned (.agg #[.slice to ts.length ts.length, .slice go q.length q.length]) ∧ FreshT w.heap.size w'.heap.size w' to ts.length ts ∧ FreshI w.heap.size w'.heap.size w' go q.length q) ∧ Below w.heap.size w w' := by
  obtain ⟨W2, hW2⟩ : ∃ W2, W2 = (w.alloc (.cells #[.slice ao ts.length cap, .slice qo q.length qcap] 26)).alloc (.cells #[.slice none 0 0, .slice none 0 0] 26) := ⟨_, rfl⟩
  have hB2 : Below w.heap.size w W2 := by rw [hW2]; exact below2 _ _ _
  have hs2 : W2.heap.size = w.heap.size + 1 + 1 := by rw [hW2]; simp
  have b0 : W2.cell? ⟨w.heap.size, 0, none⟩ = some (.slice ao ts.length cap) := by rw [hW2]; simp [go_sem]
  have b1 : W2.cell? ⟨w.heap.size, 1, none⟩ = some (.slice qo q.length qcap) := by rw [hW2]; simp [go_sem]
  have r0 : W2.cell? ⟨w.heap.size + 1, 0, none⟩ = some (.slice none 0 0) := by rw [hW2]; simp [go_sem]
  have r1 : W2.cell? ⟨w.heap.size + 1, 1, none⟩ = some (.slice none 0 0) := by rw [hW2]; simp [go_sem]
  have f0 : W2.frozen? ⟨w.heap.size + 1, 0, none⟩ = false := by rw [hW2]; simp [go_sem]
  have f1 : W2.frozen? ⟨w.heap.size + 1, 1, none⟩ = false := by rw [hW2]; simp [go_sem]
  have hW2' : Hid (W2 = (w.alloc (.cells #[.slice ao ts.length cap, .slice qo q.length qcap] 26)).alloc (.cells #[.slice none 0 0, .slice none 0 0] 26)) := hW2
  clear hW2
  go_enter Try.func16, Try.ntmps16
  go_wp2
  rw [← hW2'.out]
  go_region_with (first
    | (go_at_call 39; refine (copyListT_any ao cap ts _ hl (by exact hz.later hB2.drew)).mono ?_; rintro e w1 ⟨⟨to, rfl, hT⟩, hb1⟩; have hB3 : Below w.heap.size w w1 := hB2.drew.trans (hb1.mono hB2.size); have k1 : w1.cell? ⟨w.heap.size, 1, none⟩ = some (.slice qo q.length qcap) := (hb1.cell (p := ⟨w.heap.size, 1, none⟩) (by simp [hs2]; omega)).trans b1; have HT : Hid (FreshT W2.heap.size w1.heap.size w1 to ts.length ts) := hT; have hs1 : w.heap.size + 1 < w1.heap.size := (by have := hb1.size; simp [hs2] at this; omega); have m0 : w1.cell? ⟨w.heap.size + 1, 0, none⟩ = some (.slice none 0 0) := (hb1.cell (p := ⟨w.heap.size + 1, 0, none⟩) (by simp [hs2])).trans r0; have m1 : w1.cell? ⟨w.heap.size + 1, 1, none⟩ = some (.slice none 0 0) := (hb1.cell (p := ⟨w.heap.size + 1, 1, none⟩) (by simp [hs2])).trans r1; have n0 : w1.frozen? ⟨w.heap.size + 1, 0, none⟩ = false := (hb1.frozen (p := ⟨w.heap.size + 1, 0, none⟩) (by simp [hs2])).trans f0; have n1 : w1.frozen? ⟨w.heap.size + 1, 1, none⟩ = false := (hb1.frozen (p := ⟨w.heap.size + 1, 1, none⟩) (by simp [hs2])).trans f1; clear hT)
    | (go_at_call 40; refine (copyListI_any qo qcap q _ hlq (by exact hq.later hB3)).mono ?_; rintro e w2 ⟨⟨go, rfl, hI⟩, hb2⟩; have o0 : w2.cell? ⟨w.heap.size + 1, 0, none⟩ = some (.slice none 0 0) := (hb2.cell (p := ⟨w.heap.size + 1, 0, none⟩) hs1).trans m0; have o1 : w2.cell? ⟨w.heap.size + 1, 1, none⟩ = some (.slice none 0 0) := (hb2.cell (p := ⟨w.heap.size + 1, 1, none⟩) hs1).trans m1; have p0 : w2.frozen? ⟨w.heap.size + 1, 0, none⟩ = false := (hb2.frozen (p := ⟨w.heap.size + 1, 0, none⟩) hs1).trans n0; have p1 : w2.frozen? ⟨w.heap.size + 1, 1, none⟩ = false := (hb2.frozen (p := ⟨w.heap.size + 1, 1, none⟩) hs1).trans n1; have HF : Hid (FreshT W2.heap.size w2.heap.size w2 to ts.length ts ∧ FreshI w1.heap.size w2.heap.size w2 go q.length q ∧ Below w.heap.size w w2) := ⟨(HT.out.later hb2).wide (Nat.le_refl _) hb2.size, hI.fresh, hB3.trans (hb2.mono hB3.size)⟩; clear hI))
  all_goals
    go_wp2
    obtain ⟨hF1, hF2, hF3⟩ := HF.out
    refine bodyPost_ret (v := .agg #[.slice to ts.length ts.length, .slice go q.length q.length]) (by simp [results, Try.results16, go_sem, o0, o1]) rfl ⟨⟨to, go, rfl, ?_, ?_⟩, ?_⟩
    · exact ((hF1.setBelow (a := ⟨w.heap.size + 1, 0, none⟩) (by simp [hs2]) _).setBelow (a := ⟨w.heap.size + 1, 1, none⟩) (by simp [hs2]) _).wide (by omega) (by simp)
    · exact ((hF2.setBelow (a := ⟨w.heap.size + 1, 0, none⟩) hs1 _).setBelow (a := ⟨w.heap.size + 1, 1, none⟩) hs1 _).wide (by omega) (by simp)
    · exact (hF3.setCell (p := ⟨w.heap.size + 1, 0, none⟩) (by simp) _).setCell (p := ⟨w.heap.size + 1, 1, none⟩) (by simp) _
end Go.Proofs.Ytgbnbnjfaffaiaa.Old
