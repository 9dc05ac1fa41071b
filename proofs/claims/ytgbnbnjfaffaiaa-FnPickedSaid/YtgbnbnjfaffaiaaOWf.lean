
/- Contracts of the program's own copies and small looks. No conditions but those written. -/
import Derived.Test.YtgbnbnjfaffaiaaOWd
import Derived.Laws.CopyOwn
namespace Go.Proofs.Ytgbnbnjfaffaiaa.Old
open Go.RowKit

theorem Try.size3 : (Try.prog.info? 3).map (·.size) = some 1 := by kernel_rfl

theorem owns_open {w : World} {base : Nat} {e : TypeId} {size : Nat} {g n cap : Nat} {xs : List Value} (h : w.ownsRow base e size (.slice (some ⟨g, 0, none⟩) n cap) n xs) :
    ∃ cur : List Value, w.heap[g]? = some (.cells cur.toArray e (0, 0)) ∧ cur.length = cap * size ∧ base ≤ g ∧ n ≤ cap ∧ cap ≤ maxLen := by
  rcases h.2 with ⟨h', _⟩ | ⟨g', cap', cur, h', hb, hg, h1, h2, h3, h4⟩
  · simp at h'
  · simp only [Value.slice.injEq, Option.some.injEq, Addr.mk.injEq, and_true, true_and] at h'
    obtain ⟨rfl, rfl⟩ := h'
    exact ⟨cur.toList, by simpa using hg, by simpa using h3, hb, h1, h2⟩

/-- nil where there are none, else a row of its own from base on. -/
def OwnIo (base : Nat) (W : World) (go : Option Addr) (zs : List Int) : Prop := (go = none ∧ zs = []) ∨ ∃ g, go = some ⟨g, 0, none⟩ ∧ OwnI base W g zs
theorem OwnIo.ints {base : Nat} {W : World} {go : Option Addr} {zs : List Int} (h : OwnIo base W go zs) : IntsIn W.heap.size W go zs := by
  rcases h with ⟨_, rfl⟩ | ⟨g, rfl, h⟩
  · exact .inl rfl
  · exact h.ints

theorem ints_src {w w1 : World} {b off n : Nat} {zs : List Int} (hB : Below n w w1) (hb : b < n) (hc : ∀ j, j < zs.length → w.cell? ⟨b, off + j, none⟩ = some (.int .i64 (zs[j]?.getD 0))) :
    ∀ j v, (zs.map (Value.int .i64))[j]? = some v → w1.cell? ((⟨b, off, none⟩ : Addr).add j) = some v := by
  intro j v h
  have hj : j < zs.length := by
    have := (List.getElem?_eq_some_iff.1 h).1; simpa using this
  have e : v = .int .i64 (zs[j]?.getD 0) := by simp [hj] at h ⊢; exact h.symm
  have ea : (⟨b, off, none⟩ : Addr).add j = ⟨b, off + j, none⟩ := by simp [Addr.add]
  rw [ea, e, ← hc j hj]
  exact hB.cell (p := ⟨b, off + j, none⟩) hb
theorem copy_row {w1 : World} {g n cap : Nat} {ad : Addr} {cur : List Value} {zs : List Int} (hcur : w1.heap[g]? = some (.cells cur.toArray 3 (0, 0))) (hcl : cur.length = zs.length) (hsrc : ∀ j v, (zs.map (Value.int .i64))[j]? = some v → w1.cell? (ad.add j) = some v) :
    (Builtin.copy_ #[24, 24] 3 #[.slice (some ⟨g, 0, none⟩) zs.length n, .slice (some ad) zs.length cap]).run Try.prog w1 = .ok (goInt zs.length) (w1.setRow g (zs.map (Value.int .i64)).toArray) := by
  have h := run_copy_row (P := Try.prog) w1 24 24 3 3 g 0 zs.length n ad zs.length cap cur.toArray 3 (zs.map (Value.int .i64)) Try.underlying24 Try.size3 hcur (by simp) hsrc (by simp [hcl]) (by intro v hv; obtain ⟨z, _, rfl⟩ := List.mem_map.1 hv; rfl)
  rw [h]
  have e : cur.drop zs.length = [] := List.drop_eq_nil_of_le (by omega)
  simp [e]
theorem own_of_row {w : World} {g base : Nat} {zs : List Int} {cur : List Value} (hg : w.heap[g]? = some (.cells cur.toArray 3 (0, 0))) (hb : base ≤ g) (hl : zs.length ≤ 1048576) : OwnI base (w.setRow g (zs.map (Value.int .i64)).toArray) g zs := by
  refine ⟨by simp, .inr ⟨g, zs.length, (zs.map (Value.int .i64)).toArray, rfl, hb, ?_, Nat.le_refl _, by unfold maxLen; omega, by simp, by simp [List.take_of_length_le]⟩⟩
  exact setRow_heap w g _ _ 3 _ hg

set_option maxHeartbeats 1000000 in
theorem copyListI_any (ao : Option Addr) (cap : Nat) (zs : List Int) (w : World) (hl : zs.length ≤ 1048576) (hz : IntsIn w.heap.size w ao zs) :
    Calls Try.prog 40 #[.slice ao zs.length cap] w fun e w' => (∃ go, e = .returned (.slice go zs.length zs.length) ∧ OwnIo w.heap.size w' go zs) ∧ Below w.heap.size w w' := by
  by_cases h0 : zs.length = 0
  · obtain rfl : zs = [] := List.length_eq_zero_iff.1 h0
    go_enter Try.func40, Try.ntmps40
    go_wp2
    go_ret
    exact ⟨⟨none, rfl, .inl ⟨rfl, rfl⟩⟩, Below.refl _ _⟩
  · have h0' : ((zs.length : Int) == 0) = false := by simp; intro h; apply h0; simp [h]
    obtain ⟨b, off, rfl, hb, hc⟩ := hz.pos (k := 0) (by omega)
    obtain ⟨i0, hi, hz0, hz1, hz2⟩ := info_parts Try.info3
    go_enter Try.func40, Try.ntmps40
    go_wp2_with (at_make; refine wpList_make_full _ rfl _ _ 24 rfl w.heap.size 3 i0 (.int .i64 0) 1 Try.underlying24 hi hz0 hz1 .i64 .i64 _ _ zs.length rfl rfl rfl rfl (by rw [hz2]; omega) (by unfold maxLen; omega) (Nat.le_refl _) ?_; intro w1 hown hgrow; obtain ⟨cur, hcur, hcl, _⟩ := owns_open hown; have hB1 : Below w.heap.size w w1 := (Below.refl _ _).grown hgrow (Nat.le_refl _) (fun k e => by cases e); have hrun := copy_row (n := zs.length) (cap := cap) hcur (by omega) (ints_src hB1 hb hc); have HC := show Hid (w1.heap[w.heap.size]? = some (.cells cur.toArray 3 (0, 0))) from hcur; clear hown hgrow hcur)
    go_ret
    exact ⟨⟨_, rfl, .inr ⟨w.heap.size, rfl, own_of_row HC.out (Nat.le_refl _) hl⟩⟩, below_setRow hB1 (Nat.le_refl _) _⟩

theorem OwnIo.base {base base' : Nat} {W : World} {go : Option Addr} {zs : List Int} (h : OwnIo base W go zs) (hb : base' ≤ base) : OwnIo base' W go zs := by
  rcases h with h | ⟨g, e, h⟩
  · exact .inl h
  · exact .inr ⟨g, e, ownsRow_base h (Nat.le_trans hb (owns_lt h).1)⟩
theorem OwnIo.setBelow {base : Nat} {W : World} {go : Option Addr} {zs : List Int} (h : OwnIo base W go zs) {a : Addr} (ha : a.block < base) (u : Value) : OwnIo base (W.setCell a u) go zs := by
  rcases h with h | ⟨g, e, h⟩
  · exact .inl h
  · exact .inr ⟨g, e, ownsRow_setCell_below h ha u⟩

set_option maxHeartbeats 1000000 in
theorem queueOfI_any (ao : Option Addr) (cap : Nat) (zs : List Int) (w : World) (hl : zs.length ≤ 1048576) (hz : IntsIn w.heap.size w ao zs) :
    Calls Try.prog 19 #[.slice ao zs.length cap] w fun e w' => (∃ go, e = .returned (.agg #[.slice go zs.length zs.length]) ∧ OwnIo w.heap.size w' go zs) ∧ Below w.heap.size w w' := by
  go_enter Try.func19, Try.ntmps19
  go_wp2_with fail
  refine (copyListI_any ao cap zs _ hl (hz.later (below1 _ _))).mono ?_
  rintro e w1 ⟨⟨go, rfl, hO⟩, hb1⟩
  have hB1 := (below1 w (.cells #[.slice none 0 0] 50)).trans (hb1.mono (by simp))
  have c1 : w1.cell? ⟨w.heap.size, 0, none⟩ = some (.slice none 0 0) := (hb1.cell (p := ⟨w.heap.size, 0, none⟩) (by simp)).trans (by simp [go_sem])
  have f1 : w1.frozen? ⟨w.heap.size, 0, none⟩ = false := (hb1.frozen (p := ⟨w.heap.size, 0, none⟩) (by simp)).trans (by simp [go_sem])
  have HO : Hid (OwnIo (w.heap.size + 1) w1 go zs) := by rw [World.size_alloc] at hO; exact hO
  clear hO hb1
  go_wp2
  refine bodyPost_ret (v := .agg #[.slice go zs.length zs.length]) (by simp [results, Try.results19, go_sem, c1]) rfl ⟨⟨go, rfl, ?_⟩, ?_⟩
  · exact (HO.out.setBelow (by simp) _).base (by omega)
  · exact hB1.setCell (p := ⟨w.heap.size, 0, none⟩) (Nat.le_refl _) _

set_option maxHeartbeats 1000000 in
theorem all_any (v : Value) (hv : ∃ a n c, v = .slice a n c) (w : World) :
    Calls Try.prog 21 #[.agg #[v]] w fun e w' => e = .returned (.func (.func 41) #[] #[.pointer (some ⟨w.heap.size, 0, none⟩)]) ∧ w' = w.alloc (.cells #[v] 50) := by
  obtain ⟨a, n, c, rfl⟩ := hv
  go_enter Try.func21, Try.ntmps21
  go_wp2
  go_ret
  exact ⟨rfl, rfl⟩

set_option maxHeartbeats 1000000 in
theorem hasTask_yes (ao : Option Addr) (n cap : Nat) (qv : Value) (id : Int) (w : World) (_hn : n ≤ 1048576) (hq : ∃ a m c, qv = .slice a m c) (h0 : 0 ≤ id) (h1 : id < n) :
    Calls Try.prog 45 #[.agg #[.slice ao n cap, qv], .int .i64 id] w fun e w' => e = .returned (.bool true) ∧ Below w.heap.size w w' := by
  obtain ⟨a, m, c, rfl⟩ := hq
  go_enter Try.func45, Try.ntmps45
  go_wp2
  go_ret
  exact ⟨ret_bool (by simp), below1 _ _⟩

set_option maxHeartbeats 1000000 in
theorem hasTask_no (ao : Option Addr) (n cap : Nat) (qv : Value) (id : Int) (w : World) (hn : n ≤ 1048576) (hq : ∃ a m c, qv = .slice a m c) (h : id < 0 ∨ (n : Int) ≤ id) :
    Calls Try.prog 45 #[.agg #[.slice ao n cap, qv], .int .i64 id] w fun e w' => e = .returned (.bool false) ∧ Below w.heap.size w w' := by
  obtain ⟨a, m, c, rfl⟩ := hq
  rcases h with h | h
  · have h' : decide (0 ≤ id) = false := by simpa using h
    go_enter Try.func45, Try.ntmps45
    go_wp2
    go_ret
    exact ⟨rfl, below1 _ _⟩
  · have h0 : 0 ≤ id := by omega
    go_enter Try.func45, Try.ntmps45
    go_wp2
    go_ret
    exact ⟨ret_bool (by simp; omega), below1 _ _⟩
end Go.Proofs.Ytgbnbnjfaffaiaa.Old
