/- Contracts of the copies that the laws make. No conditions but those written. -/
import Derived.Test.YtemmjkmaiedadaaWb
namespace Go.Proofs.Ytemmjkmaiedadaa
open Go.RowKit

theorem Try.info3 : (Try.prog.info? 3).map (fun i => (i.zero, i.size, i.bytes)) = some (some (.int .i64 0), 1, 8) := by kernel_rfl
theorem Try.info47 : (Try.prog.info? 47).map (fun i => (i.zero, i.size, i.bytes)) = some (some (.agg #[.int .i64 0, .int .i64 0]), 2, 16) := by kernel_rfl

theorem ownsRow_below {w w' : World} {base : Nat} {e : TypeId} {size : Nat} {v : Value} {n : Nat} {xs : List Value} (h : w.ownsRow base e size v n xs) (hb : Below w.heap.size w w') : w'.ownsRow base e size v n xs := by
  obtain ⟨h1, h2⟩ := h
  refine ⟨h1, ?_⟩
  rcases h2 with h2 | ⟨g, cap, cur, hv, hg, hh, r⟩
  · exact Or.inl h2
  · have hlt : g < w.heap.size := (Array.getElem?_eq_some_iff.1 hh).1
    exact Or.inr ⟨g, cap, cur, hv, hg, by rw [hb.block g hlt]; exact hh, r⟩

set_option maxHeartbeats 1000000 in
theorem toIntS_any (ao : Option Addr) (cap : Nat) (zs : List Int) (w : World) (hl : zs.length ≤ 1048576) (hz : IntsIn w.heap.size w ao zs) :
    Calls Try.prog 40 #[.slice ao zs.length cap] w fun e w' => e = .returned (.slice (some ⟨w.heap.size, 0, none⟩) zs.length zs.length) ∧ w'.ownsRow w.heap.size 3 1 (.slice (some ⟨w.heap.size, 0, none⟩) zs.length zs.length) zs.length (zs.map (Value.int .i64)) ∧ Below w.heap.size w w' := by
  obtain ⟨i0, hi, hz0, hz1, hz2⟩ := info_parts Try.info3
  go_enter Try.func40, Try.ntmps40
  go_wp2_with (at_make; refine wpList_make_full _ rfl _ _ 23 rfl w.heap.size 3 i0 (.int .i64 0) 1 Try.underlying23 hi hz0 hz1 .i64 .i64 _ _ zs.length rfl rfl rfl rfl (by rw [hz2]; omega) (by unfold maxLen; omega) (Nat.le_refl _) ?_; intro w1 hown hgrow)
  have hB1 : Below w.heap.size w w1 := (Below.refl _ _).grown hgrow (Nat.le_refl _) (fun k e => by cases e)
  have HO : Hid (w1.ownsRow w.heap.size 3 1 (.slice (some ⟨w.heap.size, 0, none⟩) zs.length zs.length) zs.length (madeCells (Value.int IntKind.i64 0).cells (zs.length * 1)).toList) := hown
  clear hown hgrow
  go_loopw [4] (fun i wr => ∃ (k : Nat) (xs : List Value), k ≤ zs.length ∧ i = .int .i64 k ∧ Hid (wr.ownsRow w.heap.size 3 1 (.slice (some ⟨w.heap.size, 0, none⟩) zs.length zs.length) zs.length xs ∧ ∀ j, j < k → xs[j]? = some (.int .i64 (zs[j]?.getD 0))) ∧ Below w.heap.size w wr) (fun i _ => zs.length - (intOf i).toNat)
  case atStart => exact ⟨0, _, Nat.zero_le _, rfl, ⟨HO.out, fun j hj => by omega⟩, hB1⟩
  case round =>
    obtain ⟨k, xs, hk, rfl, ho, hnx⟩ := hrel
    by_cases hlt : k < zs.length
    · obtain ⟨b, off, rfl, hb, hc⟩ := hz.pos hlt
      have hck := (hnx.cell (p := ⟨b, off + k, none⟩) hb).trans (hc k hlt)
      clear hc hz
      obtain ⟨x, hx⟩ : ∃ x, x = zs[k]?.getD 0 := ⟨_, rfl⟩
      rw [← hx] at hck
      have HX : Hid (x = zs[k]?.getD 0) := hx
      clear hx
      have hxl : k < xs.length := by rw [ho.out.1.1]; omega
      have hst : wr.cell? ⟨w.heap.size, k, none⟩ = some xs[k] := (ho.out.1.cellAt k (by omega)).trans (by simp [hxl])
      have hfr : wr.frozen? ⟨w.heap.size, k, none⟩ = false := ho.out.1.frozenAt k
      go_wp2
      go_roundw
      case rel => exact ⟨k + 1, xs.set k (.int .i64 x), by omega, by go_num, ⟨(ho.out.1.stored k _).1, fun j hj => by
          rw [List.getElem?_set]
          rcases Nat.lt_succ_iff_lt_or_eq.1 hj with h | rfl
          · rw [if_neg (by omega)]; exact ho.out.2 j h
          · rw [if_pos rfl, if_pos hxl, HX.out]⟩, hnx.setCell (Nat.le_refl _) _⟩
      case measure => simp [intOf]; omega
    · obtain rfl : k = zs.length := by omega
      have hxs : xs = zs.map (Value.int .i64) := by
        apply List.ext_getElem?
        intro j
        by_cases hj : j < zs.length
        · rw [ho.out.2 j hj]; simp [hj]
        · have e1 : xs.length = zs.length := by rw [ho.out.1.1]; omega
          rw [List.getElem?_eq_none (by omega), List.getElem?_eq_none (by simp; omega)]
      subst hxs
      go_wp2
      go_ret
      exact ⟨rfl, ho.out.1, hnx⟩

set_option maxHeartbeats 1000000 in
theorem toTaskS_any (ao : Option Addr) (cap : Nat) (ts : List (Int × Int)) (w : World) (hl : ts.length ≤ 1048576) (hz : TasksIn w.heap.size w ao ts) :
    Calls Try.prog 39 #[.slice ao ts.length cap] w fun e w' => e = .returned (.slice (some ⟨w.heap.size, 0, none⟩) ts.length ts.length) ∧
      (∃ xs, w'.ownsRow w.heap.size 47 2 (.slice (some ⟨w.heap.size, 0, none⟩) ts.length ts.length) ts.length xs ∧ ∀ j, j < ts.length → xs[j * 2]? = some (.int .i64 (ts[j]?.getD (0, 0)).1) ∧ xs[j * 2 + 1]? = some (.int .i64 (ts[j]?.getD (0, 0)).2)) ∧ Below w.heap.size w w' := by
  obtain ⟨i0, hi, hz0, hz1, hz2⟩ := info_parts Try.info47
  go_enter Try.func39, Try.ntmps39
  go_wp2_with (at_make; refine wpList_make_full _ rfl _ _ 28 rfl w.heap.size 47 i0 (.agg #[.int .i64 0, .int .i64 0]) 2 Try.underlying28 hi hz0 hz1 .i64 .i64 _ _ ts.length rfl rfl rfl rfl (by rw [hz2]; omega) (by unfold maxLen; omega) (Nat.le_refl _) ?_; intro w1 hown hgrow)
  have hB1 : Below w.heap.size w w1 := (Below.refl _ _).grown hgrow (Nat.le_refl _) (fun k e => by cases e)
  have HO := show Hid _ from hown
  clear hown hgrow
  go_loopw [4] (fun i wr => ∃ (k : Nat) (xs : List Value), k ≤ ts.length ∧ i = .int .i64 k ∧ Hid (wr.ownsRow w.heap.size 47 2 (.slice (some ⟨w.heap.size, 0, none⟩) ts.length ts.length) ts.length xs ∧ ∀ j, j < k → xs[j * 2]? = some (.int .i64 (ts[j]?.getD (0, 0)).1) ∧ xs[j * 2 + 1]? = some (.int .i64 (ts[j]?.getD (0, 0)).2)) ∧ Below w.heap.size w wr) (fun i _ => ts.length - (intOf i).toNat)
  case atStart => exact ⟨0, _, Nat.zero_le _, rfl, ⟨HO.out, fun j hj => by omega⟩, hB1⟩
  case round =>
    obtain ⟨k, xs, hk, rfl, ho, hnx⟩ := hrel
    by_cases hlt : k < ts.length
    · obtain ⟨b, off, rfl, hb, hc⟩ := hz.pos hlt
      have hck1 := (hnx.cell (p := ⟨b, off + k * 2, none⟩) hb).trans (hc k hlt).1
      have hck2 := (hnx.cell (p := ⟨b, off + k * 2 + 1, none⟩) hb).trans (hc k hlt).2
      clear hc hz
      obtain ⟨s, hs⟩ : ∃ s, s = (ts[k]?.getD (0, 0)).1 := ⟨_, rfl⟩
      obtain ⟨p, hp⟩ : ∃ p, p = (ts[k]?.getD (0, 0)).2 := ⟨_, rfl⟩
      rw [← hs] at hck1
      rw [← hp] at hck2
      have HS : Hid (s = (ts[k]?.getD (0, 0)).1) := hs
      have HP : Hid (p = (ts[k]?.getD (0, 0)).2) := hp
      clear hs hp
      go_wp2_with fail
      refine (toTask_any s p _).mono ?_
      rintro e w2 ⟨rfl, hb2⟩
      have hxl : k * 2 + 1 < xs.length := by rw [ho.out.1.1]; omega
      have ho2 := ownsRow_below ho.out.1 hb2
      have hnb : Below w.heap.size w w2 := hnx.trans (hb2.mono hnx.size)
      have HO2 : Hid (w2.ownsRow w.heap.size 47 2 (.slice (some ⟨w.heap.size, 0, none⟩) ts.length ts.length) ts.length xs) := ho2
      have hst1 : w2.cell? ⟨w.heap.size, k * 2, none⟩ = some xs[k * 2] := (ho2.cellAt (k * 2) (by omega)).trans (by simp)
      have hst2 : w2.cell? ⟨w.heap.size, k * 2 + 1, none⟩ = some xs[k * 2 + 1] := (ho2.cellAt (k * 2 + 1) (by omega)).trans (by simp [hxl])
      have hfr1 : w2.frozen? ⟨w.heap.size, k * 2, none⟩ = false := ho2.frozenAt (k * 2)
      have hfr2 : w2.frozen? ⟨w.heap.size, k * 2 + 1, none⟩ = false := ho2.frozenAt (k * 2 + 1)
      clear ho2
      go_wp2
      go_roundw
      case rel => exact ⟨k + 1, (xs.set (k * 2) (.int .i64 s)).set (k * 2 + 1) (.int .i64 p), by omega, by go_num, ⟨((World.ownsRow.stored HO2.out (k * 2) _).1.stored (k * 2 + 1) _).1, fun j hj => by
          simp only [List.getElem?_set, List.length_set]
          rcases Nat.lt_succ_iff_lt_or_eq.1 hj with h | rfl
          · rw [if_neg (by omega), if_neg (by omega), if_neg (by omega), if_neg (by omega)]; exact ho.out.2 j h
          · rw [if_neg (by omega), if_pos rfl, if_pos (by omega), if_pos rfl, if_pos hxl, HS.out, HP.out]; exact ⟨rfl, rfl⟩⟩, (hnb.setCell (p := ⟨w.heap.size, k * 2, none⟩) (Nat.le_refl _) _).setCell (p := ⟨w.heap.size, k * 2 + 1, none⟩) (Nat.le_refl _) _⟩
      case measure => simp [intOf]; omega
    · obtain rfl : k = ts.length := by omega
      go_wp2
      go_ret
      exact ⟨rfl, ⟨xs, ho.out⟩, hnx⟩

/-- Block g, from base on, is a row of the ints zs. -/
def OwnI (base : Nat) (W : World) (g : Nat) (zs : List Int) : Prop := W.ownsRow base 3 1 (.slice (some ⟨g, 0, none⟩) zs.length zs.length) zs.length (zs.map (Value.int .i64))
/-- Block g, from base on, is a row of the tasks ts. -/
def OwnT (base : Nat) (W : World) (g : Nat) (ts : List (Int × Int)) : Prop :=
  ∃ xs, W.ownsRow base 47 2 (.slice (some ⟨g, 0, none⟩) ts.length ts.length) ts.length xs ∧ ∀ j, j < ts.length → xs[j * 2]? = some (.int .i64 (ts[j]?.getD (0, 0)).1) ∧ xs[j * 2 + 1]? = some (.int .i64 (ts[j]?.getD (0, 0)).2)
theorem owns_lt {W : World} {base e size g n cap : Nat} {xs : List Value} (h : W.ownsRow base e size (.slice (some ⟨g, 0, none⟩) n cap) n xs) : base ≤ g ∧ g < W.heap.size := by
  rcases h.2 with ⟨h', _⟩ | ⟨g', cap', cur, h', hb, hg, _⟩
  · simp at h'
  · simp only [Value.slice.injEq, Option.some.injEq, Addr.mk.injEq, and_true, true_and] at h'
    obtain ⟨rfl, rfl⟩ := h'
    exact ⟨hb, (Array.getElem?_eq_some_iff.1 hg).1⟩
theorem OwnI.ints {base : Nat} {W : World} {g : Nat} {zs : List Int} (h : OwnI base W g zs) : IntsIn W.heap.size W (some ⟨g, 0, none⟩) zs :=
  .inr ⟨g, 0, rfl, (owns_lt h).2, fun j hj => by rw [Nat.zero_add, h.cellAt j (by omega)]; simp [hj]⟩
theorem OwnT.tasks {base : Nat} {W : World} {g : Nat} {ts : List (Int × Int)} (h : OwnT base W g ts) : TasksIn W.heap.size W (some ⟨g, 0, none⟩) ts := by
  obtain ⟨xs, ho, hp⟩ := h
  refine .inr ⟨g, 0, rfl, (owns_lt ho).2, fun j hj => ⟨?_, ?_⟩⟩
  · rw [Nat.zero_add, ho.cellAt (j * 2) (by omega)]; exact (hp j hj).1
  · rw [Nat.zero_add, ho.cellAt (j * 2 + 1) (by omega)]; exact (hp j hj).2
theorem OwnI.below {base : Nat} {W W' : World} {g : Nat} {zs : List Int} (h : OwnI base W g zs) (hb : Below W.heap.size W W') : OwnI base W' g zs := ownsRow_below h hb
theorem OwnT.below {base : Nat} {W W' : World} {g : Nat} {ts : List (Int × Int)} (h : OwnT base W g ts) (hb : Below W.heap.size W W') : OwnT base W' g ts := by
  obtain ⟨xs, ho, hp⟩ := h
  exact ⟨xs, ownsRow_below ho hb, hp⟩
theorem IntsIn.later {W W' : World} {ao : Option Addr} {zs : List Int} (h : IntsIn W.heap.size W ao zs) (hb : Below W.heap.size W W') : IntsIn W'.heap.size W' ao zs := by
  rcases h.below hb with h | ⟨b, off, e, hn, hc⟩
  · exact .inl h
  · exact .inr ⟨b, off, e, Nat.lt_of_lt_of_le hn hb.size, hc⟩
theorem TasksIn.later {W W' : World} {ao : Option Addr} {ts : List (Int × Int)} (h : TasksIn W.heap.size W ao ts) (hb : Below W.heap.size W W') : TasksIn W'.heap.size W' ao ts := by
  rcases h.below hb with h | ⟨b, off, e, hn, hc⟩
  · exact .inl h
  · exact .inr ⟨b, off, e, Nat.lt_of_lt_of_le hn hb.size, hc⟩
theorem ownsRow_base {w : World} {base base' : Nat} {e : TypeId} {size : Nat} {g n cap : Nat} {xs : List Value} (h : w.ownsRow base e size (.slice (some ⟨g, 0, none⟩) n cap) n xs) (hg : base' ≤ g) : w.ownsRow base' e size (.slice (some ⟨g, 0, none⟩) n cap) n xs := by
  obtain ⟨h1, h2⟩ := h
  refine ⟨h1, ?_⟩
  rcases h2 with ⟨h', _⟩ | ⟨g', cap', cur, h', r⟩
  · simp at h'
  · have h'' := h'
    simp only [Value.slice.injEq, Option.some.injEq, Addr.mk.injEq, and_true, true_and] at h''
    obtain ⟨rfl, rfl⟩ := h''
    exact Or.inr ⟨g, cap, cur, h', hg, r.2⟩

set_option maxHeartbeats 1000000 in
theorem toBoard_any (ao : Option Addr) (cap : Nat) (ts : List (Int × Int)) (qo : Option Addr) (qcap : Nat) (q : List Int) (w : World) (hl : ts.length ≤ 1048576) (hlq : q.length ≤ 1048576) (hz : TasksIn w.heap.size w ao ts) (hq : IntsIn w.heap.size w qo q) :
    Calls Try.prog 14 #[.agg #[.slice ao ts.length cap, .slice qo q.length qcap]] w fun e w' => ∃ gt gq, e = .returned (.agg #[.slice (some ⟨gt, 0, none⟩) ts.length ts.length, .slice (some ⟨gq, 0, none⟩) q.length q.length]) ∧ gt < gq ∧ OwnT w.heap.size w' gt ts ∧ OwnI w.heap.size w' gq q ∧ Below w.heap.size w w' := by
  go_enter Try.func14, Try.ntmps14
  go_wp2_with fail
  refine (toTaskS_any ao cap ts _ hl (hz.later (below3 _ _ _ _))).mono ?_
  rintro e w1 ⟨rfl, hT, hb1⟩
  have hB1 := (below3 w (Obj.cells #[Value.slice ao ts.length cap, Value.slice qo q.length qcap] 25) (Obj.cells #[Value.slice none 0 0, Value.slice none 0 0] 30) (Obj.cells #[Value.slice none 0 0, Value.slice none 0 0] 30)).trans (hb1.mono (by simp; omega))
  have hs1 := hb1.size
  simp only [World.size_alloc] at hs1 hb1 hT
  have c1 : w1.cell? ⟨w.heap.size, 1, none⟩ = some (.slice qo q.length qcap) := (hb1.cell (p := ⟨w.heap.size, 1, none⟩) (by simp; omega)).trans (by simp [go_sem])
  have c2 : w1.cell? ⟨w.heap.size + 1 + 1, 0, none⟩ = some (.slice none 0 0) := (hb1.cell (p := ⟨w.heap.size + 1 + 1, 0, none⟩) (by simp)).trans (by simp [go_sem])
  have c3 : w1.cell? ⟨w.heap.size + 1 + 1, 1, none⟩ = some (.slice none 0 0) := (hb1.cell (p := ⟨w.heap.size + 1 + 1, 1, none⟩) (by simp)).trans (by simp [go_sem])
  have c4 : w1.cell? ⟨w.heap.size + 1, 0, none⟩ = some (.slice none 0 0) := (hb1.cell (p := ⟨w.heap.size + 1, 0, none⟩) (by simp)).trans (by simp [go_sem])
  have c5 : w1.cell? ⟨w.heap.size + 1, 1, none⟩ = some (.slice none 0 0) := (hb1.cell (p := ⟨w.heap.size + 1, 1, none⟩) (by simp)).trans (by simp [go_sem])
  have f2 : w1.frozen? ⟨w.heap.size + 1 + 1, 0, none⟩ = false := (hb1.frozen (p := ⟨w.heap.size + 1 + 1, 0, none⟩) (by simp)).trans (by simp [go_sem])
  have f3 : w1.frozen? ⟨w.heap.size + 1 + 1, 1, none⟩ = false := (hb1.frozen (p := ⟨w.heap.size + 1 + 1, 1, none⟩) (by simp)).trans (by simp [go_sem])
  have f4 : w1.frozen? ⟨w.heap.size + 1, 0, none⟩ = false := (hb1.frozen (p := ⟨w.heap.size + 1, 0, none⟩) (by simp)).trans (by simp [go_sem])
  have f5 : w1.frozen? ⟨w.heap.size + 1, 1, none⟩ = false := (hb1.frozen (p := ⟨w.heap.size + 1, 1, none⟩) (by simp)).trans (by simp [go_sem])
  have HT : Hid (OwnT (w.heap.size + 1 + 1 + 1) w1 (w.heap.size + 1 + 1 + 1) ts) := hT
  have hgt : w.heap.size + 1 + 1 + 1 < w1.heap.size := by obtain ⟨xs, ho, _⟩ := hT; exact (owns_lt ho).2
  clear hT hb1
  go_wp2_with fail
  obtain ⟨W2, hW2⟩ : ∃ W2, W2 = w1.setCell ⟨w.heap.size + 1 + 1, 0, none⟩ (.slice (some ⟨w.heap.size + 1 + 1 + 1, 0, none⟩) ts.length ts.length) := ⟨_, rfl⟩
  rw [← hW2]
  have hs2 : W2.heap.size = w1.heap.size := by rw [hW2]; simp
  have hB2 : Below w.heap.size w W2 := by rw [hW2]; exact hB1.setCell (p := ⟨w.heap.size + 1 + 1, 0, none⟩) (by simp; omega) _
  have d2 : W2.cell? ⟨w.heap.size + 1 + 1, 0, none⟩ = some (.slice (some ⟨w.heap.size + 1 + 1 + 1, 0, none⟩) ts.length ts.length) := by rw [hW2]; exact World.cell?_setCell_same' _ _ _ (by rw [c2]; rfl)
  have d3 : W2.cell? ⟨w.heap.size + 1 + 1, 1, none⟩ = some (.slice none 0 0) := by rw [hW2]; simp [go_sem, c3]
  have d4 : W2.cell? ⟨w.heap.size + 1, 0, none⟩ = some (.slice none 0 0) := by rw [hW2]; simp [go_sem, c4]
  have d5 : W2.cell? ⟨w.heap.size + 1, 1, none⟩ = some (.slice none 0 0) := by rw [hW2]; simp [go_sem, c5]
  have e3 : W2.frozen? ⟨w.heap.size + 1 + 1, 1, none⟩ = false := by rw [hW2]; simp [go_sem, f3]
  have e4 : W2.frozen? ⟨w.heap.size + 1, 0, none⟩ = false := by rw [hW2]; simp [go_sem, f4]
  have e5 : W2.frozen? ⟨w.heap.size + 1, 1, none⟩ = false := by rw [hW2]; simp [go_sem, f5]
  have HT2 : Hid (OwnT (w.heap.size + 1 + 1 + 1) W2 (w.heap.size + 1 + 1 + 1) ts) := by
    rw [hW2]; obtain ⟨xs, ho, hp⟩ := HT.out
    exact ⟨xs, ownsRow_setCell_below ho (by simp) _, hp⟩
  clear hW2 c1 c2 c3 c4 c5 f2 f3 f4 f5 HT hB1
  refine (toIntS_any qo qcap q W2 hlq (hq.later hB2)).mono ?_
  rintro e w3 ⟨rfl, hI, hb3⟩
  have HI : Hid (OwnI W2.heap.size w3 W2.heap.size q) := hI
  clear hI
  have HT3 : Hid (OwnT (w.heap.size + 1 + 1 + 1) w3 (w.heap.size + 1 + 1 + 1) ts) := HT2.out.below hb3
  have g2 : w3.cell? ⟨w.heap.size + 1 + 1, 0, none⟩ = some (.slice (some ⟨w.heap.size + 1 + 1 + 1, 0, none⟩) ts.length ts.length) := (hb3.cell (p := ⟨w.heap.size + 1 + 1, 0, none⟩) (by simp; omega)).trans d2
  have g3 : w3.cell? ⟨w.heap.size + 1 + 1, 1, none⟩ = some (.slice none 0 0) := (hb3.cell (p := ⟨w.heap.size + 1 + 1, 1, none⟩) (by simp; omega)).trans d3
  have g4 : w3.cell? ⟨w.heap.size + 1, 0, none⟩ = some (.slice none 0 0) := (hb3.cell (p := ⟨w.heap.size + 1, 0, none⟩) (by simp; omega)).trans d4
  have g5 : w3.cell? ⟨w.heap.size + 1, 1, none⟩ = some (.slice none 0 0) := (hb3.cell (p := ⟨w.heap.size + 1, 1, none⟩) (by simp; omega)).trans d5
  have i3 : w3.frozen? ⟨w.heap.size + 1 + 1, 1, none⟩ = false := (hb3.frozen (p := ⟨w.heap.size + 1 + 1, 1, none⟩) (by simp; omega)).trans e3
  have i4 : w3.frozen? ⟨w.heap.size + 1, 0, none⟩ = false := (hb3.frozen (p := ⟨w.heap.size + 1, 0, none⟩) (by simp; omega)).trans e4
  have i5 : w3.frozen? ⟨w.heap.size + 1, 1, none⟩ = false := (hb3.frozen (p := ⟨w.heap.size + 1, 1, none⟩) (by simp; omega)).trans e5
  have hB3 : Below w.heap.size w w3 := hB2.trans (hb3.mono (by omega))
  clear d2 d3 d4 d5 e3 e4 e5 HT2 hb3 hB2
  have HI' : Hid (OwnI w1.heap.size w3 w1.heap.size q) := by rw [← hs2]; exact HI.out
  clear HI
  go_wp2
  refine bodyPost_ret (v := .agg #[.slice (some ⟨w.heap.size + 1 + 1 + 1, 0, none⟩) ts.length ts.length, .slice (some ⟨w1.heap.size, 0, none⟩) q.length q.length]) (by simp [results, Try.results14, go_sem, g4, g5]) rfl ⟨_, _, rfl, ?_, ?_, ?_, ?_⟩
  · exact hgt
  · obtain ⟨xs, ho, hp⟩ := HT3.out
    exact ⟨xs, ownsRow_base (ownsRow_setCell_below (ownsRow_setCell_below (ownsRow_setCell_below ho (by simp) _) (by simp) _) (by simp) _) (by omega), hp⟩
  · have ho : w3.ownsRow w1.heap.size 3 1 (.slice (some ⟨w1.heap.size, 0, none⟩) q.length q.length) q.length (q.map (Value.int .i64)) := HI'.out
    exact ownsRow_base (ownsRow_setCell_below (ownsRow_setCell_below (ownsRow_setCell_below ho (by simp; omega) _) (by simp; omega) _) (by simp; omega) _) (by omega)
  · exact ((hB3.setCell (p := ⟨w.heap.size + 1 + 1, 1, none⟩) (by simp; omega) _).setCell (p := ⟨w.heap.size + 1, 0, none⟩) (by simp) _).setCell (p := ⟨w.heap.size + 1, 1, none⟩) (by simp) _
end Go.Proofs.Ytemmjkmaiedadaa
