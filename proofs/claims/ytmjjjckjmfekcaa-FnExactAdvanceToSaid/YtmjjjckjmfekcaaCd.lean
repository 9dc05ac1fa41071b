/- Contracts of the copies that the laws make, and of their comparisons. No conditions but those written. -/
import Derived.Test.YtmjjjckjmfekcaaCa
import Derived.Deep.QuietTactic
import Derived.BigQuiet
import Derived.Deep.RegionWith
import Derived.Laws.CopyOwn
namespace Go.Proofs.Ytmjjjckjmfekcaa
open Go.RowKit

theorem Try.info51 : (Try.prog.info? 51).map (fun i => (i.zero, i.size, i.bytes)) = some (some (.agg #[.int .i64 0, .int .i64 0, .int .i64 0]), 3, 24) := by kernel_rfl
theorem ownsRow_below {w w' : World} {base : Nat} {e : TypeId} {size : Nat} {v : Value} {n : Nat} {xs : List Value} (h : w.ownsRow base e size v n xs) (hb : Below w.heap.size w w') : w'.ownsRow base e size v n xs := by
  obtain ⟨h1, h2⟩ := h
  refine ⟨h1, ?_⟩
  rcases h2 with h2 | ⟨g, cap, cur, hv, hg, hh, r⟩
  · exact Or.inl h2
  · have hlt : g < w.heap.size := (Array.getElem?_eq_some_iff.1 hh).1
    exact Or.inr ⟨g, cap, cur, hv, hg, by rw [hb.block g hlt]; exact hh, r⟩
theorem owns_lt {W : World} {base e size g n cap : Nat} {xs : List Value} (h : W.ownsRow base e size (.slice (some ⟨g, 0, none⟩) n cap) n xs) : base ≤ g ∧ g < W.heap.size := by
  rcases h.2 with ⟨h', _⟩ | ⟨g', cap', cur, h', hb, hg, _⟩
  · simp at h'
  · simp only [Value.slice.injEq, Option.some.injEq, Addr.mk.injEq, and_true, true_and] at h'
    obtain ⟨rfl, rfl⟩ := h'
    exact ⟨hb, (Array.getElem?_eq_some_iff.1 hg).1⟩
theorem ownsRow_base {w : World} {base base' : Nat} {e : TypeId} {size : Nat} {g n cap : Nat} {xs : List Value} (h : w.ownsRow base e size (.slice (some ⟨g, 0, none⟩) n cap) n xs) (hg : base' ≤ g) : w.ownsRow base' e size (.slice (some ⟨g, 0, none⟩) n cap) n xs := by
  obtain ⟨h1, h2⟩ := h
  refine ⟨h1, ?_⟩
  rcases h2 with ⟨h', _⟩ | ⟨g', cap', cur, h', r⟩
  · simp at h'
  · have h'' := h'
    simp only [Value.slice.injEq, Option.some.injEq, Addr.mk.injEq, and_true, true_and] at h''
    obtain ⟨rfl, rfl⟩ := h''
    exact Or.inr ⟨g, cap, cur, h', hg, r.2⟩
theorem owns_block {w w' : World} {base : Nat} {e : TypeId} {size g n cap : Nat} {xs : List Value} (h : w.ownsRow base e size (.slice (some ⟨g, 0, none⟩) n cap) n xs) (hb : w'.heap[g]? = w.heap[g]?) : w'.ownsRow base e size (.slice (some ⟨g, 0, none⟩) n cap) n xs := by
  obtain ⟨h1, h2⟩ := h
  refine ⟨h1, ?_⟩
  rcases h2 with ⟨h', _⟩ | ⟨g', cap', cur, h', hg, hh, r⟩
  · simp at h'
  · have h'' := h'
    simp only [Value.slice.injEq, Option.some.injEq, Addr.mk.injEq, and_true, true_and] at h''
    obtain ⟨rfl, rfl⟩ := h''
    exact Or.inr ⟨g, cap, cur, h', hg, by rw [hb]; exact hh, r⟩

/-- The cells xs are those of the timers ts. -/
def Cells3 (xs : List Value) (ts : List T3) : Prop := ∀ j, j < ts.length → xs[j * 3]? = some (.int .i64 (t3 ts j).1) ∧ xs[j * 3 + 1]? = some (.int .i64 (t3 ts j).2.1) ∧ xs[j * 3 + 2]? = some (.int .i64 (t3 ts j).2.2)
/-- The timers ts lie in a row of their own, in a block from lo on and before hi. -/
def FreshC (lo hi : Nat) (W : World) (to : Option Addr) (tc : Nat) (ts : List T3) : Prop :=
  ts = [] ∨ ∃ g xs, to = some ⟨g, 0, none⟩ ∧ g < hi ∧ W.ownsRow lo 51 3 (.slice (some ⟨g, 0, none⟩) ts.length tc) ts.length xs ∧ Cells3 xs ts
theorem FreshC.timers {lo hi : Nat} {W : World} {to : Option Addr} {tc : Nat} {ts : List T3} (h : FreshC lo hi W to tc ts) : TimersIn W.heap.size W to ts := by
  rcases h with h | ⟨g, xs, rfl, _, ho, hp⟩
  · exact .inl h
  · refine .inr ⟨g, 0, rfl, (owns_lt ho).2, fun j hj => ⟨?_, ?_, ?_⟩⟩
    · rw [Nat.zero_add, ho.cellAt (j * 3) (by omega)]; exact (hp j hj).1
    · rw [Nat.zero_add, ho.cellAt (j * 3 + 1) (by omega)]; exact (hp j hj).2.1
    · rw [Nat.zero_add, ho.cellAt (j * 3 + 2) (by omega)]; exact (hp j hj).2.2
theorem FreshC.keep {lo hi : Nat} {W W' : World} {to : Option Addr} {tc : Nat} {ts : List T3} (h : FreshC lo hi W to tc ts) (hk : ∀ k, lo ≤ k → k < hi → k < W.heap.size → W'.heap[k]? = W.heap[k]?) : FreshC lo hi W' to tc ts := by
  rcases h with h | ⟨g, xs, e, hg, ho, hp⟩
  · exact .inl h
  · exact .inr ⟨g, xs, e, hg, owns_block ho (hk g (owns_lt ho).1 hg (owns_lt ho).2), hp⟩
theorem FreshC.later {lo hi : Nat} {W W' : World} {to : Option Addr} {tc : Nat} {ts : List T3} (h : FreshC lo hi W to tc ts) (hb : Below W.heap.size W W') : FreshC lo hi W' to tc ts := h.keep fun k _ _ hk => hb.block k hk
theorem FreshC.wide {lo hi lo' hi' : Nat} {W : World} {to : Option Addr} {tc : Nat} {ts : List T3} (h : FreshC lo hi W to tc ts) (h1 : lo' ≤ lo) (h2 : hi ≤ hi') : FreshC lo' hi' W to tc ts := by
  rcases h with h | ⟨g, xs, e, hg, ho, hp⟩
  · exact .inl h
  · exact .inr ⟨g, xs, e, by omega, ownsRow_base ho (Nat.le_trans h1 (owns_lt ho).1), hp⟩
theorem FreshC.setBelow {lo hi : Nat} {W : World} {to : Option Addr} {tc : Nat} {ts : List T3} (h : FreshC lo hi W to tc ts) {a : Addr} (ha : a.block < lo) (u : Value) : FreshC lo hi (W.setCell a u) to tc ts := h.keep fun k hk _ _ => Below.heap_setCell W a u k (by omega)
theorem FreshC.cap {lo hi : Nat} {W : World} {to : Option Addr} {tc : Nat} {ts : List T3} (h : FreshC lo hi W to tc ts) : ts.length ≤ tc := by
  rcases h with rfl | ⟨g, xs, rfl, _, ho, hp⟩
  · simp
  · rcases ho.2 with ⟨h', _⟩ | ⟨g', cap', cur, h', hb, hg, h1, _⟩
    · simp at h'
    · simp only [Value.slice.injEq, Option.some.injEq, Addr.mk.injEq, and_true, true_and] at h'
      obtain ⟨rfl, rfl⟩ := h'
      exact h1

set_option maxHeartbeats 1000000 in
theorem toTimerS_any (ao : Option Addr) (cap : Nat) (ts : List T3) (w : World) (hl : ts.length ≤ 1048576) (hz : TimersIn w.heap.size w ao ts) :
    Calls Try.prog 34 #[.slice ao ts.length cap] w fun e w' => e = .returned (.slice (some ⟨w.heap.size, 0, none⟩) ts.length ts.length) ∧ FreshC w.heap.size w'.heap.size w' (some ⟨w.heap.size, 0, none⟩) ts.length ts ∧ Below w.heap.size w w' := by
  obtain ⟨i0, hi, hz0, hz1, hz2⟩ := info_parts Try.info51
  go_enter Try.func34, Try.ntmps34
  go_wp2_with (at_make; refine wpList_make_full _ rfl _ _ 27 rfl w.heap.size 51 i0 (.agg #[.int .i64 0, .int .i64 0, .int .i64 0]) 3 Try.underlying27 hi hz0 hz1 .i64 .i64 _ _ ts.length rfl rfl rfl rfl (by rw [hz2]; omega) (by unfold maxLen; omega) (Nat.le_refl _) ?_; intro w1 hown hgrow)
  have hB1 : Below w.heap.size w w1 := (Below.refl _ _).grown hgrow (Nat.le_refl _) (fun k e => by cases e)
  have HO := show Hid _ from hown
  clear hown hgrow
  go_loopw [4] (fun i wr => ∃ (k : Nat) (xs : List Value), k ≤ ts.length ∧ i = .int .i64 k ∧ Hid (wr.ownsRow w.heap.size 51 3 (.slice (some ⟨w.heap.size, 0, none⟩) ts.length ts.length) ts.length xs ∧ ∀ j, j < k → xs[j * 3]? = some (.int .i64 (t3 ts j).1) ∧ xs[j * 3 + 1]? = some (.int .i64 (t3 ts j).2.1) ∧ xs[j * 3 + 2]? = some (.int .i64 (t3 ts j).2.2)) ∧ Below w.heap.size w wr) (fun i _ => ts.length - (intOf i).toNat)
  case atStart => exact ⟨0, _, Nat.zero_le _, rfl, ⟨HO.out, fun j hj => by omega⟩, hB1⟩
  case round =>
    obtain ⟨k, xs, hk, rfl, ho, hnx⟩ := hrel
    by_cases hlt : k < ts.length
    · obtain ⟨b, off, rfl, hb, hc⟩ := hz.pos hlt
      have d1 := (hnx.cell (p := ⟨b, off + k * 3, none⟩) hb).trans (hc k hlt).1
      have d2 := (hnx.cell (p := ⟨b, off + k * 3 + 1, none⟩) hb).trans (hc k hlt).2.1
      have d3 := (hnx.cell (p := ⟨b, off + k * 3 + 2, none⟩) hb).trans (hc k hlt).2.2
      clear hc hz
      obtain ⟨⟨x1, x2, x3⟩, ex⟩ : ∃ v, v = t3 ts k := ⟨_, rfl⟩
      rw [← ex] at d1 d2 d3
      have HX : Hid (t3 ts k = (x1, x2, x3)) := ex.symm
      clear ex
      dsimp only at d1 d2 d3
      go_wp2_with fail
      refine (toTimer_any x1 x2 x3 _).mono ?_
      rintro e w2 ⟨rfl, hb2⟩
      have hxl : k * 3 + 2 < xs.length := by rw [ho.out.1.1]; omega
      have ho2 := ownsRow_below ho.out.1 hb2
      have hnb : Below w.heap.size w w2 := hnx.trans (hb2.mono hnx.size)
      have HO2 : Hid (w2.ownsRow w.heap.size 51 3 (.slice (some ⟨w.heap.size, 0, none⟩) ts.length ts.length) ts.length xs) := ho2
      have hst1 : w2.cell? ⟨w.heap.size, k * 3, none⟩ = some xs[k * 3] := (ho2.cellAt (k * 3) (by omega)).trans (by simp)
      have hst2 : w2.cell? ⟨w.heap.size, k * 3 + 1, none⟩ = some xs[k * 3 + 1] := (ho2.cellAt (k * 3 + 1) (by omega)).trans (by simp)
      have hst3 : w2.cell? ⟨w.heap.size, k * 3 + 2, none⟩ = some xs[k * 3 + 2] := (ho2.cellAt (k * 3 + 2) (by omega)).trans (by simp [hxl])
      have hfr1 : w2.frozen? ⟨w.heap.size, k * 3, none⟩ = false := ho2.frozenAt (k * 3)
      have hfr2 : w2.frozen? ⟨w.heap.size, k * 3 + 1, none⟩ = false := ho2.frozenAt (k * 3 + 1)
      have hfr3 : w2.frozen? ⟨w.heap.size, k * 3 + 2, none⟩ = false := ho2.frozenAt (k * 3 + 2)
      clear ho2
      go_wp2
      go_roundw
      case rel => exact ⟨k + 1, ((xs.set (k * 3) (.int .i64 x1)).set (k * 3 + 1) (.int .i64 x2)).set (k * 3 + 2) (.int .i64 x3), by omega, by go_num, ⟨(((World.ownsRow.stored HO2.out (k * 3) _).1.stored (k * 3 + 1) _).1.stored (k * 3 + 2) _).1, fun j hj => by
          simp only [List.getElem?_set, List.length_set]
          rcases Nat.lt_succ_iff_lt_or_eq.1 hj with h | rfl
          · rw [if_neg (by omega), if_neg (by omega), if_neg (by omega), if_neg (by omega), if_neg (by omega), if_neg (by omega), if_neg (by omega), if_neg (by omega), if_neg (by omega)]; exact ho.out.2 j h
          · rw [if_neg (by omega), if_neg (by omega), if_pos rfl, if_pos (by omega), if_neg (by omega), if_pos rfl, if_pos (by omega), if_pos rfl, if_pos hxl, HX.out]; exact ⟨rfl, rfl, rfl⟩⟩, ((hnb.setCell (p := ⟨w.heap.size, k * 3, none⟩) (Nat.le_refl _) _).setCell (p := ⟨w.heap.size, k * 3 + 1, none⟩) (Nat.le_refl _) _).setCell (p := ⟨w.heap.size, k * 3 + 2, none⟩) (Nat.le_refl _) _⟩
      case measure => simp [intOf]; omega
    · obtain rfl : k = ts.length := by omega
      go_wp2
      go_ret
      exact ⟨rfl, .inr ⟨w.heap.size, xs, rfl, (owns_lt ho.out.1).2, ho.out⟩, hnx⟩

set_option maxHeartbeats 1000000 in
theorem toClock_any (now sq : Int) (ao : Option Addr) (cap : Nat) (ts : List T3) (w : World) (hl : ts.length ≤ 1048576) (hz : TimersIn w.heap.size w ao ts) :
    Calls Try.prog 12 #[.agg #[.int .i64 now, .int .i64 sq, .slice ao ts.length cap]] w fun e w' => ∃ gt, e = .returned (.agg #[.int .i64 now, .int .i64 sq, .slice (some ⟨gt, 0, none⟩) ts.length ts.length]) ∧ FreshC w.heap.size w'.heap.size w' (some ⟨gt, 0, none⟩) ts.length ts ∧ Below w.heap.size w w' := by
  go_enter Try.func12, Try.ntmps12
  go_wp2_with fail
  obtain ⟨W0, hW0⟩ : ∃ W0, W0 = (((w.alloc (.cells #[.int .i64 now, .int .i64 sq, .slice ao ts.length cap] 24)).alloc (.cells #[.int .i64 0, .int .i64 0, .slice none 0 0] 29)).alloc (.cells #[.int .i64 now, .int .i64 sq, .slice none 0 0] 29)) := ⟨_, rfl⟩
  rw [← hW0]
  have hs0 : W0.heap.size = w.heap.size + 1 + 1 + 1 := by rw [hW0]; simp
  have hB0 : Below w.heap.size w W0 := by rw [hW0]; exact below3 _ _ _ _
  have c0 : W0.cell? ⟨w.heap.size + 1 + 1, 0, none⟩ = some (.int .i64 now) := by rw [hW0]; simp [go_sem]
  have c1 : W0.cell? ⟨w.heap.size + 1 + 1, 1, none⟩ = some (.int .i64 sq) := by rw [hW0]; simp [go_sem]
  have c2 : W0.cell? ⟨w.heap.size + 1 + 1, 2, none⟩ = some (.slice none 0 0) := by rw [hW0]; simp [go_sem]
  have d0 : W0.cell? ⟨w.heap.size + 1, 0, none⟩ = some (.int .i64 0) := by rw [hW0]; simp [go_sem]
  have d1 : W0.cell? ⟨w.heap.size + 1, 1, none⟩ = some (.int .i64 0) := by rw [hW0]; simp [go_sem]
  have d2 : W0.cell? ⟨w.heap.size + 1, 2, none⟩ = some (.slice none 0 0) := by rw [hW0]; simp [go_sem]
  have f2 : W0.frozen? ⟨w.heap.size + 1 + 1, 2, none⟩ = false := by rw [hW0]; simp [go_sem]
  have g0 : W0.frozen? ⟨w.heap.size + 1, 0, none⟩ = false := by rw [hW0]; simp [go_sem]
  have g1 : W0.frozen? ⟨w.heap.size + 1, 1, none⟩ = false := by rw [hW0]; simp [go_sem]
  have g2 : W0.frozen? ⟨w.heap.size + 1, 2, none⟩ = false := by rw [hW0]; simp [go_sem]
  clear hW0
  refine (toTimerS_any ao cap ts _ hl (hz.later hB0)).mono ?_
  rintro e w1 ⟨rfl, hT, hb1⟩
  have hB1 := hB0.trans (hb1.mono hB0.size)
  have l1 : w.heap.size + 1 < W0.heap.size := by omega
  have l2 : w.heap.size + 1 + 1 < W0.heap.size := by omega
  have m0 := (hb1.cell (p := ⟨w.heap.size + 1 + 1, 0, none⟩) l2).trans c0
  have m1 := (hb1.cell (p := ⟨w.heap.size + 1 + 1, 1, none⟩) l2).trans c1
  have m2 := (hb1.cell (p := ⟨w.heap.size + 1 + 1, 2, none⟩) l2).trans c2
  have n0 := (hb1.cell (p := ⟨w.heap.size + 1, 0, none⟩) l1).trans d0
  have n1 := (hb1.cell (p := ⟨w.heap.size + 1, 1, none⟩) l1).trans d1
  have n2 := (hb1.cell (p := ⟨w.heap.size + 1, 2, none⟩) l1).trans d2
  have p2 := (hb1.frozen (p := ⟨w.heap.size + 1 + 1, 2, none⟩) l2).trans f2
  have q0 := (hb1.frozen (p := ⟨w.heap.size + 1, 0, none⟩) l1).trans g0
  have q1 := (hb1.frozen (p := ⟨w.heap.size + 1, 1, none⟩) l1).trans g1
  have q2 := (hb1.frozen (p := ⟨w.heap.size + 1, 2, none⟩) l1).trans g2
  have HT : Hid (FreshC W0.heap.size w1.heap.size w1 (some ⟨W0.heap.size, 0, none⟩) ts.length ts) := hT
  clear hT hb1 c0 c1 c2 d0 d1 d2 f2 g0 g1 g2
  go_wp2
  refine bodyPost_ret (v := .agg #[.int .i64 now, .int .i64 sq, .slice (some ⟨W0.heap.size, 0, none⟩) ts.length ts.length]) (by simp [results, Try.results12, go_sem, n0, n1, n2]) rfl ⟨_, rfl, ?_, ?_⟩
  · exact ((((HT.out.setBelow (a := ⟨w.heap.size + 1 + 1, 2, none⟩) (by simp; omega) _).setBelow (a := ⟨w.heap.size + 1, 0, none⟩) (by simp; omega) _).setBelow (a := ⟨w.heap.size + 1, 1, none⟩) (by simp; omega) _).setBelow (a := ⟨w.heap.size + 1, 2, none⟩) (by simp; omega) _).wide (by omega) (by simp)
  · exact (((hB1.setCell (p := ⟨w.heap.size + 1 + 1, 2, none⟩) (by simp; omega) _).setCell (p := ⟨w.heap.size + 1, 0, none⟩) (by simp) _).setCell (p := ⟨w.heap.size + 1, 1, none⟩) (by simp) _).setCell (p := ⟨w.heap.size + 1, 2, none⟩) (by simp) _

set_option maxHeartbeats 1000000 in
theorem eqTimerS_same (ao bo : Option Addr) (cap cap' : Nat) (ts : List T3) (w : World) (hl : ts.length ≤ 1048576) (hz : TimersIn w.heap.size w ao ts) (hz' : TimersIn w.heap.size w bo ts) :
    Calls Try.prog 36 #[.slice ao ts.length cap, .slice bo ts.length cap'] w fun e w' => e = .returned (.bool true) ∧ Below w.heap.size w w' := by
  have hne : ((ts.length : Int) != (ts.length : Int)) = false := by simp
  go_enter Try.func36, Try.ntmps36
  go_wp2
  go_loopw [5] (fun i wr => ∃ k : Nat, k ≤ ts.length ∧ i = .int .i64 k ∧ Below w.heap.size w wr) (fun i _ => ts.length - (intOf i).toNat)
  case atStart => exact ⟨0, Nat.zero_le _, rfl, Below.refl _ _⟩
  case round =>
    obtain ⟨k, hk, rfl, hnx⟩ := hrel
    by_cases hlt : k < ts.length
    · obtain ⟨b, off, rfl, hb, hc⟩ := hz.pos hlt
      obtain ⟨b', off', rfl, hb', hc'⟩ := hz'.pos hlt
      have hck1 := (hnx.cell (p := ⟨b, off + k * 3, none⟩) hb).trans (hc k hlt).1
      have hck2 := (hnx.cell (p := ⟨b, off + k * 3 + 1, none⟩) hb).trans (hc k hlt).2.1
      have hck3 := (hnx.cell (p := ⟨b, off + k * 3 + 2, none⟩) hb).trans (hc k hlt).2.2
      have hck1' := (hnx.cell (p := ⟨b', off' + k * 3, none⟩) hb').trans (hc' k hlt).1
      have hck2' := (hnx.cell (p := ⟨b', off' + k * 3 + 1, none⟩) hb').trans (hc' k hlt).2.1
      have hck3' := (hnx.cell (p := ⟨b', off' + k * 3 + 2, none⟩) hb').trans (hc' k hlt).2.2
      clear hc hz hc' hz'
      obtain ⟨⟨x1, x2, x3⟩, ex⟩ : ∃ v, v = t3 ts k := ⟨_, rfl⟩
      rw [← ex] at hck1 hck1' hck2 hck2' hck3 hck3'
      clear ex
      dsimp only at hck1 hck1' hck2 hck2' hck3 hck3'
      go_wp2
      go_region_with (go_at_call 51; refine (eqTimer_same x1 x2 x3 _).mono ?_; rintro e w1 ⟨rfl, hb1⟩)
      all_goals go_wp2
      all_goals
        have hb2 : Below wr.drew.heap.size wr.drew w1 := by assumption
        have hnb : Below w.heap.size w w1 := hnx.drew.trans (hb2.mono hnx.size)
        go_roundw
        case rel => exact ⟨k + 1, by omega, by go_num, hnb⟩
        case measure => simp [intOf]; omega
    · obtain rfl : k = ts.length := by omega
      go_wp2
      go_ret
      exact ⟨rfl, hnx⟩
set_option maxHeartbeats 1000000 in
theorem eqClock_same (now sq : Int) (ao : Option Addr) (cap : Nat) (ts : List T3) (ao' : Option Addr) (cap' : Nat) (w : World) (hl : ts.length ≤ 1048576)
    (hz : TimersIn w.heap.size w ao ts) (hz' : TimersIn w.heap.size w ao' ts) :
    Calls Try.prog 14 #[.agg #[.int .i64 now, .int .i64 sq, .slice ao ts.length cap], .agg #[.int .i64 now, .int .i64 sq, .slice ao' ts.length cap']] w fun e w' => e = .returned (.bool true) ∧ Below w.heap.size w w' := by
  have h1 : (now != now) = false := by simp
  have h2 : (sq != sq) = false := by simp
  go_enter Try.func14, Try.ntmps14
  go_wp2_with fail
  refine (eqTimerS_same ao ao' cap cap' ts _ hl (hz.later (below2 _ _ _)) (hz'.later (below2 _ _ _))).mono ?_
  rintro e w1 ⟨rfl, hb1⟩
  have hB1 := (below2 w (.cells #[.int .i64 now, .int .i64 sq, .slice ao ts.length cap] 29) (.cells #[.int .i64 now, .int .i64 sq, .slice ao' ts.length cap'] 29)).trans (hb1.mono (by simp; omega))
  go_wp2
  go_ret
  exact ⟨rfl, hB1⟩
end Go.Proofs.Ytmjjjckjmfekcaa
