/- The laws' comparisons and marks of ints. No conditions but those written. -/
import Derived.Test.YtmjjjckjmfekcaaIe
import Derived.Test.YtmjjjckjmfekcaaDh
namespace Go.Proofs.Ytmjjjckjmfekcaa
open Go.RowKit

/-- The slice at ao holds the ints zs, in a block below n. -/
def IntsIn (n : Nat) (W : World) (ao : Option Addr) (zs : List Int) : Prop :=
  zs = [] ∨ ∃ b off, ao = some ⟨b, off, none⟩ ∧ b < n ∧ ∀ j, j < zs.length → W.cell? ⟨b, off + j, none⟩ = some (.int .i64 (zs[j]?.getD 0))
theorem IntsIn.pos {n : Nat} {W : World} {ao : Option Addr} {zs : List Int} (h : IntsIn n W ao zs) {k : Nat} (hk : k < zs.length) :
    ∃ b off, ao = some ⟨b, off, none⟩ ∧ b < n ∧ ∀ j, j < zs.length → W.cell? ⟨b, off + j, none⟩ = some (.int .i64 (zs[j]?.getD 0)) := by
  rcases h with rfl | h
  · simp at hk
  · exact h

theorem IntsIn.below {n : Nat} {W W' : World} {ao : Option Addr} {zs : List Int} (h : IntsIn n W ao zs) (hb : Below n W W') : IntsIn n W' ao zs := by
  rcases h with rfl | ⟨b, off, e, hn, hc⟩
  · exact .inl rfl
  · exact .inr ⟨b, off, e, hn, fun j hj => (hb.cell (p := ⟨b, off + j, none⟩) hn).trans (hc j hj)⟩
theorem IntsIn.later {W W' : World} {ao : Option Addr} {zs : List Int} (h : IntsIn W.heap.size W ao zs) (hb : Below W.heap.size W W') : IntsIn W'.heap.size W' ao zs := by
  rcases h.below hb with h | ⟨b, off, e, hn, hc⟩
  · exact .inl h
  · exact .inr ⟨b, off, e, Nat.lt_of_lt_of_le hn hb.size, hc⟩
def FreshI (lo hi : Nat) (W : World) (qo : Option Addr) (qc : Nat) (q : List Int) : Prop :=
  q = [] ∨ ∃ g, qo = some ⟨g, 0, none⟩ ∧ g < hi ∧ W.ownsRow lo 3 1 (.slice (some ⟨g, 0, none⟩) q.length qc) q.length (q.map (Value.int .i64))
theorem FreshI.ints {lo hi : Nat} {W : World} {qo : Option Addr} {qc : Nat} {q : List Int} (h : FreshI lo hi W qo qc q) : IntsIn W.heap.size W qo q := by
  rcases h with h | ⟨g, rfl, _, ho⟩
  · exact .inl h
  · exact .inr ⟨g, 0, rfl, (owns_lt ho).2, fun j hj => by rw [Nat.zero_add, ho.cellAt j (by omega)]; simp [hj]⟩
theorem FreshI.keep {lo hi : Nat} {W W' : World} {qo : Option Addr} {qc : Nat} {q : List Int} (h : FreshI lo hi W qo qc q) (hk : ∀ k, lo ≤ k → k < hi → k < W.heap.size → W'.heap[k]? = W.heap[k]?) : FreshI lo hi W' qo qc q := by
  rcases h with h | ⟨g, e, hg, ho⟩
  · exact .inl h
  · exact .inr ⟨g, e, hg, owns_block ho (hk g (owns_lt ho).1 hg (owns_lt ho).2)⟩
theorem FreshI.later {lo hi : Nat} {W W' : World} {qo : Option Addr} {qc : Nat} {q : List Int} (h : FreshI lo hi W qo qc q) (hb : Below W.heap.size W W') : FreshI lo hi W' qo qc q := h.keep fun k _ _ hk => hb.block k hk
theorem FreshI.wide {lo hi lo' hi' : Nat} {W : World} {qo : Option Addr} {qc : Nat} {q : List Int} (h : FreshI lo hi W qo qc q) (h1 : lo' ≤ lo) (h2 : hi ≤ hi') : FreshI lo' hi' W qo qc q := by
  rcases h with h | ⟨g, e, hg, ho⟩
  · exact .inl h
  · exact .inr ⟨g, e, by omega, ownsRow_base ho (Nat.le_trans h1 (owns_lt ho).1)⟩
def markI (k : Int) (n : Nat) : List Int := (List.range n).map (fun i : Nat => k + (i : Int))
theorem markI_len (k : Int) (n : Nat) : (markI k n).length = n := by simp [markI]
theorem markI_at (k : Int) (n j : Nat) (h : j < n) : (markI k n)[j]?.getD 0 = k + (j : Int) := by simp [markI, h]

set_option maxHeartbeats 1000000 in
theorem markIntS_any (lo hi : Nat) (qo : Option Addr) (qc : Nat) (q : List Int) (k0 : Int) (w : World) (hl : q.length ≤ 2097152) (hk0 : 0 ≤ k0) (hk1 : k0 ≤ 16777216) (hF : FreshI lo hi w qo qc q) :
    Calls Try.prog 30 #[.slice qo q.length qc, .int .i64 k0] w fun e w' => e = .returned (.int .i64 (k0 + q.length)) ∧ FreshI lo hi w' qo qc (markI k0 q.length) ∧ OnlyAt (eff qo q.length) w w' := by
  rcases Nat.eq_zero_or_pos q.length with h0 | h0
  · obtain rfl : q = [] := List.length_eq_zero_iff.1 h0
    go_enter Try.func30, Try.ntmps30
    go_wp2
    go_loop [1, 5] (fun v i => v = .int .i64 k0 ∧ i = .int .i64 0) (fun _ _ => 0)
    case atStart => exact ⟨rfl, rfl⟩
    case round =>
      obtain ⟨rfl, rfl⟩ := hrel
      go_wp2
      go_ret
      exact ⟨by simp, .inl (by simp [markI]), OnlyAt.refl _ _⟩
  · rw [eff_pos h0]
    obtain ⟨g, rfl, hg, ho⟩ : ∃ g, qo = some ⟨g, 0, none⟩ ∧ g < hi ∧ w.ownsRow lo 3 1 (.slice (some ⟨g, 0, none⟩) q.length qc) q.length (q.map (Value.int .i64)) := by
      rcases hF with rfl | h
      · simp at h0
      · exact h
    have HO : Hid (w.ownsRow lo 3 1 (.slice (some ⟨g, 0, none⟩) q.length qc) q.length (q.map (Value.int .i64))) := ho
    clear ho
    go_enter Try.func30, Try.ntmps30
    go_wp2
    go_loopw [1, 5] (fun v i wr => ∃ (k : Nat) (xs : List Value), k ≤ q.length ∧ i = .int .i64 k ∧ v = .int .i64 (k0 + k) ∧ Hid (wr.ownsRow lo 3 1 (.slice (some ⟨g, 0, none⟩) q.length qc) q.length xs ∧ ∀ j : Nat, j < k → xs[j]? = some (.int .i64 (k0 + j))) ∧ OnlyAt (some ⟨g, 0, none⟩) w wr) (fun _ i _ => q.length - (intOf i).toNat)
    case atStart => exact ⟨0, _, Nat.zero_le _, rfl, by simp, ⟨HO.out, fun j hj => by omega⟩, OnlyAt.refl _ _⟩
    case round =>
      obtain ⟨k, xs, hk, rfl, rfl, ho, hnx⟩ := hrel
      by_cases hlt : k < q.length
      · have hxl : k < xs.length := by rw [ho.out.1.1]; omega
        have hst : wr.cell? ⟨g, k, none⟩ = some xs[k] := (ho.out.1.cellAt k (by omega)).trans (by simp [hxl])
        have hfr : wr.frozen? ⟨g, k, none⟩ = false := ho.out.1.frozenAt k
        go_wp2
        go_roundw
        case rel => exact ⟨k + 1, xs.set k (.int .i64 (k0 + k)), by omega, by go_num, by go_num, ⟨(ho.out.1.stored k _).1, fun j hj => by
          rw [List.getElem?_set]
          rcases Nat.lt_succ_iff_lt_or_eq.1 hj with h | rfl
          · rw [if_neg (by omega)]; exact ho.out.2 j h
          · rw [if_pos rfl, if_pos hxl]⟩, hnx.trans (OnlyAt.set g k _ _)⟩
        case measure => simp [intOf]; omega
      · obtain rfl : k = q.length := by omega
        have hxs : xs = (markI k0 q.length).map (Value.int .i64) := by
          apply List.ext_getElem?
          intro j
          by_cases hj : j < q.length
          · rw [ho.out.2 j hj]; simp [markI, hj]
          · have e1 : xs.length = q.length := by rw [ho.out.1.1]; omega
            rw [List.getElem?_eq_none (by omega), List.getElem?_eq_none (by simp [markI_len]; omega)]
        subst hxs
        go_wp2
        go_ret
        refine ⟨rfl, .inr ⟨g, rfl, hg, ?_⟩, hnx⟩
        rw [markI_len]; exact ho.out.1

set_option maxHeartbeats 1000000 in
theorem heldIntS_any (qo : Option Addr) (qc : Nat) (n : Nat) (k0 : Int) (w : World) (hl : n ≤ 2097152) (hk0 : 0 ≤ k0) (hk1 : k0 ≤ 16777216) (hF : IntsIn w.heap.size w qo (markI k0 n)) :
    Calls Try.prog 31 #[.slice qo n qc, .int .i64 k0] w fun e w' => e = .returned (.int .i64 (k0 + n)) ∧ w' = w := by
  go_enter Try.func31, Try.ntmps31
  go_wp2
  go_loop [1, 5] (fun v i => ∃ k : Nat, k ≤ n ∧ i = .int .i64 k ∧ v = .int .i64 (k0 + k)) (fun _ i => n - (intOf i).toNat)
  case atStart => exact ⟨0, Nat.zero_le _, rfl, by simp⟩
  case round =>
    obtain ⟨k, hk, rfl, rfl⟩ := hrel
    by_cases hlt : k < n
    · obtain ⟨b, off, rfl, hb, hc⟩ := hF.pos (k := k) (by rw [markI_len]; exact hlt)
      have hck := hc k (by rw [markI_len]; exact hlt)
      rw [markI_at _ _ _ hlt] at hck
      clear hc hF
      have hne : (k0 + (k : Int) != k0 + (k : Int)) = false := by simp
      go_wp2
      go_round
      case rel => exact ⟨k + 1, by omega, by go_num, by go_num⟩
      case measure => simp [intOf]; omega
    · obtain rfl : k = n := by omega
      go_wp2
      go_ret
      exact ⟨rfl, rfl⟩

theorem FreshI.between {lo hi : Nat} {W W' : World} {qo : Option Addr} {qc : Nat} {q : List Int} (h : FreshI lo hi W qo qc q) (hb : OnlyAt (eff qo q.length) W W') : Between lo hi W W' := by
  refine ⟨hb.os, hb.tape, hb.output, by rw [hb.size]; exact Nat.le_refl _, fun k _ hr => hb.block k fun g e => ?_⟩
  rcases h with rfl | ⟨g2, e2, hg, ho⟩
  · simp [eff] at e
  · unfold eff at e
    split at e
    · cases e
    · rw [e2] at e; simp at e; subst e
      have := (owns_lt ho).1
      omega

set_option maxHeartbeats 1000000 in
theorem eqIntS_same (ao bo : Option Addr) (cap cap' : Nat) (zs : List Int) (w : World) (hl : zs.length ≤ 1048576) (hz : IntsIn w.heap.size w ao zs) (hz' : IntsIn w.heap.size w bo zs) :
    Calls Try.prog 29 #[.slice ao zs.length cap, .slice bo zs.length cap'] w fun e w' => e = .returned (.bool true) ∧ Below w.heap.size w w' := by
  have hne : ((zs.length : Int) != (zs.length : Int)) = false := by simp
  go_enter Try.func29, Try.ntmps29
  go_wp2
  go_loopw [5] (fun i wr => ∃ k : Nat, k ≤ zs.length ∧ i = .int .i64 k ∧ Below w.heap.size w wr) (fun i _ => zs.length - (intOf i).toNat)
  case atStart => exact ⟨0, Nat.zero_le _, rfl, Below.refl _ _⟩
  case round =>
    obtain ⟨k, hk, rfl, hnx⟩ := hrel
    by_cases hlt : k < zs.length
    · obtain ⟨b, off, rfl, hb, hc⟩ := hz.pos hlt
      obtain ⟨b', off', rfl, hb', hc'⟩ := hz'.pos hlt
      have hck := (hnx.cell (p := ⟨b, off + k, none⟩) hb).trans (hc k hlt)
      have hck' := (hnx.cell (p := ⟨b', off' + k, none⟩) hb').trans (hc' k hlt)
      clear hc hz hc' hz'
      obtain ⟨x, hx⟩ : ∃ x, x = zs[k]?.getD 0 := ⟨_, rfl⟩
      rw [← hx] at hck hck'
      clear hx
      have hxx : (x != x) = false := by simp
      go_wp2
      go_quiet (fail)
      go_wp2
      go_roundw
      case rel => exact ⟨k + 1, by omega, by go_num, below_draws hnx _⟩
      case measure => simp [intOf]; omega
    · obtain rfl : k = zs.length := by omega
      go_wp2
      go_ret
      exact ⟨rfl, hnx⟩

theorem FreshI.between' {lo hi lo' hi' : Nat} {W W' : World} {qo : Option Addr} {qc : Nat} {q : List Int} (h : FreshI lo hi W qo qc q) (hb : Between lo' hi' W W') (hd : hi ≤ lo' ∨ hi' ≤ lo) : FreshI lo hi W' qo qc q :=
  h.keep fun k h1 h2 h3 => hb.block k h3 (by omega)
theorem owns_type {w : World} {base : Nat} {e : TypeId} {size g n cap : Nat} {xs : List Value} (h : w.ownsRow base e size (.slice (some ⟨g, 0, none⟩) n cap) n xs) : ∃ cur, w.heap[g]? = some (.cells cur e (0, 0)) := by
  rcases h.2 with ⟨h', _⟩ | ⟨g', cap', cur, h', hb, hg, _⟩
  · simp at h'
  · simp only [Value.slice.injEq, Option.some.injEq, Addr.mk.injEq, and_true, true_and] at h'
    obtain ⟨rfl, rfl⟩ := h'
    exact ⟨cur, hg⟩
theorem owns_ne {w : World} {base base' size size' g g' n n' cap cap' : Nat} {xs xs' : List Value} (h : w.ownsRow base 51 size (.slice (some ⟨g, 0, none⟩) n cap) n xs) (h' : w.ownsRow base' 3 size' (.slice (some ⟨g', 0, none⟩) n' cap') n' xs') : g ≠ g' := by
  obtain ⟨c, e⟩ := owns_type h
  obtain ⟨c', e'⟩ := owns_type h'
  rintro rfl
  rw [e] at e'; simp at e'
theorem FreshI.only {lo hi lo' hi' : Nat} {W W' : World} {to qo : Option Addr} {tc qc : Nat} {ts : List T3} {q : List Int} (h : FreshI lo hi W qo qc q) (hT : FreshC lo' hi' W to tc ts) (hb : OnlyAt (eff to ts.length) W W') : FreshI lo hi W' qo qc q := by
  rcases h with h | ⟨g, e, hg, ho⟩
  · exact .inl h
  · refine .inr ⟨g, e, hg, owns_block ho (hb.block g fun g' e' => ?_)⟩
    rcases hT with rfl | ⟨g2, xs, e2, _, ho2, _⟩
    · simp [eff] at e'
    · unfold eff at e'
      split at e'
      · cases e'
      · rw [e2] at e'; simp at e'; subst e'
        exact fun x => owns_ne ho2 ho x.symm
theorem FreshC.only {lo hi lo' hi' : Nat} {W W' : World} {to qo : Option Addr} {tc qc : Nat} {ts : List T3} {q : List Int} (h : FreshC lo hi W to tc ts) (hI : FreshI lo' hi' W qo qc q) (hb : OnlyAt (eff qo q.length) W W') : FreshC lo hi W' to tc ts := by
  rcases h with h | ⟨g, xs, e, hg, ho, hp⟩
  · exact .inl h
  · refine .inr ⟨g, xs, e, hg, owns_block ho (hb.block g fun g' e' => ?_), hp⟩
    rcases hI with rfl | ⟨g2, e2, _, ho2⟩
    · simp [eff] at e'
    · unfold eff at e'
      split at e'
      · cases e'
      · rw [e2] at e'; simp at e'; subst e'
        exact owns_ne ho ho2
set_option maxHeartbeats 1000000 in
theorem markClockI_any (lo hi : Nat) (now sq : Int) (to : Option Addr) (tc : Nat) (ts : List T3) (qo : Option Addr) (qc : Nat) (q : List Int) (w : World) (hl : ts.length ≤ 2097152) (hF : FreshC lo hi w to tc ts) (hI : FreshI lo hi w qo qc q) :
    Calls Try.prog 19 #[.agg #[.int .i64 now, .int .i64 sq, .slice to ts.length tc], .int .i64 1] w fun e w' => e = .returned (.int .i64 (1 + 3 * ts.length)) ∧ FreshC lo hi w' to tc (markC 1 ts.length) ∧ FreshI lo hi w' qo qc q ∧ Between lo hi w w' := by
  go_enter Try.func19, Try.ntmps19
  go_wp2_with fail
  refine (markTimerS_any lo hi to tc ts 1 _ hl (by omega) (by omega) (hF.later (below1 _ _))).mono ?_
  rintro e w1 ⟨rfl, hT1, hO1⟩
  have hb0 : Between lo hi w (w.alloc (.cells #[.int .i64 now, .int .i64 sq, .slice to ts.length tc] 29)) := Between.of_below (below1 _ _)
  have hb1 := hb0.trans ((hF.later (below1 w (.cells #[.int .i64 now, .int .i64 sq, .slice to ts.length tc] 29))).between hO1)
  have HT1 : Hid (FreshC lo hi w1 to tc (markC 1 ts.length) ∧ FreshI lo hi w1 qo qc q) := ⟨hT1, (hI.later (below1 _ _)).only (hF.later (below1 _ _)) hO1⟩
  clear hT1 hO1 hb0
  go_wp2
  go_ret
  exact ⟨rfl, HT1.out.1, HT1.out.2, hb1⟩
end Go.Proofs.Ytmjjjckjmfekcaa
