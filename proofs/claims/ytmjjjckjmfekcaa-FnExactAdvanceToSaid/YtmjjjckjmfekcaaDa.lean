/- The laws' marks upon clocks in memory of their own. No conditions but those written. -/
import Derived.Test.YtmjjjckjmfekcaaCd
namespace Go.Proofs.Ytmjjjckjmfekcaa
open Go.RowKit

/-- Nothing that was there has turned but for the block to which ao leads. -/
structure OnlyAt (ao : Option Addr) (w w' : World) : Prop where
  os : w'.os = w.os
  tape : w'.tape = w.tape
  output : w'.output = w.output
  size : w'.heap.size = w.heap.size
  block : ∀ k, (∀ g, ao = some ⟨g, 0, none⟩ → k ≠ g) → w'.heap[k]? = w.heap[k]?
theorem OnlyAt.refl (ao : Option Addr) (w : World) : OnlyAt ao w w := ⟨rfl, rfl, rfl, rfl, fun _ _ => rfl⟩
theorem OnlyAt.trans {ao : Option Addr} {a b c : World} (h : OnlyAt ao a b) (k : OnlyAt ao b c) : OnlyAt ao a c :=
  ⟨k.os.trans h.os, k.tape.trans h.tape, k.output.trans h.output, k.size.trans h.size, fun i hi => (k.block i hi).trans (h.block i hi)⟩
theorem OnlyAt.set (g o : Nat) (w : World) (u : Value) : OnlyAt (some ⟨g, 0, none⟩) w (w.setCell ⟨g, o, none⟩ u) :=
  ⟨rfl, rfl, rfl, by simp [World.setCell], fun k hk => Below.heap_setCell _ _ _ _ (hk g rfl)⟩

/-- Outside the blocks from lo to hi nothing that was there has turned. -/
structure Between (lo hi : Nat) (w w' : World) : Prop where
  os : w'.os = w.os
  tape : w'.tape = w.tape
  output : w'.output = w.output
  size : w.heap.size ≤ w'.heap.size
  block : ∀ k, k < w.heap.size → (k < lo ∨ hi ≤ k) → w'.heap[k]? = w.heap[k]?
theorem Between.below {lo hi : Nat} {w w' : World} (h : Between lo hi w w') (hl : lo ≤ w.heap.size) : Below lo w w' :=
  ⟨h.os, h.tape, h.output, h.size, fun k hk => h.block k (by omega) (.inl hk)⟩
theorem Between.trans {lo hi : Nat} {a b c : World} (h : Between lo hi a b) (k : Between lo hi b c) : Between lo hi a c :=
  ⟨k.os.trans h.os, k.tape.trans h.tape, k.output.trans h.output, Nat.le_trans h.size k.size, fun i hi hr => (k.block i (Nat.lt_of_lt_of_le hi h.size) hr).trans (h.block i hi hr)⟩
theorem Between.of_below {lo hi : Nat} {w w' : World} (h : Below w.heap.size w w') : Between lo hi w w' :=
  ⟨h.os, h.tape, h.output, h.size, fun k hk _ => h.block k hk⟩

/-- The address of a row, none where it has no element. -/
def eff (ao : Option Addr) (n : Nat) : Option Addr := if n = 0 then none else ao
theorem eff_pos {ao : Option Addr} {n : Nat} (h : 0 < n) : eff ao n = ao := by unfold eff; rw [if_neg (by omega)]
theorem FreshC.between {lo hi : Nat} {W W' : World} {to : Option Addr} {tc : Nat} {ts : List T3} (h : FreshC lo hi W to tc ts) (hb : OnlyAt (eff to ts.length) W W') : Between lo hi W W' := by
  refine ⟨hb.os, hb.tape, hb.output, by rw [hb.size]; exact Nat.le_refl _, fun k _ hr => hb.block k fun g e => ?_⟩
  rcases h with rfl | ⟨g2, xs, e2, hg, ho, _⟩
  · simp [eff] at e
  · unfold eff at e
    split at e
    · cases e
    · rw [e2] at e; simp at e; subst e
      have := (owns_lt ho).1
      omega
theorem FreshC.between' {lo hi lo' hi' : Nat} {W W' : World} {to : Option Addr} {tc : Nat} {ts : List T3} (h : FreshC lo hi W to tc ts) (hb : Between lo' hi' W W') (hd : hi ≤ lo' ∨ hi' ≤ lo) : FreshC lo hi W' to tc ts :=
  h.keep fun k h1 h2 h3 => hb.block k h3 (by omega)

def markC (k : Int) (n : Nat) : List T3 := (List.range n).map (fun i : Nat => (k + 3 * (i : Int), k + 3 * (i : Int) + 1, k + 3 * (i : Int) + 2))
theorem markC_len (k : Int) (n : Nat) : (markC k n).length = n := by simp [markC]
theorem markC_at (k : Int) (n j : Nat) (h : j < n) : t3 (markC k n) j = (k + 3 * (j : Int), k + 3 * (j : Int) + 1, k + 3 * (j : Int) + 2) := by simp [markC, t3, h]

set_option maxHeartbeats 1000000 in
theorem markTimerS_any (lo hi : Nat) (to : Option Addr) (tc : Nat) (ts : List T3) (k0 : Int) (w : World) (hl : ts.length ≤ 2097152) (hk0 : 0 ≤ k0) (hk1 : k0 ≤ 1024) (hF : FreshC lo hi w to tc ts) :
    Calls Try.prog 44 #[.slice to ts.length tc, .int .i64 k0] w fun e w' => e = .returned (.int .i64 (k0 + 3 * ts.length)) ∧ FreshC lo hi w' to tc (markC k0 ts.length) ∧ OnlyAt (eff to ts.length) w w' := by
  rcases Nat.eq_zero_or_pos ts.length with h0 | h0
  · obtain rfl : ts = [] := List.length_eq_zero_iff.1 h0
    go_enter Try.func44, Try.ntmps44
    go_wp2
    go_loop [1, 5] (fun v i => v = .int .i64 k0 ∧ i = .int .i64 0) (fun _ _ => 0)
    case atStart => exact ⟨rfl, rfl⟩
    case round =>
      obtain ⟨rfl, rfl⟩ := hrel
      go_wp2
      go_ret
      exact ⟨by simp, .inl (by simp [markC]), OnlyAt.refl _ _⟩
  · rw [eff_pos h0]
    obtain ⟨g, xs0, rfl, hg, ho⟩ : ∃ g xs, to = some ⟨g, 0, none⟩ ∧ g < hi ∧ w.ownsRow lo 51 3 (.slice (some ⟨g, 0, none⟩) ts.length tc) ts.length xs := by
      rcases hF with rfl | ⟨g, xs, e, h1, h2, _⟩
      · simp at h0
      · exact ⟨g, xs, e, h1, h2⟩
    have HO : Hid (w.ownsRow lo 51 3 (.slice (some ⟨g, 0, none⟩) ts.length tc) ts.length xs0) := ho
    clear ho
    go_enter Try.func44, Try.ntmps44
    go_wp2
    go_loopw [1, 5] (fun v i wr => ∃ (k : Nat) (xs : List Value), k ≤ ts.length ∧ i = .int .i64 k ∧ v = .int .i64 (k0 + 3 * k) ∧ Hid (wr.ownsRow lo 51 3 (.slice (some ⟨g, 0, none⟩) ts.length tc) ts.length xs ∧ ∀ j : Nat, j < k → xs[j * 3]? = some (.int .i64 (k0 + 3 * j)) ∧ xs[j * 3 + 1]? = some (.int .i64 (k0 + 3 * j + 1)) ∧ xs[j * 3 + 2]? = some (.int .i64 (k0 + 3 * j + 2))) ∧ OnlyAt (some ⟨g, 0, none⟩) w wr) (fun _ i _ => ts.length - (intOf i).toNat)
    case atStart => exact ⟨0, _, Nat.zero_le _, rfl, by simp, ⟨HO.out, fun j hj => by omega⟩, OnlyAt.refl _ _⟩
    case round =>
      obtain ⟨k, xs, hk, rfl, rfl, ho, hnx⟩ := hrel
      by_cases hlt : k < ts.length
      · have hxl : k * 3 + 2 < xs.length := by rw [ho.out.1.1]; omega
        have hst1 : wr.cell? ⟨g, k * 3, none⟩ = some xs[k * 3] := (ho.out.1.cellAt (k * 3) (by omega)).trans (by simp)
        have hst2 : wr.cell? ⟨g, k * 3 + 1, none⟩ = some xs[k * 3 + 1] := (ho.out.1.cellAt (k * 3 + 1) (by omega)).trans (by simp)
        have hst3 : wr.cell? ⟨g, k * 3 + 2, none⟩ = some xs[k * 3 + 2] := (ho.out.1.cellAt (k * 3 + 2) (by omega)).trans (by simp [hxl])
        have hfr1 : wr.frozen? ⟨g, k * 3, none⟩ = false := ho.out.1.frozenAt (k * 3)
        have hfr2 : wr.frozen? ⟨g, k * 3 + 1, none⟩ = false := ho.out.1.frozenAt (k * 3 + 1)
        have hfr3 : wr.frozen? ⟨g, k * 3 + 2, none⟩ = false := ho.out.1.frozenAt (k * 3 + 2)
        go_wp2
        go_roundw
        case rel => exact ⟨k + 1, ((xs.set (k * 3) (.int .i64 (k0 + 3 * k))).set (k * 3 + 1) (.int .i64 (k0 + 3 * k + 1))).set (k * 3 + 2) (.int .i64 (k0 + 3 * k + 2)), by omega, by go_num, by go_num, ⟨by
            have h := (((World.ownsRow.stored ho.out.1 (k * 3) (.int .i64 (k0 + 3 * k))).1.stored (k * 3 + 1) (.int .i64 (k0 + 3 * k + 1))).1.stored (k * 3 + 2) (.int .i64 (k0 + 3 * k + 2))).1
            simpa [Int.add_assoc] using h, fun j hj => by
          simp only [List.getElem?_set, List.length_set]
          rcases Nat.lt_succ_iff_lt_or_eq.1 hj with h | rfl
          · rw [if_neg (by omega), if_neg (by omega), if_neg (by omega), if_neg (by omega), if_neg (by omega), if_neg (by omega), if_neg (by omega), if_neg (by omega), if_neg (by omega)]; exact ho.out.2 j h
          · rw [if_neg (by omega), if_neg (by omega), if_pos rfl, if_pos (by omega), if_neg (by omega), if_pos rfl, if_pos (by omega), if_pos rfl, if_pos hxl]; exact ⟨rfl, rfl, rfl⟩⟩, ((hnx.trans (OnlyAt.set g (k * 3) _ _)).trans (OnlyAt.set g (k * 3 + 1) _ _)).trans (OnlyAt.set g (k * 3 + 2) _ _)⟩
        case measure => simp [intOf]; omega
      · obtain rfl : k = ts.length := by omega
        go_wp2
        go_ret
        refine ⟨rfl, .inr ⟨g, xs, rfl, hg, ?_, fun j hj => ?_⟩, hnx⟩
        · rw [markC_len]; exact ho.out.1
        · rw [markC_len] at hj; rw [markC_at _ _ _ hj]; exact ho.out.2 j hj

set_option maxHeartbeats 1000000 in
theorem heldTimerS_any (to : Option Addr) (tc : Nat) (n : Nat) (k0 : Int) (w : World) (hl : n ≤ 2097152) (hk0 : 0 ≤ k0) (hk1 : k0 ≤ 1024) (hF : TimersIn w.heap.size w to (markC k0 n)) :
    Calls Try.prog 45 #[.slice to n tc, .int .i64 k0] w fun e w' => e = .returned (.int .i64 (k0 + 3 * n)) ∧ w' = w := by
  go_enter Try.func45, Try.ntmps45
  go_wp2
  go_loop [1, 5] (fun v i => ∃ k : Nat, k ≤ n ∧ i = .int .i64 k ∧ v = .int .i64 (k0 + 3 * k)) (fun _ i => n - (intOf i).toNat)
  case atStart => exact ⟨0, Nat.zero_le _, rfl, by simp⟩
  case round =>
    obtain ⟨k, hk, rfl, rfl⟩ := hrel
    by_cases hlt : k < n
    · obtain ⟨b, off, rfl, hb, hc⟩ := hF.pos (k := k) (by rw [markC_len]; exact hlt)
      have hck := hc k (by rw [markC_len]; exact hlt)
      rw [markC_at _ _ _ hlt] at hck
      obtain ⟨hck1, hck2, hck3⟩ := hck
      clear hc hF
      have hne : (k0 + 3 * (k : Int) != k0 + 3 * (k : Int)) = false := by simp
      have hne2 : (k0 + 3 * (k : Int) + 1 != k0 + 3 * (k : Int) + 1) = false := by simp
      have hne3 : (k0 + 3 * (k : Int) + 2 != k0 + 3 * (k : Int) + 1 + 1) = false := by simp; omega
      have hne4 : (k0 + 3 * (k : Int) + 2 != k0 + 3 * (k : Int) + 2) = false := by simp
      dsimp only at hck1 hck2 hck3
      go_wp2
      go_round
      case rel => exact ⟨k + 1, by omega, by go_num, by go_num⟩
      case measure => simp [intOf]; omega
    · obtain rfl : k = n := by omega
      go_wp2
      go_ret
      exact ⟨rfl, rfl⟩

set_option maxHeartbeats 1000000 in
theorem markClock_any (lo hi : Nat) (now sq : Int) (to : Option Addr) (tc : Nat) (ts : List T3) (w : World) (hl : ts.length ≤ 2097152) (hF : FreshC lo hi w to tc ts) :
    Calls Try.prog 19 #[.agg #[.int .i64 now, .int .i64 sq, .slice to ts.length tc], .int .i64 1] w fun e w' => e = .returned (.int .i64 (1 + 3 * ts.length)) ∧ FreshC lo hi w' to tc (markC 1 ts.length) ∧ Between lo hi w w' := by
  go_enter Try.func19, Try.ntmps19
  go_wp2_with fail
  refine (markTimerS_any lo hi to tc ts 1 _ hl (by omega) (by omega) (hF.later (below1 _ _))).mono ?_
  rintro e w1 ⟨rfl, hT1, hO1⟩
  have hb0 : Between lo hi w (w.alloc (.cells #[.int .i64 now, .int .i64 sq, .slice to ts.length tc] 29)) := Between.of_below (below1 _ _)
  have hb1 := hb0.trans ((hF.later (below1 w (.cells #[.int .i64 now, .int .i64 sq, .slice to ts.length tc] 29))).between hO1)
  have HT1 : Hid (FreshC lo hi w1 to tc (markC 1 ts.length)) := hT1
  clear hT1 hO1 hb0
  go_wp2
  go_ret
  exact ⟨rfl, HT1.out, hb1⟩

set_option maxHeartbeats 1000000 in
theorem heldClock_any (now sq : Int) (to : Option Addr) (tc : Nat) (n : Nat) (w : World) (hl : n ≤ 2097152) (hT : TimersIn w.heap.size w to (markC 1 n)) :
    Calls Try.prog 20 #[.agg #[.int .i64 now, .int .i64 sq, .slice to n tc], .int .i64 1] w fun e w' => e = .returned (.int .i64 (1 + 3 * n)) ∧ Below w.heap.size w w' := by
  go_enter Try.func20, Try.ntmps20
  go_wp2_with fail
  refine (heldTimerS_any to tc n 1 _ hl (by omega) (by omega) (hT.later (below1 _ _))).mono ?_
  rintro e w1 ⟨rfl, rfl⟩
  go_wp2
  go_ret
  exact ⟨rfl, below1 _ _⟩
end Go.Proofs.Ytmjjjckjmfekcaa
