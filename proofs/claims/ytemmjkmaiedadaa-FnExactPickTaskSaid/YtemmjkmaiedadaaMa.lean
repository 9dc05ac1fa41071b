/- Boards in memory of their own, and the laws' marks upon them. No conditions but those written. -/
import Derived.Test.YtemmjkmaiedadaaWf
namespace Go.Proofs.Ytemmjkmaiedadaa
open Go.RowKit

/-- Nothing that was there has turned but for the block to which ao leads. -/
structure OnlyAt (ao : Option Addr) (w w' : World) : Prop where
  os : w'.os = w.os
  tape : w'.tape = w.tape
  output : w'.output = w.output
  size : w'.heap.size = w.heap.size
  block : ∀ k, (∀ g, ao = some ⟨g, 0, none⟩ → k ≠ g) → w'.heap[k]? = w.heap[k]?
theorem OnlyAt.refl (ao : Option Addr) (w : World) : OnlyAt ao w w := ⟨rfl, rfl, rfl, rfl, fun _ _ => rfl⟩
theorem OnlyAt.trans {ao : Option Addr} {a b c : World} (h : OnlyAt ao a b) (k : OnlyAt ao b c) : OnlyAt ao a c :=
  ⟨k.os.trans h.os, k.tape.trans h.tape, k.output.trans h.output, k.size.trans h.size, fun i hi => (k.block i hi).trans (h.block i hi)⟩
theorem OnlyAt.set (g o : Nat) (w : World) (u : Value) : OnlyAt (some ⟨g, 0, none⟩) w (w.setCell ⟨g, o, none⟩ u) :=
  ⟨rfl, rfl, rfl, by simp [World.setCell], fun k hk => Below.heap_setCell _ _ _ _ (hk g rfl)⟩

/-- Outside the blocks from lo to hi nothing that was there has turned. -/
structure Between (lo hi : Nat) (w w' : World) : Prop where
  os : w'.os = w.os
  tape : w'.tape = w.tape
  output : w'.output = w.output
  size : w.heap.size ≤ w'.heap.size
  block : ∀ k, k < w.heap.size → (k < lo ∨ hi ≤ k) → w'.heap[k]? = w.heap[k]?
theorem Between.below {lo hi : Nat} {w w' : World} (h : Between lo hi w w') (hl : lo ≤ w.heap.size) : Below lo w w' :=
  ⟨h.os, h.tape, h.output, h.size, fun k hk => h.block k (by omega) (.inl hk)⟩
theorem Between.trans {lo hi : Nat} {a b c : World} (h : Between lo hi a b) (k : Between lo hi b c) : Between lo hi a c :=
  ⟨k.os.trans h.os, k.tape.trans h.tape, k.output.trans h.output, Nat.le_trans h.size k.size, fun i hi hr => (k.block i (Nat.lt_of_lt_of_le hi h.size) hr).trans (h.block i hi hr)⟩
theorem Between.of_below {lo hi : Nat} {w w' : World} (h : Below w.heap.size w w') : Between lo hi w w' :=
  ⟨h.os, h.tape, h.output, h.size, fun k hk _ => h.block k hk⟩

/-- The tasks ts lie in a row of their own, in a block from lo on and before hi. -/
def FreshT (lo hi : Nat) (W : World) (to : Option Addr) (tc : Nat) (ts : List (Int × Int)) : Prop :=
  ts = [] ∨ ∃ g xs, to = some ⟨g, 0, none⟩ ∧ g < hi ∧ W.ownsRow lo 47 2 (.slice (some ⟨g, 0, none⟩) ts.length tc) ts.length xs ∧ ∀ j, j < ts.length → xs[j * 2]? = some (.int .i64 (ts[j]?.getD (0, 0)).1) ∧ xs[j * 2 + 1]? = some (.int .i64 (ts[j]?.getD (0, 0)).2)
def FreshI (lo hi : Nat) (W : World) (qo : Option Addr) (qc : Nat) (q : List Int) : Prop :=
  q = [] ∨ ∃ g, qo = some ⟨g, 0, none⟩ ∧ g < hi ∧ W.ownsRow lo 3 1 (.slice (some ⟨g, 0, none⟩) q.length qc) q.length (q.map (Value.int .i64))
theorem FreshT.tasks {lo hi : Nat} {W : World} {to : Option Addr} {tc : Nat} {ts : List (Int × Int)} (h : FreshT lo hi W to tc ts) : TasksIn W.heap.size W to ts := by
  rcases h with h | ⟨g, xs, rfl, _, ho, hp⟩
  · exact .inl h
  · refine .inr ⟨g, 0, rfl, (owns_lt ho).2, fun j hj => ⟨?_, ?_⟩⟩
    · rw [Nat.zero_add, ho.cellAt (j * 2) (by omega)]; exact (hp j hj).1
    · rw [Nat.zero_add, ho.cellAt (j * 2 + 1) (by omega)]; exact (hp j hj).2
theorem FreshI.ints {lo hi : Nat} {W : World} {qo : Option Addr} {qc : Nat} {q : List Int} (h : FreshI lo hi W qo qc q) : IntsIn W.heap.size W qo q := by
  rcases h with h | ⟨g, rfl, _, ho⟩
  · exact .inl h
  · exact .inr ⟨g, 0, rfl, (owns_lt ho).2, fun j hj => by rw [Nat.zero_add, ho.cellAt j (by omega)]; simp [hj]⟩
theorem owns_block {w w' : World} {base : Nat} {e : TypeId} {size g n cap : Nat} {xs : List Value} (h : w.ownsRow base e size (.slice (some ⟨g, 0, none⟩) n cap) n xs) (hb : w'.heap[g]? = w.heap[g]?) : w'.ownsRow base e size (.slice (some ⟨g, 0, none⟩) n cap) n xs := by
  obtain ⟨h1, h2⟩ := h
  refine ⟨h1, ?_⟩
  rcases h2 with ⟨h', _⟩ | ⟨g', cap', cur, h', hg, hh, r⟩
  · simp at h'
  · have h'' := h'
    simp only [Value.slice.injEq, Option.some.injEq, Addr.mk.injEq, and_true, true_and] at h''
    obtain ⟨rfl, rfl⟩ := h''
    exact Or.inr ⟨g, cap, cur, h', hg, by rw [hb]; exact hh, r⟩
theorem FreshT.keep {lo hi : Nat} {W W' : World} {to : Option Addr} {tc : Nat} {ts : List (Int × Int)} (h : FreshT lo hi W to tc ts) (hk : ∀ k, lo ≤ k → k < hi → k < W.heap.size → W'.heap[k]? = W.heap[k]?) : FreshT lo hi W' to tc ts := by
  rcases h with h | ⟨g, xs, e, hg, ho, hp⟩
  · exact .inl h
  · exact .inr ⟨g, xs, e, hg, owns_block ho (hk g (owns_lt ho).1 hg (owns_lt ho).2), hp⟩
theorem FreshI.keep {lo hi : Nat} {W W' : World} {qo : Option Addr} {qc : Nat} {q : List Int} (h : FreshI lo hi W qo qc q) (hk : ∀ k, lo ≤ k → k < hi → k < W.heap.size → W'.heap[k]? = W.heap[k]?) : FreshI lo hi W' qo qc q := by
  rcases h with h | ⟨g, e, hg, ho⟩
  · exact .inl h
  · exact .inr ⟨g, e, hg, owns_block ho (hk g (owns_lt ho).1 hg (owns_lt ho).2)⟩
theorem FreshT.later {lo hi : Nat} {W W' : World} {to : Option Addr} {tc : Nat} {ts : List (Int × Int)} (h : FreshT lo hi W to tc ts) (hb : Below W.heap.size W W') : FreshT lo hi W' to tc ts := h.keep fun k _ _ hk => hb.block k hk
theorem FreshI.later {lo hi : Nat} {W W' : World} {qo : Option Addr} {qc : Nat} {q : List Int} (h : FreshI lo hi W qo qc q) (hb : Below W.heap.size W W') : FreshI lo hi W' qo qc q := h.keep fun k _ _ hk => hb.block k hk
theorem FreshT.wide {lo hi lo' hi' : Nat} {W : World} {to : Option Addr} {tc : Nat} {ts : List (Int × Int)} (h : FreshT lo hi W to tc ts) (h1 : lo' ≤ lo) (h2 : hi ≤ hi') : FreshT lo' hi' W to tc ts := by
  rcases h with h | ⟨g, xs, e, hg, ho, hp⟩
  · exact .inl h
  · exact .inr ⟨g, xs, e, by omega, ownsRow_base ho (Nat.le_trans h1 (owns_lt ho).1), hp⟩
theorem FreshI.wide {lo hi lo' hi' : Nat} {W : World} {qo : Option Addr} {qc : Nat} {q : List Int} (h : FreshI lo hi W qo qc q) (h1 : lo' ≤ lo) (h2 : hi ≤ hi') : FreshI lo' hi' W qo qc q := by
  rcases h with h | ⟨g, e, hg, ho⟩
  · exact .inl h
  · exact .inr ⟨g, e, by omega, ownsRow_base ho (Nat.le_trans h1 (owns_lt ho).1)⟩
theorem owns_type {w : World} {base : Nat} {e : TypeId} {size g n cap : Nat} {xs : List Value} (h : w.ownsRow base e size (.slice (some ⟨g, 0, none⟩) n cap) n xs) : ∃ cur, w.heap[g]? = some (.cells cur e (0, 0)) := by
  rcases h.2 with ⟨h', _⟩ | ⟨g', cap', cur, h', hb, hg, _⟩
  · simp at h'
  · simp only [Value.slice.injEq, Option.some.injEq, Addr.mk.injEq, and_true, true_and] at h'
    obtain ⟨rfl, rfl⟩ := h'
    exact ⟨cur, hg⟩
theorem owns_ne {w : World} {base base' size size' g g' n n' cap cap' : Nat} {xs xs' : List Value} (h : w.ownsRow base 47 size (.slice (some ⟨g, 0, none⟩) n cap) n xs) (h' : w.ownsRow base' 3 size' (.slice (some ⟨g', 0, none⟩) n' cap') n' xs') : g ≠ g' := by
  obtain ⟨c, e⟩ := owns_type h
  obtain ⟨c', e'⟩ := owns_type h'
  rintro rfl
  rw [e] at e'; simp at e'

/-- The address of a row, none where it has no element. -/
def eff (ao : Option Addr) (n : Nat) : Option Addr := if n = 0 then none else ao
theorem eff_pos {ao : Option Addr} {n : Nat} (h : 0 < n) : eff ao n = ao := by unfold eff; rw [if_neg (by omega)]

def markT (k : Int) (n : Nat) : List (Int × Int) := (List.range n).map (fun i : Nat => (k + 2 * (i : Int), k + 2 * (i : Int) + 1))
def markI (k : Int) (n : Nat) : List Int := (List.range n).map (fun i : Nat => k + (i : Int))
theorem markT_len (k : Int) (n : Nat) : (markT k n).length = n := by simp [markT]
theorem markI_len (k : Int) (n : Nat) : (markI k n).length = n := by simp [markI]
theorem markT_at (k : Int) (n j : Nat) (h : j < n) : (markT k n)[j]?.getD (0, 0) = (k + 2 * (j : Int), k + 2 * (j : Int) + 1) := by simp [markT, h]
theorem markI_at (k : Int) (n j : Nat) (h : j < n) : (markI k n)[j]?.getD 0 = k + (j : Int) := by simp [markI, h]

set_option maxHeartbeats 1000000 in
theorem markIntS_any (lo hi : Nat) (qo : Option Addr) (qc : Nat) (q : List Int) (k0 : Int) (w : World) (hl : q.length ≤ 2097152) (hk0 : 0 ≤ k0) (hk1 : k0 ≤ 16777216) (hF : FreshI lo hi w qo qc q) :
    Calls Try.prog 51 #[.slice qo q.length qc, .int .i64 k0] w fun e w' => e = .returned (.int .i64 (k0 + q.length)) ∧ FreshI lo hi w' qo qc (markI k0 q.length) ∧ OnlyAt (eff qo q.length) w w' := by
  rcases Nat.eq_zero_or_pos q.length with h0 | h0
  · obtain rfl : q = [] := List.length_eq_zero_iff.1 h0
    go_enter Try.func51, Try.ntmps51
    go_wp2
    go_loop [1, 5] (fun v i => v = .int .i64 k0 ∧ i = .int .i64 0) (fun _ _ => 0)
    case atStart => exact ⟨rfl, rfl⟩
    case round =>
      obtain ⟨rfl, rfl⟩ := hrel
      go_wp2
      go_ret
      exact ⟨by simp, .inl (by simp [markI]), OnlyAt.refl _ _⟩
  · rw [eff_pos h0]
    obtain ⟨g, rfl, hg, ho⟩ : ∃ g, qo = some ⟨g, 0, none⟩ ∧ g < hi ∧ w.ownsRow lo 3 1 (.slice (some ⟨g, 0, none⟩) q.length qc) q.length (q.map (Value.int .i64)) := by
      rcases hF with rfl | h
      · simp at h0
      · exact h
    have HO : Hid (w.ownsRow lo 3 1 (.slice (some ⟨g, 0, none⟩) q.length qc) q.length (q.map (Value.int .i64))) := ho
    clear ho
    go_enter Try.func51, Try.ntmps51
    go_wp2
    go_loopw [1, 5] (fun v i wr => ∃ (k : Nat) (xs : List Value), k ≤ q.length ∧ i = .int .i64 k ∧ v = .int .i64 (k0 + k) ∧ Hid (wr.ownsRow lo 3 1 (.slice (some ⟨g, 0, none⟩) q.length qc) q.length xs ∧ ∀ j : Nat, j < k → xs[j]? = some (.int .i64 (k0 + j))) ∧ OnlyAt (some ⟨g, 0, none⟩) w wr) (fun _ i _ => q.length - (intOf i).toNat)
    case atStart => exact ⟨0, _, Nat.zero_le _, rfl, by simp, ⟨HO.out, fun j hj => by omega⟩, OnlyAt.refl _ _⟩
    case round =>
      obtain ⟨k, xs, hk, rfl, rfl, ho, hnx⟩ := hrel
      by_cases hlt : k < q.length
      · have hxl : k < xs.length := by rw [ho.out.1.1]; omega
        have hst : wr.cell? ⟨g, k, none⟩ = some xs[k] := (ho.out.1.cellAt k (by omega)).trans (by simp [hxl])
        have hfr : wr.frozen? ⟨g, k, none⟩ = false := ho.out.1.frozenAt k
        go_wp2
        go_roundw
        case rel => exact ⟨k + 1, xs.set k (.int .i64 (k0 + k)), by omega, by go_num, by go_num, ⟨(ho.out.1.stored k _).1, fun j hj => by
          rw [List.getElem?_set]
          rcases Nat.lt_succ_iff_lt_or_eq.1 hj with h | rfl
          · rw [if_neg (by omega)]; exact ho.out.2 j h
          · rw [if_pos rfl, if_pos hxl]⟩, hnx.trans (OnlyAt.set g k _ _)⟩
        case measure => simp [intOf]; omega
      · obtain rfl : k = q.length := by omega
        have hxs : xs = (markI k0 q.length).map (Value.int .i64) := by
          apply List.ext_getElem?
          intro j
          by_cases hj : j < q.length
          · rw [ho.out.2 j hj]; simp [markI, hj]
          · have e1 : xs.length = q.length := by rw [ho.out.1.1]; omega
            rw [List.getElem?_eq_none (by omega), List.getElem?_eq_none (by simp [markI_len]; omega)]
        subst hxs
        go_wp2
        go_ret
        refine ⟨rfl, .inr ⟨g, rfl, hg, ?_⟩, hnx⟩
        rw [markI_len]; exact ho.out.1

set_option maxHeartbeats 1000000 in
theorem markTaskS_any (lo hi : Nat) (to : Option Addr) (tc : Nat) (ts : List (Int × Int)) (k0 : Int) (w : World) (hl : ts.length ≤ 2097152) (hk0 : 0 ≤ k0) (hk1 : k0 ≤ 1024) (hF : FreshT lo hi w to tc ts) :
    Calls Try.prog 50 #[.slice to ts.length tc, .int .i64 k0] w fun e w' => e = .returned (.int .i64 (k0 + 2 * ts.length)) ∧ FreshT lo hi w' to tc (markT k0 ts.length) ∧ OnlyAt (eff to ts.length) w w' := by
  rcases Nat.eq_zero_or_pos ts.length with h0 | h0
  · obtain rfl : ts = [] := List.length_eq_zero_iff.1 h0
    go_enter Try.func50, Try.ntmps50
    go_wp2
    go_loop [1, 5] (fun v i => v = .int .i64 k0 ∧ i = .int .i64 0) (fun _ _ => 0)
    case atStart => exact ⟨rfl, rfl⟩
    case round =>
      obtain ⟨rfl, rfl⟩ := hrel
      go_wp2
      go_ret
      exact ⟨by simp, .inl (by simp [markT]), OnlyAt.refl _ _⟩
  · rw [eff_pos h0]
    obtain ⟨g, xs0, rfl, hg, ho⟩ : ∃ g xs, to = some ⟨g, 0, none⟩ ∧ g < hi ∧ w.ownsRow lo 47 2 (.slice (some ⟨g, 0, none⟩) ts.length tc) ts.length xs := by
      rcases hF with rfl | ⟨g, xs, e, h1, h2, _⟩
      · simp at h0
      · exact ⟨g, xs, e, h1, h2⟩
    have HO : Hid (w.ownsRow lo 47 2 (.slice (some ⟨g, 0, none⟩) ts.length tc) ts.length xs0) := ho
    clear ho
    go_enter Try.func50, Try.ntmps50
    go_wp2
    go_loopw [1, 5] (fun v i wr => ∃ (k : Nat) (xs : List Value), k ≤ ts.length ∧ i = .int .i64 k ∧ v = .int .i64 (k0 + 2 * k) ∧ Hid (wr.ownsRow lo 47 2 (.slice (some ⟨g, 0, none⟩) ts.length tc) ts.length xs ∧ ∀ j : Nat, j < k → xs[j * 2]? = some (.int .i64 (k0 + 2 * j)) ∧ xs[j * 2 + 1]? = some (.int .i64 (k0 + 2 * j + 1))) ∧ OnlyAt (some ⟨g, 0, none⟩) w wr) (fun _ i _ => ts.length - (intOf i).toNat)
    case atStart => exact ⟨0, _, Nat.zero_le _, rfl, by simp, ⟨HO.out, fun j hj => by omega⟩, OnlyAt.refl _ _⟩
    case round =>
      obtain ⟨k, xs, hk, rfl, rfl, ho, hnx⟩ := hrel
      by_cases hlt : k < ts.length
      · have hxl : k * 2 + 1 < xs.length := by rw [ho.out.1.1]; omega
        have hst1 : wr.cell? ⟨g, k * 2, none⟩ = some xs[k * 2] := (ho.out.1.cellAt (k * 2) (by omega)).trans (by simp)
        have hst2 : wr.cell? ⟨g, k * 2 + 1, none⟩ = some xs[k * 2 + 1] := (ho.out.1.cellAt (k * 2 + 1) (by omega)).trans (by simp [hxl])
        have hfr1 : wr.frozen? ⟨g, k * 2, none⟩ = false := ho.out.1.frozenAt (k * 2)
        have hfr2 : wr.frozen? ⟨g, k * 2 + 1, none⟩ = false := ho.out.1.frozenAt (k * 2 + 1)
        go_wp2
        go_roundw
        case rel => exact ⟨k + 1, (xs.set (k * 2) (.int .i64 (k0 + 2 * k))).set (k * 2 + 1) (.int .i64 (k0 + 2 * k + 1)), by omega, by go_num, by go_num, ⟨((World.ownsRow.stored ho.out.1 (k * 2) _).1.stored (k * 2 + 1) _).1, fun j hj => by
          simp only [List.getElem?_set, List.length_set]
          rcases Nat.lt_succ_iff_lt_or_eq.1 hj with h | rfl
          · rw [if_neg (by omega), if_neg (by omega), if_neg (by omega), if_neg (by omega)]; exact ho.out.2 j h
          · rw [if_neg (by omega), if_pos rfl, if_pos (by omega), if_pos rfl, if_pos hxl]; exact ⟨rfl, rfl⟩⟩, (hnx.trans (OnlyAt.set g (k * 2) _ _)).trans (OnlyAt.set g (k * 2 + 1) _ _)⟩
        case measure => simp [intOf]; omega
      · obtain rfl : k = ts.length := by omega
        go_wp2
        go_ret
        refine ⟨rfl, .inr ⟨g, xs, rfl, hg, ?_, fun j hj => ?_⟩, hnx⟩
        · rw [markT_len]; exact ho.out.1
        · rw [markT_len] at hj; rw [markT_at _ _ _ hj]; exact ho.out.2 j hj

set_option maxHeartbeats 1000000 in
theorem heldIntS_any (qo : Option Addr) (qc : Nat) (n : Nat) (k0 : Int) (w : World) (hl : n ≤ 2097152) (hk0 : 0 ≤ k0) (hk1 : k0 ≤ 16777216) (hF : IntsIn w.heap.size w qo (markI k0 n)) :
    Calls Try.prog 53 #[.slice qo n qc, .int .i64 k0] w fun e w' => e = .returned (.int .i64 (k0 + n)) ∧ w' = w := by
  go_enter Try.func53, Try.ntmps53
  go_wp2
  go_loop [1, 5] (fun v i => ∃ k : Nat, k ≤ n ∧ i = .int .i64 k ∧ v = .int .i64 (k0 + k)) (fun _ i => n - (intOf i).toNat)
  case atStart => exact ⟨0, Nat.zero_le _, rfl, by simp⟩
  case round =>
    obtain ⟨k, hk, rfl, rfl⟩ := hrel
    by_cases hlt : k < n
    · obtain ⟨b, off, rfl, hb, hc⟩ := hF.pos (k := k) (by rw [markI_len]; exact hlt)
      have hck := hc k (by rw [markI_len]; exact hlt)
      rw [markI_at _ _ _ hlt] at hck
      clear hc hF
      have hne : (k0 + (k : Int) != k0 + (k : Int)) = false := by simp
      go_wp2
      go_round
      case rel => exact ⟨k + 1, by omega, by go_num, by go_num⟩
      case measure => simp [intOf]; omega
    · obtain rfl : k = n := by omega
      go_wp2
      go_ret
      exact ⟨rfl, rfl⟩

set_option maxHeartbeats 1000000 in
theorem heldTaskS_any (to : Option Addr) (tc : Nat) (n : Nat) (k0 : Int) (w : World) (hl : n ≤ 2097152) (hk0 : 0 ≤ k0) (hk1 : k0 ≤ 1024) (hF : TasksIn w.heap.size w to (markT k0 n)) :
    Calls Try.prog 52 #[.slice to n tc, .int .i64 k0] w fun e w' => e = .returned (.int .i64 (k0 + 2 * n)) ∧ w' = w := by
  go_enter Try.func52, Try.ntmps52
  go_wp2
  go_loop [1, 5] (fun v i => ∃ k : Nat, k ≤ n ∧ i = .int .i64 k ∧ v = .int .i64 (k0 + 2 * k)) (fun _ i => n - (intOf i).toNat)
  case atStart => exact ⟨0, Nat.zero_le _, rfl, by simp⟩
  case round =>
    obtain ⟨k, hk, rfl, rfl⟩ := hrel
    by_cases hlt : k < n
    · obtain ⟨b, off, rfl, hb, hc⟩ := hF.pos (k := k) (by rw [markT_len]; exact hlt)
      have hck := hc k (by rw [markT_len]; exact hlt)
      rw [markT_at _ _ _ hlt] at hck
      obtain ⟨hck1, hck2⟩ := hck
      clear hc hF
      have hne : (k0 + 2 * (k : Int) != k0 + 2 * (k : Int)) = false := by simp
      have hne2 : (k0 + 2 * (k : Int) + 1 != k0 + 2 * (k : Int) + 1) = false := by simp
      dsimp only at hck1 hck2
      go_wp2
      go_round
      case rel => exact ⟨k + 1, by omega, by go_num, by go_num⟩
      case measure => simp [intOf]; omega
    · obtain rfl : k = n := by omega
      go_wp2
      go_ret
      exact ⟨rfl, rfl⟩

theorem FreshI.only {lo hi : Nat} {W W' : World} {to qo : Option Addr} {tc qc : Nat} {ts : List (Int × Int)} {q : List Int} (h : FreshI lo hi W qo qc q) (hT : FreshT lo hi W to tc ts) (hb : OnlyAt (eff to ts.length) W W') : FreshI lo hi W' qo qc q := by
  rcases h with h | ⟨g, e, hg, ho⟩
  · exact .inl h
  · refine .inr ⟨g, e, hg, owns_block ho (hb.block g fun g' e' => ?_)⟩
    rcases hT with rfl | ⟨g2, xs, e2, _, ho2, _⟩
    · simp [eff] at e'
    · unfold eff at e'
      split at e'
      · cases e'
      · rw [e2] at e'; simp at e'; subst e'
        exact fun x => owns_ne ho2 ho x.symm
theorem FreshT.only {lo hi : Nat} {W W' : World} {to qo : Option Addr} {tc qc : Nat} {ts : List (Int × Int)} {q : List Int} (h : FreshT lo hi W to tc ts) (hI : FreshI lo hi W qo qc q) (hb : OnlyAt (eff qo q.length) W W') : FreshT lo hi W' to tc ts := by
  rcases h with h | ⟨g, xs, e, hg, ho, hp⟩
  · exact .inl h
  · refine .inr ⟨g, xs, e, hg, owns_block ho (hb.block g fun g' e' => ?_), hp⟩
    rcases hI with rfl | ⟨g2, e2, _, ho2⟩
    · simp [eff] at e'
    · unfold eff at e'
      split at e'
      · cases e'
      · rw [e2] at e'; simp at e'; subst e'
        exact owns_ne ho ho2
theorem FreshT.between {lo hi : Nat} {W W' : World} {to : Option Addr} {tc : Nat} {ts : List (Int × Int)} (h : FreshT lo hi W to tc ts) (hb : OnlyAt (eff to ts.length) W W') : Between lo hi W W' := by
  refine ⟨hb.os, hb.tape, hb.output, by rw [hb.size]; exact Nat.le_refl _, fun k _ hr => hb.block k fun g e => ?_⟩
  rcases h with rfl | ⟨g2, xs, e2, hg, ho, _⟩
  · simp [eff] at e
  · unfold eff at e
    split at e
    · cases e
    · rw [e2] at e; simp at e; subst e
      have := (owns_lt ho).1
      omega
theorem FreshI.between {lo hi : Nat} {W W' : World} {qo : Option Addr} {qc : Nat} {q : List Int} (h : FreshI lo hi W qo qc q) (hb : OnlyAt (eff qo q.length) W W') : Between lo hi W W' := by
  refine ⟨hb.os, hb.tape, hb.output, by rw [hb.size]; exact Nat.le_refl _, fun k _ hr => hb.block k fun g e => ?_⟩
  rcases h with rfl | ⟨g2, e2, hg, ho⟩
  · simp [eff] at e
  · unfold eff at e
    split at e
    · cases e
    · rw [e2] at e; simp at e; subst e
      have := (owns_lt ho).1
      omega

set_option maxHeartbeats 1000000 in
theorem markBoard_any (lo hi : Nat) (to : Option Addr) (tc : Nat) (ts : List (Int × Int)) (qo : Option Addr) (qc : Nat) (q : List Int) (w : World) (hl : ts.length ≤ 2097152) (hlq : q.length ≤ 2097152) (hhi : hi ≤ w.heap.size) (hT : FreshT lo hi w to tc ts) (hI : FreshI lo hi w qo qc q) :
    Calls Try.prog 19 #[.agg #[.slice to ts.length tc, .slice qo q.length qc], .int .i64 1] w fun e w' => e = .returned (.int .i64 (1 + 2 * ts.length + q.length)) ∧
      FreshT lo hi w' to tc (markT 1 ts.length) ∧ FreshI lo hi w' qo qc (markI (1 + 2 * ts.length) q.length) ∧ Between lo hi w w' := by
  go_enter Try.func19, Try.ntmps19
  go_wp2_with fail
  refine (markTaskS_any lo hi to tc ts 1 _ hl (by omega) (by omega) (hT.later (below1 _ _))).mono ?_
  rintro e w1 ⟨rfl, hT1, hO1⟩
  have hI1 := (hI.later (below1 w (.cells #[.slice to ts.length tc, .slice qo q.length qc] 30))).only (hT.later (below1 _ _)) hO1
  have hb0 : Between lo hi w (w.alloc (.cells #[.slice to ts.length tc, .slice qo q.length qc] 30)) := Between.of_below (below1 _ _)
  have hb1 := hb0.trans ((hT.later (below1 w (.cells #[.slice to ts.length tc, .slice qo q.length qc] 30))).between hO1)
  have hB1 := (hT.later (below1 w (.cells #[.slice to ts.length tc, .slice qo q.length qc] 30))).between hO1
  have c1 : w1.cell? ⟨w.heap.size, 1, none⟩ = some (.slice qo q.length qc) := (World.cell?_of_block (a := ⟨w.heap.size, 1, none⟩) (hB1.block w.heap.size (by simp) (.inr hhi))).trans (by simp)
  have HT1 : Hid (FreshT lo hi w1 to tc (markT 1 ts.length)) := hT1
  clear hT1 hO1 hB1 hb0
  go_wp2_with fail
  refine (markIntS_any lo hi qo qc q (1 + 2 * ts.length) w1 hlq (by omega) (by omega) hI1).mono ?_
  rintro e w2 ⟨rfl, hI2, hO2⟩
  have hT2 := HT1.out.only hI1 hO2
  have hb2 := hb1.trans (hI1.between hO2)
  have HE : Hid (FreshI lo hi w2 qo qc (markI (1 + 2 * ts.length) q.length)) := hI2
  clear hI2 hO2
  go_wp2
  go_ret
  exact ⟨rfl, hT2, HE.out, hb2⟩

set_option maxHeartbeats 1000000 in
theorem heldBoard_any (to : Option Addr) (tc : Nat) (n : Nat) (qo : Option Addr) (qc : Nat) (m : Nat) (w : World) (hl : n ≤ 2097152) (hlq : m ≤ 2097152) (hT : TasksIn w.heap.size w to (markT 1 n)) (hI : IntsIn w.heap.size w qo (markI (1 + 2 * n) m)) :
    Calls Try.prog 20 #[.agg #[.slice to n tc, .slice qo m qc], .int .i64 1] w fun e w' => e = .returned (.int .i64 (1 + 2 * n + m)) ∧ Below w.heap.size w w' := by
  go_enter Try.func20, Try.ntmps20
  go_wp2_with fail
  refine (heldTaskS_any to tc n 1 _ hl (by omega) (by omega) (hT.later (below1 _ _))).mono ?_
  rintro e w1 ⟨rfl, rfl⟩
  go_wp2_with fail
  refine (heldIntS_any qo qc m (1 + 2 * n) _ hlq (by omega) (by omega) (hI.later (below1 _ _))).mono ?_
  rintro e w1 ⟨rfl, rfl⟩
  go_wp2
  go_ret
  exact ⟨rfl, below1 _ _⟩
end Go.Proofs.Ytemmjkmaiedadaa
