/- Rows of those that are woken; the laws' marks. No conditions but those written. -/
import Derived.Test.YtlnjhajdbofhlaaBd
namespace Go.Proofs.Ytlnjhajdbofhlaa
open Go.RowKit

/-- The slice at ao holds the woken ks, in a block below n. -/
def WokIn (n : Nat) (W : World) (ao : Option Addr) (ks : List T4) : Prop :=
  ks = [] ∨ ∃ b off, ao = some ⟨b, off, none⟩ ∧ b < n ∧ ∀ j, j < ks.length → W.cell? ⟨b, off + j * 4, none⟩ = some (.int .i64 (t4 ks j).1) ∧ W.cell? ⟨b, off + j * 4 + 1, none⟩ = some (.int .i64 (t4 ks j).2.1) ∧ W.cell? ⟨b, off + j * 4 + 2, none⟩ = some (.int .i64 (t4 ks j).2.2.1) ∧ W.cell? ⟨b, off + j * 4 + 3, none⟩ = some (.bool (t4 ks j).2.2.2)
theorem WokIn.pos {n : Nat} {W : World} {ao : Option Addr} {ks : List T4} (h : WokIn n W ao ks) {k : Nat} (hk : k < ks.length) :
    ∃ b off, ao = some ⟨b, off, none⟩ ∧ b < n ∧ ∀ j, j < ks.length → W.cell? ⟨b, off + j * 4, none⟩ = some (.int .i64 (t4 ks j).1) ∧ W.cell? ⟨b, off + j * 4 + 1, none⟩ = some (.int .i64 (t4 ks j).2.1) ∧ W.cell? ⟨b, off + j * 4 + 2, none⟩ = some (.int .i64 (t4 ks j).2.2.1) ∧ W.cell? ⟨b, off + j * 4 + 3, none⟩ = some (.bool (t4 ks j).2.2.2) := by
  rcases h with rfl | h
  · simp at hk
  · exact h
theorem WokIn.below {n : Nat} {W W' : World} {ao : Option Addr} {ks : List T4} (h : WokIn n W ao ks) (hb : Below n W W') : WokIn n W' ao ks := by
  rcases h with rfl | ⟨b, off, e, hn, hc⟩
  · exact .inl rfl
  · exact .inr ⟨b, off, e, hn, fun j hj => ⟨(hb.cell (p := ⟨b, off + j * 4, none⟩) hn).trans (hc j hj).1, (hb.cell (p := ⟨b, off + j * 4 + 1, none⟩) hn).trans (hc j hj).2.1, (hb.cell (p := ⟨b, off + j * 4 + 2, none⟩) hn).trans (hc j hj).2.2.1, (hb.cell (p := ⟨b, off + j * 4 + 3, none⟩) hn).trans (hc j hj).2.2.2⟩⟩
theorem WokIn.later {W W' : World} {ao : Option Addr} {ks : List T4} (h : WokIn W.heap.size W ao ks) (hb : Below W.heap.size W W') : WokIn W'.heap.size W' ao ks := by
  rcases h.below hb with h | ⟨b, off, e, hn, hc⟩
  · exact .inl h
  · exact .inr ⟨b, off, e, Nat.lt_of_lt_of_le hn hb.size, hc⟩
/-- The cells xs are those of the woken ks. -/
def Cells4 (xs : List Value) (ks : List T4) : Prop := ∀ j, j < ks.length → xs[j * 4]? = some (.int .i64 (t4 ks j).1) ∧ xs[j * 4 + 1]? = some (.int .i64 (t4 ks j).2.1) ∧ xs[j * 4 + 2]? = some (.int .i64 (t4 ks j).2.2.1) ∧ xs[j * 4 + 3]? = some (.bool (t4 ks j).2.2.2)
/-- The woken ks lie in a row of their own, in a block from lo on and before hi. -/
def FreshK (lo hi : Nat) (W : World) (to : Option Addr) (tc : Nat) (ks : List T4) : Prop :=
  ks = [] ∨ ∃ g xs, to = some ⟨g, 0, none⟩ ∧ g < hi ∧ W.ownsRow lo 35 4 (.slice (some ⟨g, 0, none⟩) ks.length tc) ks.length xs ∧ Cells4 xs ks
theorem FreshK.wok {lo hi : Nat} {W : World} {to : Option Addr} {tc : Nat} {ks : List T4} (h : FreshK lo hi W to tc ks) : WokIn W.heap.size W to ks := by
  rcases h with h | ⟨g, xs, rfl, _, ho, hp⟩
  · exact .inl h
  · refine .inr ⟨g, 0, rfl, (owns_lt ho).2, fun j hj => ⟨?_, ?_, ?_, ?_⟩⟩
    · rw [Nat.zero_add, ho.cellAt (j * 4) (by omega)]; exact (hp j hj).1
    · rw [Nat.zero_add, ho.cellAt (j * 4 + 1) (by omega)]; exact (hp j hj).2.1
    · rw [Nat.zero_add, ho.cellAt (j * 4 + 2) (by omega)]; exact (hp j hj).2.2.1
    · rw [Nat.zero_add, ho.cellAt (j * 4 + 3) (by omega)]; exact (hp j hj).2.2.2
theorem FreshK.keep {lo hi : Nat} {W W' : World} {to : Option Addr} {tc : Nat} {ks : List T4} (h : FreshK lo hi W to tc ks) (hk : ∀ k, lo ≤ k → k < hi → k < W.heap.size → W'.heap[k]? = W.heap[k]?) : FreshK lo hi W' to tc ks := by
  rcases h with h | ⟨g, xs, e, hg, ho, hp⟩
  · exact .inl h
  · exact .inr ⟨g, xs, e, hg, owns_block ho (hk g (owns_lt ho).1 hg (owns_lt ho).2), hp⟩
theorem FreshK.later {lo hi : Nat} {W W' : World} {to : Option Addr} {tc : Nat} {ks : List T4} (h : FreshK lo hi W to tc ks) (hb : Below W.heap.size W W') : FreshK lo hi W' to tc ks := h.keep fun k _ _ hk => hb.block k hk
theorem FreshK.wide {lo hi lo' hi' : Nat} {W : World} {to : Option Addr} {tc : Nat} {ks : List T4} (h : FreshK lo hi W to tc ks) (h1 : lo' ≤ lo) (h2 : hi ≤ hi') : FreshK lo' hi' W to tc ks := by
  rcases h with h | ⟨g, xs, e, hg, ho, hp⟩
  · exact .inl h
  · exact .inr ⟨g, xs, e, by omega, ownsRow_base ho (Nat.le_trans h1 (owns_lt ho).1), hp⟩
theorem FreshK.setBelow {lo hi : Nat} {W : World} {to : Option Addr} {tc : Nat} {ks : List T4} (h : FreshK lo hi W to tc ks) {a : Addr} (ha : a.block < lo) (u : Value) : FreshK lo hi (W.setCell a u) to tc ks := h.keep fun k hk _ _ => Below.heap_setCell W a u k (by omega)
theorem FreshK.between {lo hi : Nat} {W W' : World} {to : Option Addr} {tc : Nat} {ks : List T4} (h : FreshK lo hi W to tc ks) (hb : OnlyAt (eff to ks.length) W W') : Between lo hi W W' := by
  refine ⟨hb.os, hb.tape, hb.output, by rw [hb.size]; exact Nat.le_refl _, fun k _ hr => hb.block k fun g e => ?_⟩
  rcases h with rfl | ⟨g2, xs, e2, hg, ho, _⟩
  · simp [eff] at e
  · unfold eff at e
    split at e
    · cases e
    · rw [e2] at e; simp at e; subst e
      have := (owns_lt ho).1
      omega
theorem FreshK.between' {lo hi lo' hi' : Nat} {W W' : World} {to : Option Addr} {tc : Nat} {ks : List T4} (h : FreshK lo hi W to tc ks) (hb : Between lo' hi' W W') (hd : hi ≤ lo' ∨ hi' ≤ lo) : FreshK lo hi W' to tc ks :=
  h.keep fun k h1 h2 h3 => hb.block k h3 (by omega)

/-- A row of elements of the type e, or none. -/
def RowAt (W : World) (ao : Option Addr) (n : Nat) (e : TypeId) : Prop := n = 0 ∨ ∃ g cur, ao = some ⟨g, 0, none⟩ ∧ W.heap[g]? = some (.cells cur e (0, 0))
theorem FreshI.rowAt {lo hi : Nat} {W : World} {qo : Option Addr} {qc : Nat} {q : List Int} (h : FreshI lo hi W qo qc q) : RowAt W qo q.length 3 := by
  rcases h with rfl | ⟨g, e, hg, ho⟩
  · exact .inl rfl
  · obtain ⟨c, hc⟩ := owns_type ho; exact .inr ⟨g, c, e, hc⟩
theorem FreshC.rowAt {lo hi : Nat} {W : World} {to : Option Addr} {tc : Nat} {ts : List T3} (h : FreshC lo hi W to tc ts) : RowAt W to ts.length 28 := by
  rcases h with rfl | ⟨g, xs, e, hg, ho, _⟩
  · exact .inl rfl
  · obtain ⟨c, hc⟩ := owns_type ho; exact .inr ⟨g, c, e, hc⟩
theorem FreshK.rowAt {lo hi : Nat} {W : World} {to : Option Addr} {tc : Nat} {ks : List T4} (h : FreshK lo hi W to tc ks) : RowAt W to ks.length 35 := by
  rcases h with rfl | ⟨g, xs, e, hg, ho, _⟩
  · exact .inl rfl
  · obtain ⟨c, hc⟩ := owns_type ho; exact .inr ⟨g, c, e, hc⟩
/-- Where a row lies another does not. -/
def Off (ao : Option Addr) (n : Nat) (bo : Option Addr) (m : Nat) : Prop := n = 0 ∨ m = 0 ∨ ao ≠ bo
theorem RowAt.off {W : World} {ao bo : Option Addr} {n m : Nat} {e e' : TypeId} (h : RowAt W ao n e) (h' : RowAt W bo m e') (hne : e ≠ e') : Off ao n bo m := by
  rcases h with h | ⟨g, c, rfl, hc⟩
  · exact .inl h
  · rcases h' with h' | ⟨g', c', rfl, hc'⟩
    · exact .inr (.inl h')
    · refine .inr (.inr fun x => ?_)
      cases x
      rw [hc] at hc'; simp at hc'; exact hne hc'.2
theorem Off.symm {ao bo : Option Addr} {n m : Nat} (h : Off ao n bo m) : Off bo m ao n := by
  rcases h with h | h | h
  · exact .inr (.inl h)
  · exact .inl h
  · exact .inr (.inr (Ne.symm h))
theorem Apart.off {so ro : Option Addr} {s r : List T3} (h : Apart so s ro r) : Off so s.length ro r.length := by
  rcases h with rfl | rfl | h
  · exact .inl rfl
  · exact .inr (.inl rfl)
  · exact .inr (.inr h)
theorem Off.ne {ao bo : Option Addr} {n m : Nat} (h : Off ao n bo m) (hn : n ≠ 0) {g : Nat} (e : ao = some ⟨g, 0, none⟩) : ∀ g', eff bo m = some ⟨g', 0, none⟩ → g ≠ g' := by
  intro g' he
  unfold eff at he
  split at he
  · cases he
  · rintro rfl
    rcases h with h | h | h
    · exact hn h
    · contradiction
    · exact h (e.trans he.symm)
theorem FreshI.off {lo hi : Nat} {W W' : World} {qo bo : Option Addr} {qc m : Nat} {q : List Int} (h : FreshI lo hi W qo qc q) (ho : Off qo q.length bo m) (hb : OnlyAt (eff bo m) W W') : FreshI lo hi W' qo qc q := by
  rcases h with h | ⟨g, e, hg, hw⟩
  · exact .inl h
  · by_cases hn : q.length = 0
    · exact .inl (List.length_eq_zero_iff.1 hn)
    · exact .inr ⟨g, e, hg, owns_block hw (hb.block g (ho.ne hn e))⟩
theorem FreshC.off {lo hi : Nat} {W W' : World} {to bo : Option Addr} {tc m : Nat} {ts : List T3} (h : FreshC lo hi W to tc ts) (ho : Off to ts.length bo m) (hb : OnlyAt (eff bo m) W W') : FreshC lo hi W' to tc ts := by
  rcases h with h | ⟨g, xs, e, hg, hw, hp⟩
  · exact .inl h
  · by_cases hn : ts.length = 0
    · exact .inl (List.length_eq_zero_iff.1 hn)
    · exact .inr ⟨g, xs, e, hg, owns_block hw (hb.block g (ho.ne hn e)), hp⟩
theorem FreshK.off {lo hi : Nat} {W W' : World} {to bo : Option Addr} {tc m : Nat} {ks : List T4} (h : FreshK lo hi W to tc ks) (ho : Off to ks.length bo m) (hb : OnlyAt (eff bo m) W W') : FreshK lo hi W' to tc ks := by
  rcases h with h | ⟨g, xs, e, hg, hw, hp⟩
  · exact .inl h
  · by_cases hn : ks.length = 0
    · exact .inl (List.length_eq_zero_iff.1 hn)
    · exact .inr ⟨g, xs, e, hg, owns_block hw (hb.block g (ho.ne hn e)), hp⟩

set_option maxHeartbeats 1000000 in
theorem markIntS_any (lo hi : Nat) (qo : Option Addr) (qc : Nat) (q : List Int) (k0 : Int) (w : World) (hl : q.length ≤ 2097152) (hk0 : 0 ≤ k0) (hk1 : k0 ≤ 16777216) (hF : FreshI lo hi w qo qc q) :
    Calls Try.prog 41 #[.slice qo q.length qc, .int .i64 k0] w fun e w' => e = .returned (.int .i64 (k0 + q.length)) ∧ FreshI lo hi w' qo qc (markI k0 q.length) ∧ OnlyAt (eff qo q.length) w w' := by
  rcases Nat.eq_zero_or_pos q.length with h0 | h0
  · obtain rfl : q = [] := List.length_eq_zero_iff.1 h0
    go_enter Try.func41, Try.ntmps41
    go_wp2
    go_loop [1, 5] (fun v i => v = .int .i64 k0 ∧ i = .int .i64 0) (fun _ _ => 0)
    case atStart => exact ⟨rfl, rfl⟩
    case round =>
      obtain ⟨rfl, rfl⟩ := hrel
      go_wp2
      go_ret
      exact ⟨by simp, .inl (by simp [markI]), OnlyAt.refl _ _⟩
  · rw [eff_pos h0]
    obtain ⟨g, rfl, hg, ho⟩ : ∃ g, qo = some ⟨g, 0, none⟩ ∧ g < hi ∧ w.ownsRow lo 3 1 (.slice (some ⟨g, 0, none⟩) q.length qc) q.length (q.map (Value.int .i64)) := by
      rcases hF with rfl | h
      · simp at h0
      · exact h
    have HO : Hid (w.ownsRow lo 3 1 (.slice (some ⟨g, 0, none⟩) q.length qc) q.length (q.map (Value.int .i64))) := ho
    clear ho
    go_enter Try.func41, Try.ntmps41
    go_wp2
    go_loopw [1, 5] (fun v i wr => ∃ (k : Nat) (xs : List Value), k ≤ q.length ∧ i = .int .i64 k ∧ v = .int .i64 (k0 + k) ∧ Hid (wr.ownsRow lo 3 1 (.slice (some ⟨g, 0, none⟩) q.length qc) q.length xs ∧ ∀ j : Nat, j < k → xs[j]? = some (.int .i64 (k0 + j))) ∧ OnlyAt (some ⟨g, 0, none⟩) w wr) (fun _ i _ => q.length - (intOf i).toNat)
    case atStart => exact ⟨0, _, Nat.zero_le _, rfl, by simp, ⟨HO.out, fun j hj => by omega⟩, OnlyAt.refl _ _⟩
    case round =>
      obtain ⟨k, xs, hk, rfl, rfl, ho, hnx⟩ := hrel
      by_cases hlt : k < q.length
      · have hxl : k < xs.length := by rw [ho.out.1.1]; omega
        have hst : wr.cell? ⟨g, k, none⟩ = some xs[k] := (ho.out.1.cellAt k (by omega)).trans (by simp [hxl])
        have hfr : wr.frozen? ⟨g, k, none⟩ = false := ho.out.1.frozenAt k
        go_wp2
        go_roundw
        case rel => exact ⟨k + 1, xs.set k (.int .i64 (k0 + k)), by omega, by go_num, by go_num, ⟨(ho.out.1.stored k _).1, fun j hj => by
          rw [List.getElem?_set]
          rcases Nat.lt_succ_iff_lt_or_eq.1 hj with h | rfl
          · rw [if_neg (by omega)]; exact ho.out.2 j h
          · rw [if_pos rfl, if_pos hxl]⟩, hnx.trans (OnlyAt.set g k _ _)⟩
        case measure => simp [intOf]; omega
      · obtain rfl : k = q.length := by omega
        have hxs : xs = (markI k0 q.length).map (Value.int .i64) := by
          apply List.ext_getElem?
          intro j
          by_cases hj : j < q.length
          · rw [ho.out.2 j hj]; simp [markI, hj]
          · have e1 : xs.length = q.length := by rw [ho.out.1.1]; omega
            rw [List.getElem?_eq_none (by omega), List.getElem?_eq_none (by simp [markI_len]; omega)]
        subst hxs
        go_wp2
        go_ret
        refine ⟨rfl, .inr ⟨g, rfl, hg, ?_⟩, hnx⟩
        rw [markI_len]; exact ho.out.1
set_option maxHeartbeats 1000000 in
theorem heldIntS_any (qo : Option Addr) (qc : Nat) (n : Nat) (k0 : Int) (w : World) (hl : n ≤ 2097152) (hk0 : 0 ≤ k0) (hk1 : k0 ≤ 16777216) (hF : IntsIn w.heap.size w qo (markI k0 n)) :
    Calls Try.prog 42 #[.slice qo n qc, .int .i64 k0] w fun e w' => e = .returned (.int .i64 (k0 + n)) ∧ w' = w := by
  go_enter Try.func42, Try.ntmps42
  go_wp2
  go_loop [1, 5] (fun v i => ∃ k : Nat, k ≤ n ∧ i = .int .i64 k ∧ v = .int .i64 (k0 + k)) (fun _ i => n - (intOf i).toNat)
  case atStart => exact ⟨0, Nat.zero_le _, rfl, by simp⟩
  case round =>
    obtain ⟨k, hk, rfl, rfl⟩ := hrel
    by_cases hlt : k < n
    · obtain ⟨b, off, rfl, hb, hc⟩ := hF.pos (k := k) (by rw [markI_len]; exact hlt)
      have hck := hc k (by rw [markI_len]; exact hlt)
      rw [markI_at _ _ _ hlt] at hck
      clear hc hF
      have hne : (k0 + (k : Int) != k0 + (k : Int)) = false := by simp
      go_wp2
      go_round
      case rel => exact ⟨k + 1, by omega, by go_num, by go_num⟩
      case measure => simp [intOf]; omega
    · obtain rfl : k = n := by omega
      go_wp2
      go_ret
      exact ⟨rfl, rfl⟩
set_option maxHeartbeats 1000000 in
theorem markWaiterS_any (lo hi : Nat) (to : Option Addr) (tc : Nat) (ts : List T3) (k0 : Int) (w : World) (hl : ts.length ≤ 2097152) (hk0 : 0 ≤ k0) (hk1 : k0 ≤ 16777216) (hF : FreshC lo hi w to tc ts) :
    Calls Try.prog 75 #[.slice to ts.length tc, .int .i64 k0] w fun e w' => e = .returned (.int .i64 (k0 + 3 * ts.length)) ∧ FreshC lo hi w' to tc (markC k0 ts.length) ∧ OnlyAt (eff to ts.length) w w' := by
  rcases Nat.eq_zero_or_pos ts.length with h0 | h0
  · obtain rfl : ts = [] := List.length_eq_zero_iff.1 h0
    go_enter Try.func75, Try.ntmps75
    go_wp2
    go_loop [1, 5] (fun v i => v = .int .i64 k0 ∧ i = .int .i64 0) (fun _ _ => 0)
    case atStart => exact ⟨rfl, rfl⟩
    case round =>
      obtain ⟨rfl, rfl⟩ := hrel
      go_wp2
      go_ret
      exact ⟨by simp, .inl (by simp [markC]), OnlyAt.refl _ _⟩
  · rw [eff_pos h0]
    obtain ⟨g, xs0, rfl, hg, ho⟩ : ∃ g xs, to = some ⟨g, 0, none⟩ ∧ g < hi ∧ w.ownsRow lo 28 3 (.slice (some ⟨g, 0, none⟩) ts.length tc) ts.length xs := by
      rcases hF with rfl | ⟨g, xs, e, h1, h2, _⟩
      · simp at h0
      · exact ⟨g, xs, e, h1, h2⟩
    have HO : Hid (w.ownsRow lo 28 3 (.slice (some ⟨g, 0, none⟩) ts.length tc) ts.length xs0) := ho
    clear ho
    go_enter Try.func75, Try.ntmps75
    go_wp2
    go_loopw [1, 5] (fun v i wr => ∃ (k : Nat) (xs : List Value), k ≤ ts.length ∧ i = .int .i64 k ∧ v = .int .i64 (k0 + 3 * k) ∧ Hid (wr.ownsRow lo 28 3 (.slice (some ⟨g, 0, none⟩) ts.length tc) ts.length xs ∧ ∀ j : Nat, j < k → xs[j * 3]? = some (.int .i64 (k0 + 3 * j)) ∧ xs[j * 3 + 1]? = some (.int .i64 (k0 + 3 * j + 1)) ∧ xs[j * 3 + 2]? = some (.int .i64 (k0 + 3 * j + 2))) ∧ OnlyAt (some ⟨g, 0, none⟩) w wr) (fun _ i _ => ts.length - (intOf i).toNat)
    case atStart => exact ⟨0, _, Nat.zero_le _, rfl, by simp, ⟨HO.out, fun j hj => by omega⟩, OnlyAt.refl _ _⟩
    case round =>
      obtain ⟨k, xs, hk, rfl, rfl, ho, hnx⟩ := hrel
      by_cases hlt : k < ts.length
      · have hxl : k * 3 + 2 < xs.length := by rw [ho.out.1.1]; omega
        have hst1 : wr.cell? ⟨g, k * 3, none⟩ = some xs[k * 3] := (ho.out.1.cellAt (k * 3) (by omega)).trans (by simp)
        have hst2 : wr.cell? ⟨g, k * 3 + 1, none⟩ = some xs[k * 3 + 1] := (ho.out.1.cellAt (k * 3 + 1) (by omega)).trans (by simp)
        have hst3 : wr.cell? ⟨g, k * 3 + 2, none⟩ = some xs[k * 3 + 2] := (ho.out.1.cellAt (k * 3 + 2) (by omega)).trans (by simp [hxl])
        have hfr1 : wr.frozen? ⟨g, k * 3, none⟩ = false := ho.out.1.frozenAt (k * 3)
        have hfr2 : wr.frozen? ⟨g, k * 3 + 1, none⟩ = false := ho.out.1.frozenAt (k * 3 + 1)
        have hfr3 : wr.frozen? ⟨g, k * 3 + 2, none⟩ = false := ho.out.1.frozenAt (k * 3 + 2)
        go_wp2
        go_roundw
        case rel => exact ⟨k + 1, ((xs.set (k * 3) (.int .i64 (k0 + 3 * k))).set (k * 3 + 1) (.int .i64 (k0 + 3 * k + 1))).set (k * 3 + 2) (.int .i64 (k0 + 3 * k + 2)), by omega, by go_num, by go_num, ⟨by
            have h := (((World.ownsRow.stored ho.out.1 (k * 3) (.int .i64 (k0 + 3 * k))).1.stored (k * 3 + 1) (.int .i64 (k0 + 3 * k + 1))).1.stored (k * 3 + 2) (.int .i64 (k0 + 3 * k + 2))).1
            simpa [Int.add_assoc] using h, fun j hj => by
          simp only [List.getElem?_set, List.length_set]
          rcases Nat.lt_succ_iff_lt_or_eq.1 hj with h | rfl
          · rw [if_neg (by omega), if_neg (by omega), if_neg (by omega), if_neg (by omega), if_neg (by omega), if_neg (by omega), if_neg (by omega), if_neg (by omega), if_neg (by omega)]; exact ho.out.2 j h
          · rw [if_neg (by omega), if_neg (by omega), if_pos rfl, if_pos (by omega), if_neg (by omega), if_pos rfl, if_pos (by omega), if_pos rfl, if_pos hxl]; exact ⟨rfl, rfl, rfl⟩⟩, ((hnx.trans (OnlyAt.set g (k * 3) _ _)).trans (OnlyAt.set g (k * 3 + 1) _ _)).trans (OnlyAt.set g (k * 3 + 2) _ _)⟩
        case measure => simp [intOf]; omega
      · obtain rfl : k = ts.length := by omega
        go_wp2
        go_ret
        refine ⟨rfl, .inr ⟨g, xs, rfl, hg, ?_, fun j hj => ?_⟩, hnx⟩
        · rw [markC_len]; exact ho.out.1
        · rw [markC_len] at hj; rw [markC_at _ _ _ hj]; exact ho.out.2 j hj
set_option maxHeartbeats 1000000 in
theorem heldWaiterS_any (to : Option Addr) (tc : Nat) (n : Nat) (k0 : Int) (w : World) (hl : n ≤ 2097152) (hk0 : 0 ≤ k0) (hk1 : k0 ≤ 16777216) (hF : TimersIn w.heap.size w to (markC k0 n)) :
    Calls Try.prog 76 #[.slice to n tc, .int .i64 k0] w fun e w' => e = .returned (.int .i64 (k0 + 3 * n)) ∧ w' = w := by
  go_enter Try.func76, Try.ntmps76
  go_wp2
  go_loop [1, 5] (fun v i => ∃ k : Nat, k ≤ n ∧ i = .int .i64 k ∧ v = .int .i64 (k0 + 3 * k)) (fun _ i => n - (intOf i).toNat)
  case atStart => exact ⟨0, Nat.zero_le _, rfl, by simp⟩
  case round =>
    obtain ⟨k, hk, rfl, rfl⟩ := hrel
    by_cases hlt : k < n
    · obtain ⟨b, off, rfl, hb, hc⟩ := hF.pos (k := k) (by rw [markC_len]; exact hlt)
      have hck := hc k (by rw [markC_len]; exact hlt)
      rw [markC_at _ _ _ hlt] at hck
      obtain ⟨hck1, hck2, hck3⟩ := hck
      clear hc hF
      have hne : (k0 + 3 * (k : Int) != k0 + 3 * (k : Int)) = false := by simp
      have hne2 : (k0 + 3 * (k : Int) + 1 != k0 + 3 * (k : Int) + 1) = false := by simp
      have hne3 : (k0 + 3 * (k : Int) + 2 != k0 + 3 * (k : Int) + 1 + 1) = false := by simp; omega
      have hne4 : (k0 + 3 * (k : Int) + 2 != k0 + 3 * (k : Int) + 2) = false := by simp
      dsimp only at hck1 hck2 hck3
      go_wp2
      go_round
      case rel => exact ⟨k + 1, by omega, by go_num, by go_num⟩
      case measure => simp [intOf]; omega
    · obtain rfl : k = n := by omega
      go_wp2
      go_ret
      exact ⟨rfl, rfl⟩

/-- The mark of a bool. -/
def mkB (k : Int) : Bool := (k % 3 == 0)
def markK (k : Int) (n : Nat) : List T4 := (List.range n).map (fun i : Nat => (k + 4 * (i : Int), k + 4 * (i : Int) + 1, k + 4 * (i : Int) + 2, mkB (k + 4 * (i : Int) + 3)))
theorem markK_len (k : Int) (n : Nat) : (markK k n).length = n := by simp [markK]
theorem markK_at (k : Int) (n j : Nat) (h : j < n) : t4 (markK k n) j = (k + 4 * (j : Int), k + 4 * (j : Int) + 1, k + 4 * (j : Int) + 2, mkB (k + 4 * (j : Int) + 3)) := by simp [markK, t4, h]

set_option maxHeartbeats 2000000 in
theorem markWokenS_any (lo hi : Nat) (to : Option Addr) (tc : Nat) (ts : List T4) (k0 : Int) (w : World) (hl : ts.length ≤ 2097152) (hk0 : 0 ≤ k0) (hk1 : k0 ≤ 16777216) (hF : FreshK lo hi w to tc ts) :
    Calls Try.prog 22 #[.slice to ts.length tc, .int .i64 k0] w fun e w' => e = .returned (.int .i64 (k0 + 4 * ts.length)) ∧ FreshK lo hi w' to tc (markK k0 ts.length) ∧ OnlyAt (eff to ts.length) w w' := by
  rcases Nat.eq_zero_or_pos ts.length with h0 | h0
  · obtain rfl : ts = [] := List.length_eq_zero_iff.1 h0
    go_enter Try.func22, Try.ntmps22
    go_wp2
    go_loop [1, 5] (fun v i => v = .int .i64 k0 ∧ i = .int .i64 0) (fun _ _ => 0)
    case atStart => exact ⟨rfl, rfl⟩
    case round =>
      obtain ⟨rfl, rfl⟩ := hrel
      go_wp2
      go_ret
      exact ⟨by simp, .inl (by simp [markK]), OnlyAt.refl _ _⟩
  · rw [eff_pos h0]
    obtain ⟨g, xs0, rfl, hg, ho⟩ : ∃ g xs, to = some ⟨g, 0, none⟩ ∧ g < hi ∧ w.ownsRow lo 35 4 (.slice (some ⟨g, 0, none⟩) ts.length tc) ts.length xs := by
      rcases hF with rfl | ⟨g, xs, e, h1, h2, _⟩
      · simp at h0
      · exact ⟨g, xs, e, h1, h2⟩
    have HO : Hid (w.ownsRow lo 35 4 (.slice (some ⟨g, 0, none⟩) ts.length tc) ts.length xs0) := ho
    clear ho
    go_enter Try.func22, Try.ntmps22
    go_wp2
    go_loopw [1, 5] (fun v i wr => ∃ (k : Nat) (xs : List Value), k ≤ ts.length ∧ i = .int .i64 k ∧ v = .int .i64 (k0 + 4 * k) ∧ Hid (wr.ownsRow lo 35 4 (.slice (some ⟨g, 0, none⟩) ts.length tc) ts.length xs ∧ ∀ j : Nat, j < k → xs[j * 4]? = some (.int .i64 (k0 + 4 * j)) ∧ xs[j * 4 + 1]? = some (.int .i64 (k0 + 4 * j + 1)) ∧ xs[j * 4 + 2]? = some (.int .i64 (k0 + 4 * j + 2)) ∧ xs[j * 4 + 3]? = some (.bool (mkB (k0 + 4 * j + 3)))) ∧ OnlyAt (some ⟨g, 0, none⟩) w wr) (fun _ i _ => ts.length - (intOf i).toNat)
    case atStart => exact ⟨0, _, Nat.zero_le _, rfl, by simp, ⟨HO.out, fun j hj => by omega⟩, OnlyAt.refl _ _⟩
    case round =>
      obtain ⟨k, xs, hk, rfl, rfl, ho, hnx⟩ := hrel
      by_cases hlt : k < ts.length
      · have hxl : k * 4 + 3 < xs.length := by rw [ho.out.1.1]; omega
        have hst1 : wr.cell? ⟨g, k * 4, none⟩ = some xs[k * 4] := (ho.out.1.cellAt (k * 4) (by omega)).trans (by simp)
        have hst2 : wr.cell? ⟨g, k * 4 + 1, none⟩ = some xs[k * 4 + 1] := (ho.out.1.cellAt (k * 4 + 1) (by omega)).trans (by simp)
        have hst3 : wr.cell? ⟨g, k * 4 + 2, none⟩ = some xs[k * 4 + 2] := (ho.out.1.cellAt (k * 4 + 2) (by omega)).trans (by simp)
        have hst4 : wr.cell? ⟨g, k * 4 + 3, none⟩ = some xs[k * 4 + 3] := (ho.out.1.cellAt (k * 4 + 3) (by omega)).trans (by simp [hxl])
        have hfr1 : wr.frozen? ⟨g, k * 4, none⟩ = false := ho.out.1.frozenAt (k * 4)
        have hfr2 : wr.frozen? ⟨g, k * 4 + 1, none⟩ = false := ho.out.1.frozenAt (k * 4 + 1)
        have hfr3 : wr.frozen? ⟨g, k * 4 + 2, none⟩ = false := ho.out.1.frozenAt (k * 4 + 2)
        have hfr4 : wr.frozen? ⟨g, k * 4 + 3, none⟩ = false := ho.out.1.frozenAt (k * 4 + 3)
        go_wp2
        go_roundw
        case rel => exact ⟨k + 1, (((xs.set (k * 4) (.int .i64 (k0 + 4 * k))).set (k * 4 + 1) (.int .i64 (k0 + 4 * k + 1))).set (k * 4 + 2) (.int .i64 (k0 + 4 * k + 2))).set (k * 4 + 3) (.bool (mkB (k0 + 4 * k + 3))), by omega, by go_num, by go_num, ⟨by
            have h := ((((World.ownsRow.stored ho.out.1 (k * 4) (.int .i64 (k0 + 4 * k))).1.stored (k * 4 + 1) (.int .i64 (k0 + 4 * k + 1))).1.stored (k * 4 + 2) (.int .i64 (k0 + 4 * k + 2))).1.stored (k * 4 + 3) (.bool (mkB (k0 + 4 * k + 3)))).1
            simpa [Int.add_assoc, mkB] using h, fun j hj => by
          simp only [List.getElem?_set, List.length_set]
          rcases Nat.lt_succ_iff_lt_or_eq.1 hj with h | rfl
          · rw [if_neg (by omega), if_neg (by omega), if_neg (by omega), if_neg (by omega), if_neg (by omega), if_neg (by omega), if_neg (by omega), if_neg (by omega), if_neg (by omega), if_neg (by omega), if_neg (by omega), if_neg (by omega), if_neg (by omega), if_neg (by omega), if_neg (by omega), if_neg (by omega)]; exact ho.out.2 j h
          · rw [if_neg (by omega), if_neg (by omega), if_neg (by omega), if_pos rfl, if_pos (by omega), if_neg (by omega), if_neg (by omega), if_pos rfl, if_pos (by omega), if_neg (by omega), if_pos rfl, if_pos (by omega), if_pos rfl, if_pos hxl]; exact ⟨rfl, rfl, rfl, rfl⟩⟩, (((hnx.trans (OnlyAt.set g (k * 4) _ _)).trans (OnlyAt.set g (k * 4 + 1) _ _)).trans (OnlyAt.set g (k * 4 + 2) _ _)).trans (OnlyAt.set g (k * 4 + 3) _ _)⟩
        case measure => simp [intOf]; omega
      · obtain rfl : k = ts.length := by omega
        go_wp2
        go_ret
        refine ⟨rfl, .inr ⟨g, xs, rfl, hg, ?_, fun j hj => ?_⟩, hnx⟩
        · rw [markK_len]; exact ho.out.1
        · rw [markK_len] at hj; rw [markK_at _ _ _ hj]; exact ho.out.2 j hj

set_option maxHeartbeats 2000000 in
theorem heldWokenS_any (to : Option Addr) (tc : Nat) (n : Nat) (k0 : Int) (w : World) (hl : n ≤ 2097152) (hk0 : 0 ≤ k0) (hk1 : k0 ≤ 16777216) (hF : WokIn w.heap.size w to (markK k0 n)) :
    Calls Try.prog 24 #[.slice to n tc, .int .i64 k0] w fun e w' => e = .returned (.int .i64 (k0 + 4 * n)) ∧ w' = w := by
  go_enter Try.func24, Try.ntmps24
  go_wp2
  go_loop [1, 5] (fun v i => ∃ k : Nat, k ≤ n ∧ i = .int .i64 k ∧ v = .int .i64 (k0 + 4 * k)) (fun _ i => n - (intOf i).toNat)
  case atStart => exact ⟨0, Nat.zero_le _, rfl, by simp⟩
  case round =>
    obtain ⟨k, hk, rfl, rfl⟩ := hrel
    by_cases hlt : k < n
    · obtain ⟨b, off, rfl, hb, hc⟩ := hF.pos (k := k) (by rw [markK_len]; exact hlt)
      have hck := hc k (by rw [markK_len]; exact hlt)
      rw [markK_at _ _ _ hlt] at hck
      obtain ⟨hck1, hck2, hck3, hck4⟩ := hck
      clear hc hF
      have hne : (k0 + 4 * (k : Int) != k0 + 4 * (k : Int)) = false := by simp
      have hne2 : (k0 + 4 * (k : Int) + 1 != k0 + 4 * (k : Int) + 1) = false := by simp
      have hne3 : (k0 + 4 * (k : Int) + 2 != k0 + 4 * (k : Int) + 1 + 1) = false := by simp; omega
      have hne4 : (k0 + 4 * (k : Int) + 2 != k0 + 4 * (k : Int) + 2) = false := by simp
      dsimp only [mkB] at hck1 hck2 hck3 hck4
      obtain ⟨y, hy⟩ : ∃ y, y = ((k0 + 4 * (k : Int) + 3) % 3 == 0) := ⟨_, rfl⟩
      rw [← hy] at hck4
      have hyy : (!(y == ((k0 + 4 * (k : Int) + 1 + 1 + 1) % 3 == 0))) = false := by
        rw [hy, show k0 + 4 * (k : Int) + 1 + 1 + 1 = k0 + 4 * (k : Int) + 3 from by omega]; simp
      clear hy
      go_wp2
      go_round
      case rel => exact ⟨k + 1, by omega, by go_num, by go_num⟩
      case measure => simp [intOf]; omega
    · obtain rfl : k = n := by omega
      go_wp2
      go_ret
      exact ⟨rfl, rfl⟩
end Go.Proofs.Ytlnjhajdbofhlaa
