/- Marks over a row of Woken. No conditions but those written. Contracts of CloseIn for its law. No conditions but those written. -/
import Derived.Test.YtdjdbcfcccbhpaaPKiYk
import Derived.Test.YtdjdbcfcccbhpaaPKwBx
import Derived.Test.YtdjdbcfcccbhpaaYm
namespace Go.Proofs.Ytdjdbcfcccbhpaa
section
open Go.RowKit

/-- What the marks make of it. -/
def mkBw (k : Int) : Bool := (k % 3 == 0)
def markKw (k : Int) (n : Nat) : List (Int × Int × Int × Bool) := (List.range n).map (fun i : Nat => (k + 4 * (i : Int), k + 4 * (i : Int) + 1, k + 4 * (i : Int) + 2, mkBw (k + 4 * (i : Int) + 3)))
theorem markKw_len (k : Int) (n : Nat) : (markKw k n).length = n := by simp [markKw]
theorem markKw_at (k : Int) (n j : Nat) (h : j < n) : el (markKw k n) j = (k + 4 * (j : Int), k + 4 * (j : Int) + 1, k + 4 * (j : Int) + 2, mkBw (k + 4 * (j : Int) + 3)) := by simp [markKw, el, h]
set_option maxHeartbeats 2000000 in
theorem markWokenS_any (lo hi : Nat) (to : Option Addr) (tc : Nat) (ts : List (Int × Int × Int × Bool)) (k0 : Int) (w : World) (hl : ts.length ≤ 2097152) (hk0 : 0 ≤ k0) (hk1 : k0 ≤ 16777216) (hF : kK.Fresh lo hi w to tc ts) :
    Calls Try.prog 11 #[.slice to ts.length tc, .int .i64 k0] w fun e w' => e = .returned (.int .i64 (k0 + 4 * ts.length)) ∧ kK.Fresh lo hi w' to tc (markKw k0 ts.length) ∧ OnlyAt (eff to ts.length) w w' := by
  rcases Nat.eq_zero_or_pos ts.length with h0 | h0
  · obtain rfl : ts = [] := List.length_eq_zero_iff.1 h0
    go_enter Try.func11, Try.ntmps11
    go_wp2
    go_loop [1, 5] (fun v i => v = .int .i64 k0 ∧ i = .int .i64 0) (fun _ _ => 0)
    case atStart => exact ⟨rfl, rfl⟩
    case round =>
      obtain ⟨rfl, rfl⟩ := hrel
      go_wp2
      go_ret
      exact ⟨by simp, .inl (by simp [markKw]), OnlyAt.refl _ _⟩
  · rw [eff_pos h0]
    obtain ⟨g, rfl, _, hg, _, ho⟩ := hF.at h0
    obtain ⟨xs0, hx0⟩ : ∃ xs0, xs0 = kK.flat ts := ⟨_, rfl⟩
    rw [← hx0] at ho
    clear hx0
    have HO : Hid (w.ownsRow lo 58 4 (.slice (some ⟨g, 0, none⟩) ts.length tc) ts.length xs0) := ho
    clear ho
    go_enter Try.func11, Try.ntmps11
    go_wp2
    go_loopw [1, 5] (fun v i wr => ∃ (k : Nat) (xs : List Value), k ≤ ts.length ∧ i = .int .i64 k ∧ v = .int .i64 (k0 + 4 * k) ∧ Hid (wr.ownsRow lo 58 4 (.slice (some ⟨g, 0, none⟩) ts.length tc) ts.length xs ∧ ∀ j : Nat, j < k → xs[j * 4]? = some (.int .i64 (k0 + 4 * j)) ∧ xs[j * 4 + 1]? = some (.int .i64 (k0 + 4 * j + 1)) ∧ xs[j * 4 + 2]? = some (.int .i64 (k0 + 4 * j + 2)) ∧ xs[j * 4 + 3]? = some (.bool (mkBw (k0 + 4 * j + 3)))) ∧ OnlyAt (some ⟨g, 0, none⟩) w wr) (fun _ i _ => ts.length - (intOf i).toNat)
    case atStart => exact ⟨0, _, Nat.zero_le _, rfl, by simp, ⟨HO.out, fun j hj => by omega⟩, OnlyAt.refl _ _⟩
    case round =>
      obtain ⟨k, xs, hk, rfl, rfl, ho, hnx⟩ := hrel
      by_cases hlt : k < ts.length
      · have hxl : k * 4 + 3 < xs.length := by rw [ho.out.1.1]; omega
        have hst1 : wr.cell? ⟨g, k * 4, none⟩ = some xs[k * 4] := (ho.out.1.cellAt (k * 4) (by omega)).trans (by simp)
        have hst2 : wr.cell? ⟨g, k * 4 + 1, none⟩ = some xs[k * 4 + 1] := (ho.out.1.cellAt (k * 4 + 1) (by omega)).trans (by simp)
        have hst3 : wr.cell? ⟨g, k * 4 + 2, none⟩ = some xs[k * 4 + 2] := (ho.out.1.cellAt (k * 4 + 2) (by omega)).trans (by simp)
        have hst4 : wr.cell? ⟨g, k * 4 + 3, none⟩ = some xs[k * 4 + 3] := (ho.out.1.cellAt (k * 4 + 3) (by omega)).trans (by simp [hxl])
        have hfr1 : wr.frozen? ⟨g, k * 4, none⟩ = false := ho.out.1.frozenAt (k * 4)
        have hfr2 : wr.frozen? ⟨g, k * 4 + 1, none⟩ = false := ho.out.1.frozenAt (k * 4 + 1)
        have hfr3 : wr.frozen? ⟨g, k * 4 + 2, none⟩ = false := ho.out.1.frozenAt (k * 4 + 2)
        have hfr4 : wr.frozen? ⟨g, k * 4 + 3, none⟩ = false := ho.out.1.frozenAt (k * 4 + 3)
        go_wp2
        go_roundw
        case rel => exact ⟨k + 1, (((xs.set (k * 4) (.int .i64 (k0 + 4 * k))).set (k * 4 + 1) (.int .i64 (k0 + 4 * k + 1))).set (k * 4 + 2) (.int .i64 (k0 + 4 * k + 2))).set (k * 4 + 3) (.bool (mkBw (k0 + 4 * k + 3))), by omega, by go_num, by go_num, ⟨by
            have h := ((((World.ownsRow.stored ho.out.1 (k * 4) (.int .i64 (k0 + 4 * k))).1.stored (k * 4 + 1) (.int .i64 (k0 + 4 * k + 1))).1.stored (k * 4 + 2) (.int .i64 (k0 + 4 * k + 2))).1.stored (k * 4 + 3) (.bool (mkBw (k0 + 4 * k + 3)))).1
            simpa [Int.add_assoc, mkBw] using h, fun j hj => by
          simp only [List.getElem?_set, List.length_set]
          rcases Nat.lt_succ_iff_lt_or_eq.1 hj with h | rfl
          · rw [if_neg (by omega), if_neg (by omega), if_neg (by omega), if_neg (by omega), if_neg (by omega), if_neg (by omega), if_neg (by omega), if_neg (by omega), if_neg (by omega), if_neg (by omega), if_neg (by omega), if_neg (by omega), if_neg (by omega), if_neg (by omega), if_neg (by omega), if_neg (by omega)]; exact ho.out.2 j h
          · rw [if_neg (by omega), if_neg (by omega), if_neg (by omega), if_pos rfl, if_pos (by omega), if_neg (by omega), if_neg (by omega), if_pos rfl, if_pos (by omega), if_neg (by omega), if_pos rfl, if_pos (by omega), if_pos rfl, if_pos hxl]; exact ⟨rfl, rfl, rfl, rfl⟩⟩, (((hnx.trans (OnlyAt.set g (k * 4) _ _)).trans (OnlyAt.set g (k * 4 + 1) _ _)).trans (OnlyAt.set g (k * 4 + 2) _ _)).trans (OnlyAt.set g (k * 4 + 3) _ _)⟩
        case measure => simp [intOf]; omega
      · obtain rfl : k = ts.length := by omega
        go_wp2
        go_ret
        refine ⟨rfl, .inr ⟨g, rfl, hg, ?_⟩, hnx⟩
        have hfl : xs = kK.flat (markKw k0 ts.length) := by
          refine kK.flat_of xs _ (by rw [markKw_len, ho.out.1.1]; rfl) fun j hj i hi => ?_
          rw [markKw_len] at hj
          obtain ⟨h1, h2, h3, h4⟩ := ho.out.2 j hj
          rw [markKw_at _ _ _ hj]
          have hi' : i < 4 := hi
          rcases (show i = 0 ∨ i = 1 ∨ i = 2 ∨ i = 3 from by omega) with rfl | rfl | rfl | rfl
          · exact h1
          · exact h2
          · exact h3
          · exact h4
        rw [markKw_len, ← hfl]
        exact ho.out.1
set_option maxHeartbeats 2000000 in
theorem heldWokenS_any (to : Option Addr) (tc : Nat) (n : Nat) (k0 : Int) (w : World) (hl : n ≤ 2097152) (hk0 : 0 ≤ k0) (hk1 : k0 ≤ 16777216) (hF : kK.In w.heap.size w to (markKw k0 n)) :
    Calls Try.prog 13 #[.slice to n tc, .int .i64 k0] w fun e w' => e = .returned (.int .i64 (k0 + 4 * n)) ∧ w' = w := by
  go_enter Try.func13, Try.ntmps13
  go_wp2
  go_loop [1, 5] (fun v i => ∃ k : Nat, k ≤ n ∧ i = .int .i64 k ∧ v = .int .i64 (k0 + 4 * k)) (fun _ i => n - (intOf i).toNat)
  case atStart => exact ⟨0, Nat.zero_le _, rfl, by simp⟩
  case round =>
    obtain ⟨k, hk, rfl, rfl⟩ := hrel
    by_cases hlt : k < n
    · obtain ⟨b, off, rfl, hb, hc⟩ := kK_at hF (k := k) (by rw [markKw_len]; exact hlt)
      have hck := hc k (by rw [markKw_len]; exact hlt)
      rw [markKw_at _ _ _ hlt] at hck
      obtain ⟨hck1, hck2, hck3, hck4⟩ := hck
      clear hc hF
      have hne : (k0 + 4 * (k : Int) != k0 + 4 * (k : Int)) = false := by simp
      have hne2 : (k0 + 4 * (k : Int) + 1 != k0 + 4 * (k : Int) + 1) = false := by simp
      have hne3 : (k0 + 4 * (k : Int) + 2 != k0 + 4 * (k : Int) + 1 + 1) = false := by simp; omega
      have hne4 : (k0 + 4 * (k : Int) + 2 != k0 + 4 * (k : Int) + 2) = false := by simp
      dsimp only [mkBw] at hck1 hck2 hck3 hck4
      obtain ⟨y, hy⟩ : ∃ y, y = ((k0 + 4 * (k : Int) + 3) % 3 == 0) := ⟨_, rfl⟩
      rw [← hy] at hck4
      have hyy : (!(y == ((k0 + 4 * (k : Int) + 1 + 1 + 1) % 3 == 0))) = false := by
        rw [hy, show k0 + 4 * (k : Int) + 1 + 1 + 1 = k0 + 4 * (k : Int) + 3 from by omega]; simp
      clear hy
      go_wp2
      go_round
      case rel => exact ⟨k + 1, by omega, by go_num, by go_num⟩
      case measure => simp [intOf]; omega
    · obtain rfl : k = n := by omega
      go_wp2
      go_ret
      exact ⟨rfl, rfl⟩
end
section
open Go.RowKit Go.Maps

theorem wokeP_len (ps : List PChan) (k : Nat) : (wokeP ps k).length ≤ totP ps := by
  induction ps generalizing k with
  | nil =>
    have e : el ([] : List PChan) k = default := by simp [el]
    rw [wokeP, e, wokeL_len]; exact Nat.le_refl _
  | cons c r ih =>
    cases k with
    | zero => rw [wokeP, el_zero, wokeL_len]; simp only [totP, List.map_cons, List.sum_cons, List.length_append]; omega
    | succ k =>
      have h := ih k
      rw [wokeP, el_cons]
      rw [wokeP] at h
      simp only [totP, List.map_cons, List.sum_cons] at h ⊢
      omega
theorem closeR_len (ps : List PChan) (k : Int) : (closeR ps k).1.length ≤ ps.length := by
  unfold closeR; split
  · split <;> simp [shutP]
  · simp
theorem closeR_tot (ps : List PChan) (k : Int) : totP (closeR ps k).1 ≤ totP ps := by
  unfold closeR; split
  · split
    · exact Nat.le_refl _
    · exact Nat.le_trans (totP_keep _ _) (totP_shut _ _)
  · exact Nat.zero_le _
theorem closeR_told (ps : List PChan) (k : Int) : (closeR ps k).2.1.length ≤ totP ps := by
  unfold closeR; split
  · split
    · simp
    · have h := tellW_le (fun _ => 1) (wokeP ps k.toNat) (wokeP ps k.toNat).length
      rw [List.take_length] at h
      exact Nat.le_trans h (wokeP_len _ _)
  · simp
theorem implCloseIn_of (g n : Nat) (us ts : List LChan) (k : Int) (w : World) (hn : us.length = n) (hv : us.map valChan = ts.map valChan) (hl : ts.length ≤ 1048576) (ht : totChan ts ≤ 1048576) (hz : DIn dChan w.heap.size w (some ⟨g, 0, none⟩) us) :
    Calls Try.prog 7 #[.agg #[.slice (some ⟨g, 0, none⟩) n n], .int .i64 k] w fun e w' => AnsC w (closeR (ts.map valChan) k) e w' := by
  subst hn
  rw [← hv]
  exact implCloseIn_any _ _ us k w (by rw [len_val hv]; exact hl) (by rw [tot_val hv]; exact ht) hz
theorem specCloseIn_of (g n : Nat) (us ts : List LChan) (k : Int) (w : World) (hn : us.length = n) (hv : us.map valChan = ts.map valChan) (hl : ts.length ≤ 1048576) (ht : totChan ts ≤ 1048576) (hz : DIn dChan w.heap.size w (some ⟨g, 0, none⟩) us) :
    Calls Try.prog 5 #[.agg #[.slice (some ⟨g, 0, none⟩) n n], .int .i64 k] w fun e w' => AnsD w (closeR (ts.map valChan) k) e w' := by
  subst hn
  rw [← hv]
  exact specCloseIn_any _ _ us k w (by rw [len_val hv]; exact hl) (by rw [tot_val hv]; exact ht) hz
end
end Go.Proofs.Ytdjdbcfcccbhpaa
