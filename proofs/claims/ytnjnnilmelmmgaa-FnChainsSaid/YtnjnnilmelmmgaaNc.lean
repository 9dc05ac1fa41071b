
/- Rows of rows of ints: the copy. No conditions but those written. -/
import Derived.Test.YtnjnnilmelmmgaaNb
namespace Go.Proofs.Ytnjnnilmelmmgaa
open Go.RowKit

/-- The heads and rows up to k are laid. -/
structure LaidR (lo : Nat) (W : World) (hs : List (Option Addr × Nat × Nat)) (ls : List (List Int)) (k : Nat) : Prop where
  len : hs.length = k
  row : ∀ j, j < k → (el hs j).2.1 = (el ls j).length ∧ kI.Fresh lo W.heap.size W (el hs j).1 (el hs j).2.2 (el ls j)
  off : ∀ i j, i < j → j < k → Off (el hs i).1 (el ls i).length (el hs j).1 (el ls j).length
theorem LaidR.keep {lo : Nat} {W W' : World} {hs : List (Option Addr × Nat × Nat)} {ls : List (List Int)} {k : Nat} (h : LaidR lo W hs ls k) (hsz : W.heap.size ≤ W'.heap.size) (hb : ∀ i, lo ≤ i → i < W.heap.size → W'.heap[i]? = W.heap[i]?) : LaidR lo W' hs ls k :=
  ⟨h.len, fun j hj => ⟨(h.row j hj).1, ((h.row j hj).2.keep fun i h1 _ h3 => hb i h1 h3).wide (Nat.le_refl _) hsz⟩, h.off⟩
theorem LaidR.later {lo : Nat} {W W' : World} {hs : List (Option Addr × Nat × Nat)} {ls : List (List Int)} {k : Nat} (h : LaidR lo W hs ls k) (hb : Below W.heap.size W W') : LaidR lo W' hs ls k := h.keep hb.size fun i _ hi => hb.block i hi
theorem LaidR.add {lo : Nat} {W W' : World} {hs : List (Option Addr × Nat × Nat)} {ls : List (List Int)} {k : Nat} {o : Option Addr} {c : Nat} (h : LaidR lo W hs ls k) (hb : Below W.heap.size W W') (hlo : lo ≤ W.heap.size) (hF : kI.Fresh W.heap.size W'.heap.size W' o c (el ls k)) : LaidR lo W' (hs ++ [(o, (el ls k).length, c)]) ls (k + 1) := by
  have h2 := h.later hb
  have hl : ∀ j, j < k → el (hs ++ [(o, (el ls k).length, c)]) j = el hs j := fun j hj => el_app_left (by rw [h.len]; exact hj)
  have hr : el (hs ++ [(o, (el ls k).length, c)]) k = (o, (el ls k).length, c) := by
    have := el_app_right hs [(o, (el ls k).length, c)] 0
    rw [h.len, Nat.add_zero] at this
    rw [this, el_zero]
  refine ⟨by simp [h.len], fun j hj => ?_, fun i j hij hj => ?_⟩
  · rcases Nat.lt_succ_iff_lt_or_eq.1 hj with hj | rfl
    · rw [hl j hj]; exact h2.row j hj
    · rw [hr]; exact ⟨rfl, hF.wide hlo (Nat.le_refl _)⟩
  · rcases Nat.lt_succ_iff_lt_or_eq.1 hj with hj | rfl
    · rw [hl i (by omega), hl j hj]; exact h.off i j hij hj
    · rw [hl i hij, hr]
      exact (h.row i hij).2.apart hF (Nat.le_refl _)
theorem LaidR.fr {lo lo' : Nat} {W : World} {hs : List (Option Addr × Nat × Nat)} {ls : List (List Int)} {ao : Option Addr} {c : Nat} (h : LaidR lo W hs ls ls.length) (hlo : lo' ≤ lo) (hF : kR.Fresh lo' W.heap.size W ao c hs) : FrRR lo' W.heap.size W ao c hs ls :=
  ⟨hF, h.len, fun j hj => ⟨(h.row j hj).1, (h.row j hj).2.wide hlo (Nat.le_refl _)⟩, h.off⟩
theorem LaidR.zero (lo : Nat) (W : World) (ls : List (List Int)) : LaidR lo W [] ls 0 := ⟨rfl, fun j hj => by omega, fun i j _ hj => by omega⟩
set_option maxHeartbeats 4000000 in
theorem toIntSS_any (ao : Option Addr) (cap : Nat) (hs : List (Option Addr × Nat × Nat)) (ls : List (List Int)) (w : World) (hl : ls.length ≤ 1048576) (hle : tot ls ≤ 1048576) (hz : InRR w.heap.size w ao hs ls) :
    Calls Try.prog 34 #[.slice ao ls.length cap] w fun e w' => e = .returned (.slice (some ⟨w.heap.size, 0, none⟩) ls.length ls.length) ∧ (∃ hs', FrRR w.heap.size w'.heap.size w' (some ⟨w.heap.size, 0, none⟩) ls.length hs' ls) ∧ Below w.heap.size w w' := by
  obtain ⟨i0, hi, hz0, hz1, hz2⟩ := info_parts Try.info28
  go_enter Try.func34, Try.ntmps34
  go_wp2_with (at_make; refine wpList_make_full _ rfl _ _ 43 rfl w.heap.size 28 i0 (.slice none 0 0) 1 Try.underlying43 hi hz0 hz1 .i64 .i64 _ _ ls.length rfl rfl rfl rfl (by rw [hz2]; omega) (by unfold maxLen; omega) (Nat.le_refl _) ?_; intro w1 hown hgrow)
  have hB1 : Below w.heap.size w w1 := (Below.refl _ _).grown hgrow (Nat.le_refl _) (fun k e => by cases e)
  have hs1 : w.heap.size + 1 ≤ w1.heap.size := (owns_lt hown).2
  have HO := show Hid _ from hown
  clear hown hgrow
  go_loopw [4] (fun i wr => ∃ (k : Nat) (xs : List Value) (gs : List (Option Addr × Nat × Nat)), k ≤ ls.length ∧ i = .int .i64 k ∧ Hid (wr.ownsRow w.heap.size 28 1 (.slice (some ⟨w.heap.size, 0, none⟩) ls.length ls.length) ls.length xs ∧ ∀ j, j < k → xs[j]? = some (.slice (el gs j).1 (el gs j).2.1 (el gs j).2.2)) ∧ Below w.heap.size w wr ∧ Hid (LaidR (w.heap.size + 1) wr gs ls k) ∧ w.heap.size + 1 ≤ wr.heap.size) (fun i _ => ls.length - (intOf i).toNat)
  case atStart => exact ⟨0, _, [], Nat.zero_le _, rfl, ⟨HO.out, fun j hj => by omega⟩, hB1, LaidR.zero _ _ _, hs1⟩
  case round =>
    obtain ⟨k, xs, gs, hk, rfl, ho, hnx, hL, hsr⟩ := hrel
    by_cases hlt : k < ls.length
    · obtain ⟨b, off, o, c, rfl, hb, hc, _, hI⟩ := hz.at hlt
      have d1 := (hnx.cell (p := ⟨b, off + k, none⟩) hb).trans hc
      have HI := hid (hI.later hnx)
      have hxl : (el ls k).length ≤ 1048576 := by have := tot_el hlt; omega
      obtain ⟨x, hx⟩ : ∃ x, x = el ls k := ⟨_, rfl⟩
      rw [← hx] at d1 HI hxl
      have HX := hid hx
      clear hx hc hI
      go_wp2_with fail
      refine (toIntS_any o c x wr hxl HI.out).mono ?_
      rintro e w2 ⟨rfl, hF2, hb2⟩
      have hxk : k < xs.length := by rw [ho.out.1.1]; omega
      have ho2 := ownsRow_below ho.out.1 hb2
      have hnb : Below w.heap.size w w2 := hnx.trans (hb2.mono hnx.size)
      have HO2 := hid ho2
      have hst : w2.cell? ⟨w.heap.size, k, none⟩ = some xs[k] := (ho2.cellAt k (by omega)).trans (by simp)
      have hfr : w2.frozen? ⟨w.heap.size, k, none⟩ = false := ho2.frozenAt k
      have hL2 : Hid (LaidR (w.heap.size + 1) w2 (gs ++ [(some ⟨wr.heap.size, 0, none⟩, x.length, x.length)]) ls (k + 1)) := by
        have := hL.out.add hb2 hsr (by rw [← HX.out]; exact hF2)
        rw [← HX.out] at this
        exact this
      have hs2 : w.heap.size + 1 ≤ w2.heap.size := Nat.le_trans hsr hb2.size
      have HG := hid hL.out.len
      have hL3 := hid (hL2.out.keep (W' := w2.setCell ⟨w.heap.size, k, none⟩ (.slice (some ⟨wr.heap.size, 0, none⟩) x.length x.length)) (by simp [World.setCell]) (fun i h1 _ => Below.heap_setCell _ _ _ i (by show i ≠ w.heap.size; omega)))
      clear ho2 hF2 hb2 hL hL2
      go_wp2
      go_roundw
      case rel => exact ⟨k + 1, xs.set k (.slice (some ⟨wr.heap.size, 0, none⟩) x.length x.length), _, by omega, by go_num, ⟨(HO2.out.stored k _).1, fun j hj => by
          rw [List.getElem?_set]
          rcases Nat.lt_succ_iff_lt_or_eq.1 hj with h | rfl
          · rw [if_neg (by omega), el_app_left (by rw [HG.out]; exact h)]; exact ho.out.2 j h
          · have e := el_app_right gs [(some (⟨wr.heap.size, 0, none⟩ : Addr), x.length, x.length)] 0
            rw [HG.out, Nat.add_zero, el_zero] at e
            rw [if_pos rfl, if_pos hxk, e]⟩, hnb.setCell (Nat.le_refl _) _, hL3, by simpa [World.setCell] using hs2⟩
      case measure => simp [intOf]; omega
    · obtain rfl : k = ls.length := by omega
      have hgl := hL.out.len
      have hxs : xs = kR.flat gs := by
        refine kR.flat_of xs gs (by rw [ho.out.1.1, hgl]; rfl) fun j hj i hi => ?_
        have e : i = 0 := by have : i < 1 := hi; omega
        subst e
        rw [hgl] at hj
        simpa [kR] using ho.out.2 j hj
      subst hxs
      have HGL := hid hgl
      clear hgl
      go_wp2
      go_ret
      refine ⟨rfl, ⟨gs, hL.out.fr (by omega) (.inr ⟨_, rfl, (owns_lt ho.out.1).2, ?_⟩)⟩, hnx⟩
      rw [HGL.out]; exact ho.out.1
end Go.Proofs.Ytnjnnilmelmmgaa
