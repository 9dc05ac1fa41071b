
/- Rows of rows of tokens: sizes, copies, comparisons. No conditions but those written. -/
import Derived.Test.YtjdcaommbibkaaaDoorZa
namespace Go.Proofs.YtjdcaommbibkaaaDoor
open Go.RowKit

/-- A row of slices: where each begins, its length, its room. -/
def kRT : Kind (Option Addr × Nat × Nat) := ⟨56, 30, 1, fun t => [.slice t.1 t.2.1 t.2.2], fun _ => rfl, fun a v h => by simp at h; subst h; rfl⟩
theorem Tryd.info56 : (Tryd.prog.info? 56).map (fun i => (i.zero, i.size, i.bytes)) = some (some (.slice none 0 0), 1, 24) := by kernel_rfl
theorem kRT_ok : kRT.Ok := kind_ok (K := kRT) Tryd.underlying30 Tryd.info56 rfl (by decide) (by decide)
theorem kRT_at {n : Nat} {W : World} {ao : Option Addr} {hs : List (Option Addr × Nat × Nat)} (h : kRT.In n W ao hs) {k : Nat} (hk : k < hs.length) :
    ∃ b off, ao = some ⟨b, off, none⟩ ∧ b < n ∧ ∀ j, j < hs.length → W.cell? ⟨b, off + j, none⟩ = some (.slice (el hs j).1 (el hs j).2.1 (el hs j).2.2) := by
  obtain ⟨b, off, e, hb, hc⟩ := h.pos hk
  refine ⟨b, off, e, hb, fun j hj => ?_⟩
  have := hc j hj 0 (by decide)
  simpa [kRT] using this
/-- The rows ls lie below n; their heads hs lie at ao. -/
def InRT (n : Nat) (W : World) (ao : Option Addr) (hs : List (Option Addr × Nat × Nat)) (ls : List (List (Int × Int × Int))) : Prop :=
  kRT.In n W ao hs ∧ hs.length = ls.length ∧ ∀ j, j < ls.length → (el hs j).2.1 = (el ls j).length ∧ kTk.In n W (el hs j).1 (el ls j)
theorem InRT.below {n : Nat} {W W' : World} {ao : Option Addr} {hs : List (Option Addr × Nat × Nat)} {ls : List (List (Int × Int × Int))} (h : InRT n W ao hs ls) (hb : Below n W W') : InRT n W' ao hs ls :=
  ⟨h.1.below hb, h.2.1, fun j hj => ⟨(h.2.2 j hj).1, (h.2.2 j hj).2.below hb⟩⟩
theorem InRT.up {n m : Nat} {W : World} {ao : Option Addr} {hs : List (Option Addr × Nat × Nat)} {ls : List (List (Int × Int × Int))} (h : InRT n W ao hs ls) (hm : n ≤ m) : InRT m W ao hs ls :=
  ⟨h.1.up hm, h.2.1, fun j hj => ⟨(h.2.2 j hj).1, (h.2.2 j hj).2.up hm⟩⟩
theorem InRT.later {W W' : World} {ao : Option Addr} {hs : List (Option Addr × Nat × Nat)} {ls : List (List (Int × Int × Int))} (h : InRT W.heap.size W ao hs ls) (hb : Below W.heap.size W W') : InRT W'.heap.size W' ao hs ls := (h.below hb).up hb.size
theorem InRT.nil (n : Nat) (W : World) (ao : Option Addr) : InRT n W ao [] [] := ⟨.inl rfl, rfl, fun j hj => by simp at hj⟩
/-- One of the heads, and its row. -/
theorem InRT.at {n : Nat} {W : World} {ao : Option Addr} {hs : List (Option Addr × Nat × Nat)} {ls : List (List (Int × Int × Int))} (h : InRT n W ao hs ls) {k : Nat} (hk : k < ls.length) :
    ∃ b off o c, ao = some ⟨b, off, none⟩ ∧ b < n ∧ W.cell? ⟨b, off + k, none⟩ = some (.slice o (el ls k).length c) ∧ el hs k = (o, (el ls k).length, c) ∧ kTk.In n W o (el ls k) := by
  obtain ⟨b, off, e, hb, hc⟩ := kRT_at h.1 (k := k) (by rw [h.2.1]; exact hk)
  obtain ⟨h1, h2⟩ := h.2.2 k hk
  refine ⟨b, off, (el hs k).1, (el hs k).2.2, e, hb, ?_, ?_, h2⟩
  · rw [hc k (by rw [h.2.1]; exact hk), h1]
  · rw [← h1]
/-- The rows ls are of their own, from lo on and before hi, apart from one another; their heads hs too. -/
def FrRT (lo hi : Nat) (W : World) (ao : Option Addr) (c : Nat) (hs : List (Option Addr × Nat × Nat)) (ls : List (List (Int × Int × Int))) : Prop :=
  kRT.Fresh lo hi W ao c hs ∧ hs.length = ls.length ∧ (∀ j, j < ls.length → (el hs j).2.1 = (el ls j).length ∧ kTk.Fresh lo hi W (el hs j).1 (el hs j).2.2 (el ls j)) ∧
    (∀ i j, i < j → j < ls.length → Off (el hs i).1 (el ls i).length (el hs j).1 (el ls j).length)
section
variable {lo hi : Nat} {W W' : World} {ao : Option Addr} {c : Nat} {hs : List (Option Addr × Nat × Nat)} {ls : List (List (Int × Int × Int))}
theorem FrRT.in (h : FrRT lo hi W ao c hs ls) : InRT W.heap.size W ao hs ls := ⟨h.1.in, h.2.1, fun j hj => ⟨(h.2.2.1 j hj).1, (h.2.2.1 j hj).2.in⟩⟩
theorem FrRT.keep (h : FrRT lo hi W ao c hs ls) (hk : ∀ k, lo ≤ k → k < hi → k < W.heap.size → W'.heap[k]? = W.heap[k]?) : FrRT lo hi W' ao c hs ls :=
  ⟨h.1.keep hk, h.2.1, fun j hj => ⟨(h.2.2.1 j hj).1, (h.2.2.1 j hj).2.keep hk⟩, h.2.2.2⟩
theorem FrRT.later (h : FrRT lo hi W ao c hs ls) (hb : Below W.heap.size W W') : FrRT lo hi W' ao c hs ls := h.keep fun k _ _ hk => hb.block k hk
theorem FrRT.wide {lo' hi' : Nat} (h : FrRT lo hi W ao c hs ls) (h1 : lo' ≤ lo) (h2 : hi ≤ hi') : FrRT lo' hi' W ao c hs ls :=
  ⟨h.1.wide h1 h2, h.2.1, fun j hj => ⟨(h.2.2.1 j hj).1, (h.2.2.1 j hj).2.wide h1 h2⟩, h.2.2.2⟩
theorem FrRT.between' {lo' hi' : Nat} (h : FrRT lo hi W ao c hs ls) (hb : Between lo' hi' W W') (hd : hi ≤ lo' ∨ hi' ≤ lo) : FrRT lo hi W' ao c hs ls :=
  h.keep fun k h1 h2 h3 => hb.block k h3 (by omega)
theorem FrRT.nil (lo hi : Nat) (W : World) (ao : Option Addr) (c : Nat) : FrRT lo hi W ao c [] [] := ⟨.inl rfl, rfl, fun j hj => by simp at hj, fun i j _ hj => by simp at hj⟩
/-- One of the rows is written. -/
theorem FrRT.set {k : Nat} {x : List (Int × Int × Int)} (h : FrRT lo hi W ao c hs ls) (hk : k < ls.length) (hx : x.length = (el ls k).length) (hF : kTk.Fresh lo hi W' (el hs k).1 (el hs k).2.2 x) (hO : OnlyAt (eff (el hs k).1 (el ls k).length) W W') : FrRT lo hi W' ao c hs (ls.set k x) := by
  have he : ∀ j, j < ls.length → el (ls.set k x) j = if j = k then x else el ls j := by
    intro j hj
    by_cases e : j = k
    · subst e; simp [el, hj]
    · simp [el, e, Ne.symm e]
  have hlen : ∀ j, j < ls.length → (el (ls.set k x) j).length = (el ls j).length := by
    intro j hj
    rw [he j hj]
    split
    · rename_i e; rw [hx, e]
    · rfl
  refine ⟨?_, by rw [List.length_set]; exact h.2.1, ?_, ?_⟩
  · refine h.1.off (h.1.rowAt.off (h.2.2.1 k hk).2.rowAt ?_) hO
    show (56 : TypeId) ≠ 70
    decide
  · intro j hj
    rw [List.length_set] at hj
    refine ⟨by rw [hlen j hj]; exact (h.2.2.1 j hj).1, ?_⟩
    rw [he j hj]
    split
    · rename_i e; subst e; exact hF
    · rename_i e
      refine (h.2.2.1 j hj).2.off ?_ hO
      rcases Nat.lt_or_ge j k with hjk | hjk
      · exact h.2.2.2 j k hjk hk
      · exact (h.2.2.2 k j (by omega) hj).symm
  · intro i j hij hj
    rw [List.length_set] at hj
    rw [hlen i (by omega), hlen j hj]
    exact h.2.2.2 i j hij hj
end
/-- How many there are in all. -/
def totT (ls : List (List (Int × Int × Int))) : Nat := (ls.map List.length).sum
theorem totT_nil : totT [] = 0 := rfl
theorem totT_take {ls : List (List (Int × Int × Int))} {k : Nat} (h : k < ls.length) : totT (ls.take (k + 1)) = totT (ls.take k) + (el ls k).length := by
  rw [take_succ_el h]; simp [totT]
theorem totT_le (ls : List (List (Int × Int × Int))) (k : Nat) : totT (ls.take k) ≤ totT ls := by
  induction ls generalizing k with
  | nil => simp [totT]
  | cons x r ih =>
    cases k with
    | zero => simp [totT]
    | succ k => simp only [List.take_succ_cons, totT, List.map_cons, List.sum_cons]; have := ih k; simp only [totT] at this; omega
theorem totT_el {ls : List (List (Int × Int × Int))} {k : Nat} (h : k < ls.length) : totT (ls.take k) + (el ls k).length ≤ totT ls := by
  rw [← totT_take h]; exact totT_le ls _
set_option maxHeartbeats 1000000 in
theorem szTokenSS_any (ao : Option Addr) (cap : Nat) (hs : List (Option Addr × Nat × Nat)) (ls : List (List (Int × Int × Int))) (L : Int) (w : World) (h0 : 0 ≤ L) (h1 : L ≤ 1048576) (hl : ls.length ≤ 9223372036854775807) (hle : ∀ l ∈ ls, l.length ≤ 9223372036854775807) (hz : InRT w.heap.size w ao hs ls) :
    Calls Tryd.prog 9 #[.slice ao ls.length cap, .int .i64 L] w fun e w' => (∃ r : Int, e = .returned (.int .i64 r) ∧ r ≤ 1048576 ∧ ((r < 0) ∨ (r = L - ls.length - totT ls ∧ 0 ≤ r))) ∧ w' = w := by
  by_cases hbig : L - (ls.length : Int) < 0
  · go_enter Tryd.func9, Tryd.ntmps9
    go_wp2
    go_ret
    exact ⟨⟨_, rfl, by omega, by omega⟩, rfl⟩
  · have hb' : decide (L - (ls.length : Int) < 0) = false := by simpa using hbig
    go_enter Tryd.func9, Tryd.ntmps9
    go_wp2
    go_loop [1, 5] (fun v i => ∃ (k : Nat), k ≤ ls.length ∧ i = .int .i64 k ∧ v = .int .i64 (L - ls.length - totT (ls.take k)) ∧ (0 : Int) ≤ L - ls.length - totT (ls.take k)) (fun _ i => ls.length - (intOf i).toNat)
    case atStart => exact ⟨0, Nat.zero_le _, rfl, by simp [totT], by simp [totT]; omega⟩
    case round =>
      obtain ⟨k, hk, rfl, rfl, hge⟩ := hrel
      by_cases hlt : k < ls.length
      · obtain ⟨b, off, o, c, rfl, hb, hc, _, _⟩ := hz.at hlt
        have hlk := hle _ (el_mem hlt)
        have ht := totT_take hlt
        generalize hx : el ls k = x at hc hlk ht
        clear hx
        go_wp2_with fail
        refine (szTokenS_any o x.length c (L - ls.length - totT (ls.take k)) w hge (by omega) hlk).mono ?_
        rintro e w1 ⟨⟨r, rfl, hr1, hr⟩, hw1⟩
        rw [hw1]; clear hw1 w1
        rcases hr with hr | ⟨rfl, hr⟩
        · have hr' : decide (r < 0) = true := by simpa using hr
          go_wp2
          go_ret
          exact ⟨⟨_, rfl, by omega, by omega⟩, rfl⟩
        · have hr' : decide (L - (ls.length : Int) - (totT (ls.take k) : Int) - (x.length : Int) < 0) = false := by simpa using hr
          go_wp2
          go_round
          case rel => exact ⟨k + 1, by omega, by go_num, by rw [ht]; push_cast; congr 1; omega, by rw [ht]; push_cast; omega⟩
          case measure => simp [intOf]; omega
      · obtain rfl : k = ls.length := by omega
        rw [List.take_length] at hge ⊢
        go_wp2
        go_ret
        exact ⟨⟨_, rfl, by omega, by omega⟩, rfl⟩
set_option maxHeartbeats 2000000 in
theorem eqTokenSS_same (ao bo : Option Addr) (cap cap' : Nat) (hs hs' : List (Option Addr × Nat × Nat)) (ls : List (List (Int × Int × Int))) (w : World) (hl : ls.length ≤ 1048576) (hle : totT ls ≤ 1048576) (hz : InRT w.heap.size w ao hs ls) (hz' : InRT w.heap.size w bo hs' ls) :
    Calls Tryd.prog 21 #[.slice ao ls.length cap, .slice bo ls.length cap'] w fun e w' => e = .returned (.bool true) ∧ Below w.heap.size w w' := by
  have hne : ((ls.length : Int) != (ls.length : Int)) = false := by simp
  go_enter Tryd.func21, Tryd.ntmps21
  go_wp2
  go_loopw [5] (fun i wr => ∃ k : Nat, k ≤ ls.length ∧ i = .int .i64 k ∧ Below w.heap.size w wr) (fun i _ => ls.length - (intOf i).toNat)
  case atStart => exact ⟨0, Nat.zero_le _, rfl, Below.refl _ _⟩
  case round =>
    obtain ⟨k, hk, rfl, hnx⟩ := hrel
    by_cases hlt : k < ls.length
    · obtain ⟨b, off, o, c, rfl, hb, hc, _, hI⟩ := hz.at hlt
      obtain ⟨b', off', o', c', rfl, hb', hc', _, hI'⟩ := hz'.at hlt
      have d1 := (hnx.cell (p := ⟨b, off + k, none⟩) hb).trans hc
      have d2 := (hnx.cell (p := ⟨b', off' + k, none⟩) hb').trans hc'
      have hxl : (el ls k).length ≤ 1048576 := by have := totT_el hlt; omega
      generalize hx : el ls k = x at d1 d2 hI hI' hxl
      have HI := hid (hI.later hnx)
      have HI' := hid (hI'.later hnx)
      clear hx hc hc' hI hI'
      go_wp2
      go_region_with (go_at_call 30; refine (eqTokenS_same o o' c c' x _ hxl (by exact HI.out) (by exact HI'.out)).mono ?_; rintro e w1 ⟨rfl, hb1⟩)
      all_goals go_wp2
      all_goals
        have hb2 : Below wr.drew.heap.size wr.drew w1 := by assumption
        have hnb : Below w.heap.size w w1 := hnx.drew.trans (hb2.mono hnx.size)
        go_roundw
        case rel => exact ⟨k + 1, by omega, by go_num, hnb⟩
        case measure => simp [intOf]; omega
    · obtain rfl : k = ls.length := by omega
      go_wp2
      go_ret
      exact ⟨rfl, hnx⟩
/-- The heads and rows up to k are laid. -/
structure LaidT (lo : Nat) (W : World) (hs : List (Option Addr × Nat × Nat)) (ls : List (List (Int × Int × Int))) (k : Nat) : Prop where
  len : hs.length = k
  row : ∀ j, j < k → (el hs j).2.1 = (el ls j).length ∧ kTk.Fresh lo W.heap.size W (el hs j).1 (el hs j).2.2 (el ls j)
  off : ∀ i j, i < j → j < k → Off (el hs i).1 (el ls i).length (el hs j).1 (el ls j).length
theorem LaidT.keep {lo : Nat} {W W' : World} {hs : List (Option Addr × Nat × Nat)} {ls : List (List (Int × Int × Int))} {k : Nat} (h : LaidT lo W hs ls k) (hsz : W.heap.size ≤ W'.heap.size) (hb : ∀ i, lo ≤ i → i < W.heap.size → W'.heap[i]? = W.heap[i]?) : LaidT lo W' hs ls k :=
  ⟨h.len, fun j hj => ⟨(h.row j hj).1, ((h.row j hj).2.keep fun i h1 _ h3 => hb i h1 h3).wide (Nat.le_refl _) hsz⟩, h.off⟩
theorem LaidT.later {lo : Nat} {W W' : World} {hs : List (Option Addr × Nat × Nat)} {ls : List (List (Int × Int × Int))} {k : Nat} (h : LaidT lo W hs ls k) (hb : Below W.heap.size W W') : LaidT lo W' hs ls k := h.keep hb.size fun i _ hi => hb.block i hi
theorem LaidT.add {lo : Nat} {W W' : World} {hs : List (Option Addr × Nat × Nat)} {ls : List (List (Int × Int × Int))} {k : Nat} {o : Option Addr} {c : Nat} (h : LaidT lo W hs ls k) (hb : Below W.heap.size W W') (hlo : lo ≤ W.heap.size) (hF : kTk.Fresh W.heap.size W'.heap.size W' o c (el ls k)) : LaidT lo W' (hs ++ [(o, (el ls k).length, c)]) ls (k + 1) := by
  have h2 := h.later hb
  have hl : ∀ j, j < k → el (hs ++ [(o, (el ls k).length, c)]) j = el hs j := fun j hj => el_app_left (by rw [h.len]; exact hj)
  have hr : el (hs ++ [(o, (el ls k).length, c)]) k = (o, (el ls k).length, c) := by
    have := el_app_right hs [(o, (el ls k).length, c)] 0
    rw [h.len, Nat.add_zero] at this
    rw [this, el_zero]
  refine ⟨by simp [h.len], fun j hj => ?_, fun i j hij hj => ?_⟩
  · rcases Nat.lt_succ_iff_lt_or_eq.1 hj with hj | rfl
    · rw [hl j hj]; exact h2.row j hj
    · rw [hr]; exact ⟨rfl, hF.wide hlo (Nat.le_refl _)⟩
  · rcases Nat.lt_succ_iff_lt_or_eq.1 hj with hj | rfl
    · rw [hl i (by omega), hl j hj]; exact h.off i j hij hj
    · rw [hl i hij, hr]
      exact (h.row i hij).2.apart hF (Nat.le_refl _)
theorem LaidT.fr {lo lo' : Nat} {W : World} {hs : List (Option Addr × Nat × Nat)} {ls : List (List (Int × Int × Int))} {ao : Option Addr} {c : Nat} (h : LaidT lo W hs ls ls.length) (hlo : lo' ≤ lo) (hF : kRT.Fresh lo' W.heap.size W ao c hs) : FrRT lo' W.heap.size W ao c hs ls :=
  ⟨hF, h.len, fun j hj => ⟨(h.row j hj).1, (h.row j hj).2.wide hlo (Nat.le_refl _)⟩, h.off⟩
theorem LaidT.zero (lo : Nat) (W : World) (ls : List (List (Int × Int × Int))) : LaidT lo W [] ls 0 := ⟨rfl, fun j hj => by omega, fun i j _ hj => by omega⟩
set_option maxHeartbeats 4000000 in
theorem toTokenSS_any (ao : Option Addr) (cap : Nat) (hs : List (Option Addr × Nat × Nat)) (ls : List (List (Int × Int × Int))) (w : World) (hl : ls.length ≤ 1048576) (hle : totT ls ≤ 1048576) (hz : InRT w.heap.size w ao hs ls) :
    Calls Tryd.prog 15 #[.slice ao ls.length cap] w fun e w' => e = .returned (.slice (some ⟨w.heap.size, 0, none⟩) ls.length ls.length) ∧ (∃ hs', FrRT w.heap.size w'.heap.size w' (some ⟨w.heap.size, 0, none⟩) ls.length hs' ls) ∧ Below w.heap.size w w' := by
  obtain ⟨i0, hi, hz0, hz1, hz2⟩ := info_parts Tryd.info56
  go_enter Tryd.func15, Tryd.ntmps15
  go_wp2_with (at_make; refine wpList_make_full _ rfl _ _ 30 rfl w.heap.size 56 i0 (.slice none 0 0) 1 Tryd.underlying30 hi hz0 hz1 .i64 .i64 _ _ ls.length rfl rfl rfl rfl (by rw [hz2]; omega) (by unfold maxLen; omega) (Nat.le_refl _) ?_; intro w1 hown hgrow)
  have hB1 : Below w.heap.size w w1 := (Below.refl _ _).grown hgrow (Nat.le_refl _) (fun k e => by cases e)
  have hs1 : w.heap.size + 1 ≤ w1.heap.size := (owns_lt hown).2
  have HO := show Hid _ from hown
  clear hown hgrow
  go_loopw [4] (fun i wr => ∃ (k : Nat) (xs : List Value) (gs : List (Option Addr × Nat × Nat)), k ≤ ls.length ∧ i = .int .i64 k ∧ Hid (wr.ownsRow w.heap.size 56 1 (.slice (some ⟨w.heap.size, 0, none⟩) ls.length ls.length) ls.length xs ∧ ∀ j, j < k → xs[j]? = some (.slice (el gs j).1 (el gs j).2.1 (el gs j).2.2)) ∧ Below w.heap.size w wr ∧ Hid (LaidT (w.heap.size + 1) wr gs ls k) ∧ w.heap.size + 1 ≤ wr.heap.size) (fun i _ => ls.length - (intOf i).toNat)
  case atStart => exact ⟨0, _, [], Nat.zero_le _, rfl, ⟨HO.out, fun j hj => by omega⟩, hB1, LaidT.zero _ _ _, hs1⟩
  case round =>
    obtain ⟨k, xs, gs, hk, rfl, ho, hnx, hL, hsr⟩ := hrel
    by_cases hlt : k < ls.length
    · obtain ⟨b, off, o, c, rfl, hb, hc, _, hI⟩ := hz.at hlt
      have d1 := (hnx.cell (p := ⟨b, off + k, none⟩) hb).trans hc
      have HI := hid (hI.later hnx)
      have hxl : (el ls k).length ≤ 1048576 := by have := totT_el hlt; omega
      obtain ⟨x, hx⟩ : ∃ x, x = el ls k := ⟨_, rfl⟩
      rw [← hx] at d1 HI hxl
      have HX := hid hx
      clear hx hc hI
      go_wp2_with fail
      refine (toTokenS_any o c x wr hxl HI.out).mono ?_
      rintro e w2 ⟨rfl, hF2, hb2⟩
      have hxk : k < xs.length := by rw [ho.out.1.1]; omega
      have ho2 := ownsRow_below ho.out.1 hb2
      have hnb : Below w.heap.size w w2 := hnx.trans (hb2.mono hnx.size)
      have HO2 := hid ho2
      have hst : w2.cell? ⟨w.heap.size, k, none⟩ = some xs[k] := (ho2.cellAt k (by omega)).trans (by simp)
      have hfr : w2.frozen? ⟨w.heap.size, k, none⟩ = false := ho2.frozenAt k
      have hL2 : Hid (LaidT (w.heap.size + 1) w2 (gs ++ [(some ⟨wr.heap.size, 0, none⟩, x.length, x.length)]) ls (k + 1)) := by
        have := hL.out.add hb2 hsr (by rw [← HX.out]; exact hF2)
        rw [← HX.out] at this
        exact this
      have hs2 : w.heap.size + 1 ≤ w2.heap.size := Nat.le_trans hsr hb2.size
      have HG := hid hL.out.len
      have hL3 := hid (hL2.out.keep (W' := w2.setCell ⟨w.heap.size, k, none⟩ (.slice (some ⟨wr.heap.size, 0, none⟩) x.length x.length)) (by simp [World.setCell]) (fun i h1 _ => Below.heap_setCell _ _ _ i (by show i ≠ w.heap.size; omega)))
      clear ho2 hF2 hb2 hL hL2
      go_wp2
      go_roundw
      case rel => exact ⟨k + 1, xs.set k (.slice (some ⟨wr.heap.size, 0, none⟩) x.length x.length), _, by omega, by go_num, ⟨(HO2.out.stored k _).1, fun j hj => by
          rw [List.getElem?_set]
          rcases Nat.lt_succ_iff_lt_or_eq.1 hj with h | rfl
          · rw [if_neg (by omega), el_app_left (by rw [HG.out]; exact h)]; exact ho.out.2 j h
          · have e := el_app_right gs [(some (⟨wr.heap.size, 0, none⟩ : Addr), x.length, x.length)] 0
            rw [HG.out, Nat.add_zero, el_zero] at e
            rw [if_pos rfl, if_pos hxk, e]⟩, hnb.setCell (Nat.le_refl _) _, hL3, by simpa [World.setCell] using hs2⟩
      case measure => simp [intOf]; omega
    · obtain rfl : k = ls.length := by omega
      have hgl := hL.out.len
      have hxs : xs = kRT.flat gs := by
        refine kRT.flat_of xs gs (by rw [ho.out.1.1, hgl]; rfl) fun j hj i hi => ?_
        have e : i = 0 := by have : i < 1 := hi; omega
        subst e
        rw [hgl] at hj
        simpa [kRT] using ho.out.2 j hj
      subst hxs
      have HGL := hid hgl
      clear hgl
      go_wp2
      go_ret
      refine ⟨rfl, ⟨gs, hL.out.fr (by omega) (.inr ⟨_, rfl, (owns_lt ho.out.1).2, ?_⟩)⟩, hnx⟩
      rw [HGL.out]; exact ho.out.1
end Go.Proofs.YtjdcaommbibkaaaDoor
