
/- Rows of channels: sizes, copies, comparisons. No conditions but those written. -/
import Derived.Test.YtdjdbcfcccbhpaaPKcDp
namespace Go.Proofs.Ytdjdbcfcccbhpaa
open Go.RowKit

/-- A Chan in memory: its scalars, and of each row where it begins, its room, what it holds. -/
abbrev LChan := Int × Bool × (Option Addr × Nat × List (Int)) × (Option Addr × Nat × List (Int × Int × Int)) × (Option Addr × Nat × List (Int × Int × Int))
/-- What a Chan says, wherever it lies. -/
abbrev PChan := Int × Bool × List (Int) × List (Int × Int × Int) × List (Int × Int × Int)
def valChan (a : LChan) : PChan := (a.1, a.2.1, a.2.2.1.2.2, a.2.2.2.1.2.2, a.2.2.2.2.2.2)
def hChan : Kind LChan := ⟨45, 26, 5, fun t => [.int .i64 t.1, .bool (t.2.1), .slice t.2.2.1.1 t.2.2.1.2.2.length t.2.2.1.2.1, .slice t.2.2.2.1.1 t.2.2.2.1.2.2.length t.2.2.2.1.2.1, .slice t.2.2.2.2.1 t.2.2.2.2.2.2.length t.2.2.2.2.2.1], fun _ => rfl, fun a v h => by simp at h; rcases h with rfl | rfl | rfl | rfl | rfl <;> rfl⟩
theorem Try.info45 : (Try.prog.info? 45).map (fun i => (i.zero, i.size, i.bytes)) = some (some (.agg #[.int .i64 0, .bool false, .slice none 0 0, .slice none 0 0, .slice none 0 0]), 5, 88) := by kernel_rfl
theorem hChan_ok : hChan.Ok := kind_ok (K := hChan) Try.underlying26 Try.info45 rfl (by decide) (by decide)
theorem hChan_at {n : Nat} {W : World} {ao : Option Addr} {ts : List LChan} (h : hChan.In n W ao ts) {k : Nat} (hk : k < ts.length) :
    ∃ b off, ao = some ⟨b, off, none⟩ ∧ b < n ∧ ∀ j, j < ts.length → W.cell? ⟨b, off + j * 5, none⟩ = some (.int .i64 (el ts j).1) ∧ W.cell? ⟨b, off + j * 5 + 1, none⟩ = some (.bool ((el ts j).2.1)) ∧ W.cell? ⟨b, off + j * 5 + 2, none⟩ = some (.slice (el ts j).2.2.1.1 (el ts j).2.2.1.2.2.length (el ts j).2.2.1.2.1) ∧ W.cell? ⟨b, off + j * 5 + 3, none⟩ = some (.slice (el ts j).2.2.2.1.1 (el ts j).2.2.2.1.2.2.length (el ts j).2.2.2.1.2.1) ∧ W.cell? ⟨b, off + j * 5 + 4, none⟩ = some (.slice (el ts j).2.2.2.2.1 (el ts j).2.2.2.2.2.2.length (el ts j).2.2.2.2.2.1) := by
  obtain ⟨b, off, e, hb, hc⟩ := h.pos hk
  exact ⟨b, off, e, hb, fun j hj => ⟨hc j hj 0 (by decide), hc j hj 1 (by decide), hc j hj 2 (by decide), hc j hj 3 (by decide), hc j hj 4 (by decide)⟩⟩
def dChan : Deep LChan := ⟨hChan, fun n W a => InChan n W (a.2.2.1).1 (a.2.2.1).2.2 (a.2.2.2.1).1 (a.2.2.2.1).2.2 (a.2.2.2.2).1 (a.2.2.2.2).2.2, fun lo hi W a => FrChan lo hi W (a.2.2.1).1 (a.2.2.1).2.1 (a.2.2.1).2.2 (a.2.2.2.1).1 (a.2.2.2.1).2.1 (a.2.2.2.1).2.2 (a.2.2.2.2).1 (a.2.2.2.2).2.1 (a.2.2.2.2).2.2, fun a b => rowOwn (a.2.2.1).1 (a.2.2.1).2.2 b ∨ rowOwn (a.2.2.2.1).1 (a.2.2.2.1).2.2 b ∨ rowOwn (a.2.2.2.2).1 (a.2.2.2.2).2.2 b⟩
theorem InChan.up {n m : Nat} {W : World} {bo : Option Addr} {b : List (Int)} {so : Option Addr} {s : List (Int × Int × Int)} {ro : Option Addr} {r : List (Int × Int × Int)} (h : InChan n W bo b so s ro r) (hm : n ≤ m) : InChan m W bo b so s ro r := ⟨h.1.up hm, h.2.1.up hm, h.2.2.up hm⟩
theorem dChan_ok : dChan.Ok where
  kok := hChan_ok
  below := fun h hb => InChan.below h hb
  up := fun h hm => InChan.up h hm
  fin := fun h => FrChan.in h
  keep := fun {lo hi W W' a} h hk => ⟨h.1.keepB fun b hb => hk b (.inl hb), h.2.1.keepB fun b hb => hk b (.inr (.inl hb)), h.2.2.1.keepB fun b hb => hk b (.inr (.inr hb)), h.2.2.2⟩
  wide := fun h h1 h2 => FrChan.wide h h1 h2
  lt := fun {lo hi W a b} h hb => by
    rcases hb with hb | hb | hb
    · obtain ⟨h1, h2, h3, cur, h4⟩ := (h.1).lt hb
      exact ⟨h1, h2, h3, cur, _, h4, by decide⟩
    · obtain ⟨h1, h2, h3, cur, h4⟩ := (h.2.1).lt hb
      exact ⟨h1, h2, h3, cur, _, h4, by decide⟩
    · obtain ⟨h1, h2, h3, cur, h4⟩ := (h.2.2.1).lt hb
      exact ⟨h1, h2, h3, cur, _, h4, by decide⟩
/-- How many there are behind a Chan. -/
def sizeChan (a : LChan) : Nat := (a.2.2.1).2.2.length + (a.2.2.2.1).2.2.length + (a.2.2.2.2).2.2.length
def totChan (ts : List LChan) : Nat := (ts.map sizeChan).sum
theorem totChan_take {ts : List LChan} {k : Nat} (h : k < ts.length) : totChan (ts.take (k + 1)) = totChan (ts.take k) + sizeChan (el ts k) := by rw [take_succ_el h]; simp [totChan]
theorem totChan_le (ts : List LChan) (k : Nat) : totChan (ts.take k) ≤ totChan ts := by
  induction ts generalizing k with
  | nil => simp [totChan]
  | cons x r ih =>
    cases k with
    | zero => simp [totChan]
    | succ k => simp only [List.take_succ_cons, totChan, List.map_cons, List.sum_cons]; have := ih k; simp only [totChan] at this; omega
theorem totChan_el {ts : List LChan} {k : Nat} (h : k < ts.length) : totChan (ts.take k) + sizeChan (el ts k) ≤ totChan ts := by rw [← totChan_take h]; exact totChan_le ts _
set_option maxHeartbeats 2000000 in
theorem szgChan_any (kap : Int) (cl : Bool) (bo : Option Addr) (nb bc : Nat) (so : Option Addr) (ns sc : Nat) (ro : Option Addr) (nr rc : Nat) (L : Int) (w : World) (h0 : 0 ≤ L) (h1 : L ≤ 1048576) (hlb : nb ≤ 9223372036854775807) (hls : ns ≤ 9223372036854775807) (hlr : nr ≤ 9223372036854775807) :
    Calls Try.prog 32 #[.agg #[.int .i64 kap, .bool cl, .slice bo nb bc, .slice so ns sc, .slice ro nr rc], .int .i64 L] w fun e w' => (∃ z : Int, e = .returned (.int .i64 z) ∧ z ≤ 1048576 ∧ ((z < 0) ∨ (z = L - (nb + ns + nr : Nat) ∧ 0 ≤ z))) ∧ Below w.heap.size w w' := by
  have hB0 := below1 w (.cells #[.int .i64 kap, .bool cl, .slice bo nb bc, .slice so ns sc, .slice ro nr rc] 63)
  go_enter Try.func32, Try.ntmps32
  go_wp2_with fail
  refine (szIntS_any _ _ _ _ _ (by omega) (by omega) hlb).mono ?_
  rintro e w1 ⟨⟨z0, rfl, hr0, hs0⟩, rfl⟩
  by_cases g0 : z0 < 0
  · go_wp2
    go_ret
    exact ⟨⟨_, rfl, by omega, by omega⟩, hB0⟩
  go_wp2_with fail
  refine (szWaiterS_any _ _ _ _ _ (by omega) (by omega) hls).mono ?_
  rintro e w1 ⟨⟨z1, rfl, hr1, hs1⟩, rfl⟩
  by_cases g1 : z1 < 0
  · go_wp2
    go_ret
    exact ⟨⟨_, rfl, by omega, by omega⟩, hB0⟩
  go_wp2_with fail
  refine (szWaiterS_any _ _ _ _ _ (by omega) (by omega) hlr).mono ?_
  rintro e w1 ⟨⟨z2, rfl, hr2, hs2⟩, rfl⟩
  by_cases g2 : z2 < 0
  · go_wp2
    go_ret
    exact ⟨⟨_, rfl, by omega, by omega⟩, hB0⟩
  go_wp2
  go_ret
  exact ⟨⟨_, rfl, by omega, by omega⟩, hB0⟩
set_option maxHeartbeats 2000000 in
theorem szChanS_any (ao : Option Addr) (cap : Nat) (ts : List LChan) (L : Int) (w : World) (h0 : 0 ≤ L) (h1 : L ≤ 1048576) (hl : ts.length ≤ 9223372036854775807) (hle : ∀ a ∈ ts, (a.2.2.1).2.2.length ≤ 9223372036854775807 ∧ (a.2.2.2.1).2.2.length ≤ 9223372036854775807 ∧ (a.2.2.2.2).2.2.length ≤ 9223372036854775807) (hz : hChan.In w.heap.size w ao ts) :
    Calls Try.prog 14 #[.slice ao ts.length cap, .int .i64 L] w fun e w' => (∃ r : Int, e = .returned (.int .i64 r) ∧ r ≤ 1048576 ∧ ((r < 0) ∨ (r = L - ts.length - totChan ts ∧ 0 ≤ r))) ∧ Below w.heap.size w w' := by
  by_cases hbig : L - (ts.length : Int) < 0
  · go_enter Try.func14, Try.ntmps14
    go_wp2
    go_ret
    exact ⟨⟨_, rfl, by omega, by omega⟩, Below.refl _ _⟩
  · have hb' : decide (L - (ts.length : Int) < 0) = false := by simpa using hbig
    go_enter Try.func14, Try.ntmps14
    go_wp2
    go_loopw [1, 5] (fun v i wr => ∃ (k : Nat), k ≤ ts.length ∧ i = .int .i64 k ∧ v = .int .i64 (L - ts.length - totChan (ts.take k)) ∧ (0 : Int) ≤ L - ts.length - totChan (ts.take k) ∧ Below w.heap.size w wr) (fun _ i _ => ts.length - (intOf i).toNat)
    case atStart => exact ⟨0, Nat.zero_le _, rfl, by simp [totChan], by simp [totChan]; omega, Below.refl _ _⟩
    case round =>
      obtain ⟨k, hk, rfl, rfl, hge, hnx⟩ := hrel
      by_cases hlt : k < ts.length
      · obtain ⟨b, off, rfl, hb, hc⟩ := hChan_at hz hlt
        have d1 := (hnx.cell (p := ⟨b, off + k * 5, none⟩) hb).trans (hc k hlt).1
        have d2 := (hnx.cell (p := ⟨b, off + k * 5 + 1, none⟩) hb).trans (hc k hlt).2.1
        have d3 := (hnx.cell (p := ⟨b, off + k * 5 + 2, none⟩) hb).trans (hc k hlt).2.2.1
        have d4 := (hnx.cell (p := ⟨b, off + k * 5 + 3, none⟩) hb).trans (hc k hlt).2.2.2.1
        have d5 := (hnx.cell (p := ⟨b, off + k * 5 + 4, none⟩) hb).trans (hc k hlt).2.2.2.2
        have hlk := hle _ (el_mem hlt)
        have ht := totChan_take hlt
        unfold sizeChan at ht
        obtain ⟨⟨kap, cl, ⟨bo, bc, b⟩, ⟨so, sc, s⟩, ⟨ro, rc, r⟩⟩, ex⟩ : ∃ v, v = el ts k := ⟨_, rfl⟩
        rw [← ex] at d1 d2 d3 d4 d5 hlk ht
        clear ex hc
        dsimp only at d1 d2 d3 d4 d5 hlk ht
        go_wp2_with fail
        refine (szgChan_any kap cl bo b.length bc so s.length sc ro r.length rc (L - ts.length - totChan (ts.take k)) _ hge (by omega) hlk.1 hlk.2.1 hlk.2.2).mono ?_
        rintro e w1 ⟨⟨r, rfl, hr1, hr⟩, hb1⟩
        have hB1 := hnx.trans (hb1.mono hnx.size)
        clear hb1
        rcases hr with hr | ⟨rfl, hr⟩
        · have hr' : decide (r < 0) = true := by simpa using hr
          go_wp2
          go_ret
          exact ⟨⟨_, rfl, by omega, by omega⟩, hB1⟩
        · go_wp2
          go_roundw
          case rel => exact ⟨k + 1, by omega, by go_num, by rw [ht]; push_cast; congr 1; omega, by rw [ht]; push_cast; omega, hB1⟩
          case measure => simp [intOf]; omega
      · obtain rfl : k = ts.length := by omega
        rw [List.take_length] at hge ⊢
        go_wp2
        go_ret
        exact ⟨⟨_, rfl, by omega, by omega⟩, hnx⟩
set_option maxHeartbeats 8000000 in
theorem toChanS_any (ao : Option Addr) (cap : Nat) (ts : List LChan) (w : World) (hl : ts.length ≤ 1048576) (hle : ∀ a ∈ ts, (a.2.2.1).2.2.length ≤ 1048576 ∧ (a.2.2.2.1).2.2.length ≤ 1048576 ∧ (a.2.2.2.2).2.2.length ≤ 1048576) (hz : DIn dChan w.heap.size w ao ts) :
    Calls Try.prog 20 #[.slice ao ts.length cap] w fun e w' => e = .returned (.slice (some ⟨w.heap.size, 0, none⟩) ts.length ts.length) ∧ (∃ lay, lay.map valChan = ts.map valChan ∧ DFr dChan w.heap.size w'.heap.size w' (some ⟨w.heap.size, 0, none⟩) ts.length lay) ∧ Below w.heap.size w w' := by
  obtain ⟨i0, hi, hz0, hz1, hz2⟩ := info_parts Try.info45
  go_enter Try.func20, Try.ntmps20
  go_wp2_with (at_make; refine wpList_make_full _ rfl _ _ 26 rfl w.heap.size 45 i0 (.agg #[.int .i64 0, .bool false, .slice none 0 0, .slice none 0 0, .slice none 0 0]) 5 Try.underlying26 hi hz0 hz1 .i64 .i64 _ _ ts.length rfl rfl rfl rfl (by rw [hz2]; omega) (by unfold maxLen; omega) (Nat.le_refl _) ?_; intro w1 hown hgrow)
  have hB1 : Below w.heap.size w w1 := (Below.refl _ _).grown hgrow (Nat.le_refl _) (fun k e => by cases e)
  have hs1 : w.heap.size + 1 ≤ w1.heap.size := (owns_lt hown).2
  have HO := show Hid _ from hown
  clear hown hgrow
  go_loopw [4] (fun i wr => ∃ (k : Nat) (xs : List Value) (lay : List LChan), k ≤ ts.length ∧ i = .int .i64 k ∧ Hid (wr.ownsRow w.heap.size 45 5 (.slice (some ⟨w.heap.size, 0, none⟩) ts.length ts.length) ts.length xs ∧ ∀ j, j < k → xs[j * 5]? = some (.int .i64 (el lay j).1) ∧ xs[j * 5 + 1]? = some (.bool ((el lay j).2.1)) ∧ xs[j * 5 + 2]? = some (.slice (el lay j).2.2.1.1 (el lay j).2.2.1.2.2.length (el lay j).2.2.1.2.1) ∧ xs[j * 5 + 3]? = some (.slice (el lay j).2.2.2.1.1 (el lay j).2.2.2.1.2.2.length (el lay j).2.2.2.1.2.1) ∧ xs[j * 5 + 4]? = some (.slice (el lay j).2.2.2.2.1 (el lay j).2.2.2.2.2.2.length (el lay j).2.2.2.2.2.1)) ∧ Below w.heap.size w wr ∧ Hid (LaidD dChan (w.heap.size + 1) wr lay k) ∧ Hid (lay.map valChan = (ts.take k).map valChan) ∧ w.heap.size + 1 ≤ wr.heap.size) (fun i _ => ts.length - (intOf i).toNat)
  case atStart => exact ⟨0, _, [], Nat.zero_le _, rfl, ⟨HO.out, fun j hj => by omega⟩, hB1, LaidD.zero _ _, rfl, hs1⟩
  case round =>
    obtain ⟨k, xs, lay, hk, rfl, ho, hnx, hL, hV, hsr⟩ := hrel
    by_cases hlt : k < ts.length
    · obtain ⟨b, off, rfl, hb, hc⟩ := hChan_at hz.1 hlt
      have d1 := (hnx.cell (p := ⟨b, off + k * 5, none⟩) hb).trans (hc k hlt).1
      have d2 := (hnx.cell (p := ⟨b, off + k * 5 + 1, none⟩) hb).trans (hc k hlt).2.1
      have d3 := (hnx.cell (p := ⟨b, off + k * 5 + 2, none⟩) hb).trans (hc k hlt).2.2.1
      have d4 := (hnx.cell (p := ⟨b, off + k * 5 + 3, none⟩) hb).trans (hc k hlt).2.2.2.1
      have d5 := (hnx.cell (p := ⟨b, off + k * 5 + 4, none⟩) hb).trans (hc k hlt).2.2.2.2
      have hI := hz.2 k hlt
      have hlk := hle _ (el_mem hlt)
      have HT := hid (take_succ_el hlt)
      obtain ⟨⟨kap, cl, ⟨bo, bc, b⟩, ⟨so, sc, s⟩, ⟨ro, rc, r⟩⟩, ex⟩ : ∃ v, v = el ts k := ⟨_, rfl⟩
      rw [← ex] at d1 d2 d3 d4 d5 hI hlk HT
      clear ex hc
      dsimp only at d1 d2 d3 d4 d5 hlk
      have HI : Hid (InChan wr.heap.size wr bo b so s ro r) := InChan.up (InChan.below hI hnx) hnx.size
      clear hI
      go_wp2_with fail
      refine (toChan_any kap cl bo bc b so sc s ro rc r wr hlk.1 hlk.2.1 hlk.2.2 HI.out).mono ?_
      rintro e w2 ⟨gb, gs, gr, rfl, hF2, hb2⟩
      have hxl : k * 5 + 4 < xs.length := by rw [ho.out.1.1]; omega
      have ho2 := ownsRow_below ho.out.1 hb2
      have hnb : Below w.heap.size w w2 := hnx.trans (hb2.mono hnx.size)
      have HO2 := hid ho2
      have hst1 : w2.cell? ⟨w.heap.size, k * 5, none⟩ = some xs[k * 5] := (ho2.cellAt (k * 5) (by omega)).trans (by simp)
      have hfr1 : w2.frozen? ⟨w.heap.size, k * 5, none⟩ = false := ho2.frozenAt (k * 5)
      have hst2 : w2.cell? ⟨w.heap.size, k * 5 + 1, none⟩ = some xs[k * 5 + 1] := (ho2.cellAt (k * 5 + 1) (by omega)).trans (by simp)
      have hfr2 : w2.frozen? ⟨w.heap.size, k * 5 + 1, none⟩ = false := ho2.frozenAt (k * 5 + 1)
      have hst3 : w2.cell? ⟨w.heap.size, k * 5 + 2, none⟩ = some xs[k * 5 + 2] := (ho2.cellAt (k * 5 + 2) (by omega)).trans (by simp)
      have hfr3 : w2.frozen? ⟨w.heap.size, k * 5 + 2, none⟩ = false := ho2.frozenAt (k * 5 + 2)
      have hst4 : w2.cell? ⟨w.heap.size, k * 5 + 3, none⟩ = some xs[k * 5 + 3] := (ho2.cellAt (k * 5 + 3) (by omega)).trans (by simp)
      have hfr4 : w2.frozen? ⟨w.heap.size, k * 5 + 3, none⟩ = false := ho2.frozenAt (k * 5 + 3)
      have hst5 : w2.cell? ⟨w.heap.size, k * 5 + 4, none⟩ = some xs[k * 5 + 4] := (ho2.cellAt (k * 5 + 4) (by omega)).trans (by simp)
      have hfr5 : w2.frozen? ⟨w.heap.size, k * 5 + 4, none⟩ = false := ho2.frozenAt (k * 5 + 4)
      have hL2 : Hid (LaidD dChan (w.heap.size + 1) w2 (lay ++ [((kap, cl, (some ⟨gb, 0, none⟩, b.length, b), (some ⟨gs, 0, none⟩, s.length, s), (some ⟨gr, 0, none⟩, r.length, r)) : LChan)]) (k + 1)) := hL.out.add dChan_ok hb2 hsr hF2
      have hV2 : Hid ((lay ++ [((kap, cl, (some ⟨gb, 0, none⟩, b.length, b), (some ⟨gs, 0, none⟩, s.length, s), (some ⟨gr, 0, none⟩, r.length, r)) : LChan)]).map valChan = (ts.take (k + 1)).map valChan) := by rw [Hid, HT.out, List.map_append, List.map_append, hV.out]; rfl
      have hs2 : w.heap.size + 1 ≤ w2.heap.size := Nat.le_trans hsr hb2.size
      have HG := hid hL.out.len
      obtain ⟨W3, hW3⟩ : ∃ W3, W3 = (((((w2.setCell ⟨w.heap.size, k * 5, none⟩ (.int .i64 kap)).setCell ⟨w.heap.size, k * 5 + 1, none⟩ (.bool cl)).setCell ⟨w.heap.size, k * 5 + 2, none⟩ (.slice (some ⟨gb, 0, none⟩) b.length b.length)).setCell ⟨w.heap.size, k * 5 + 3, none⟩ (.slice (some ⟨gs, 0, none⟩) s.length s.length)).setCell ⟨w.heap.size, k * 5 + 4, none⟩ (.slice (some ⟨gr, 0, none⟩) r.length r.length)) := ⟨_, rfl⟩
      have hL3 : Hid (LaidD dChan (w.heap.size + 1) W3 (lay ++ [((kap, cl, (some ⟨gb, 0, none⟩, b.length, b), (some ⟨gs, 0, none⟩, s.length, s), (some ⟨gr, 0, none⟩, r.length, r)) : LChan)]) (k + 1)) := by rw [Hid, hW3]; exact (((((hL2.out.set dChan_ok (a := ⟨w.heap.size, k * 5, none⟩) (by dsimp only; omega) _).set dChan_ok (a := ⟨w.heap.size, k * 5 + 1, none⟩) (by dsimp only; omega) _).set dChan_ok (a := ⟨w.heap.size, k * 5 + 2, none⟩) (by dsimp only; omega) _).set dChan_ok (a := ⟨w.heap.size, k * 5 + 3, none⟩) (by dsimp only; omega) _).set dChan_ok (a := ⟨w.heap.size, k * 5 + 4, none⟩) (by dsimp only; omega) _)
      have HW3 := hid hW3
      clear ho2 hF2 hb2 hL hL2 hW3
      go_wp2
      rw [← HW3.out]
      go_roundw
      case rel => exact ⟨k + 1, (((((xs.set (k * 5) (.int .i64 kap)).set (k * 5 + 1) (.bool cl)).set (k * 5 + 2) (.slice (some ⟨gb, 0, none⟩) b.length b.length)).set (k * 5 + 3) (.slice (some ⟨gs, 0, none⟩) s.length s.length)).set (k * 5 + 4) (.slice (some ⟨gr, 0, none⟩) r.length r.length)), _, by omega, by go_num, ⟨by rw [HW3.out]; exact (((((World.ownsRow.stored HO2.out (k * 5) _).1.stored (k * 5 + 1) _).1.stored (k * 5 + 2) _).1.stored (k * 5 + 3) _).1.stored (k * 5 + 4) _).1, fun j hj => by
          rcases Nat.lt_succ_iff_lt_or_eq.1 hj with h | rfl
          · refine ⟨?_, ?_, ?_, ?_, ?_⟩
            · rw [set_far (by omega), set_far (by omega), set_far (by omega), set_far (by omega), set_far (by omega), el_snoc_left HG.out h]; exact (ho.out.2 j h).1
            · rw [set_far (by omega), set_far (by omega), set_far (by omega), set_far (by omega), set_far (by omega), el_snoc_left HG.out h]; exact (ho.out.2 j h).2.1
            · rw [set_far (by omega), set_far (by omega), set_far (by omega), set_far (by omega), set_far (by omega), el_snoc_left HG.out h]; exact (ho.out.2 j h).2.2.1
            · rw [set_far (by omega), set_far (by omega), set_far (by omega), set_far (by omega), set_far (by omega), el_snoc_left HG.out h]; exact (ho.out.2 j h).2.2.2.1
            · rw [set_far (by omega), set_far (by omega), set_far (by omega), set_far (by omega), set_far (by omega), el_snoc_left HG.out h]; exact (ho.out.2 j h).2.2.2.2
          · refine ⟨?_, ?_, ?_, ?_, ?_⟩
            · rw [set_far (by omega), set_far (by omega), set_far (by omega), set_far (by omega), set_at (by first | omega | (simp only [List.length_set]; omega)), el_snoc_right HG.out]
            · rw [set_far (by omega), set_far (by omega), set_far (by omega), set_at (by first | omega | (simp only [List.length_set]; omega)), el_snoc_right HG.out]
            · rw [set_far (by omega), set_far (by omega), set_at (by first | omega | (simp only [List.length_set]; omega)), el_snoc_right HG.out]
            · rw [set_far (by omega), set_at (by first | omega | (simp only [List.length_set]; omega)), el_snoc_right HG.out]
            · rw [set_at (by first | omega | (simp only [List.length_set]; omega)), el_snoc_right HG.out]⟩, by rw [HW3.out]; exact (((((hnb.setCell (p := ⟨w.heap.size, k * 5, none⟩) (Nat.le_refl _) _).setCell (p := ⟨w.heap.size, k * 5 + 1, none⟩) (Nat.le_refl _) _).setCell (p := ⟨w.heap.size, k * 5 + 2, none⟩) (Nat.le_refl _) _).setCell (p := ⟨w.heap.size, k * 5 + 3, none⟩) (Nat.le_refl _) _).setCell (p := ⟨w.heap.size, k * 5 + 4, none⟩) (Nat.le_refl _) _), hL3, hV2, by rw [HW3.out]; simpa [World.setCell] using hs2⟩
      case measure => simp [intOf]; omega
    · obtain rfl : k = ts.length := by omega
      have hgl := hL.out.len
      have hxs : xs = hChan.flat lay := by
        refine hChan.flat_of xs lay (by rw [ho.out.1.1, hgl]; rfl) fun j hj i hi => ?_
        have hi' : i < 5 := hi
        rw [hgl] at hj
        rcases (show i = 0 ∨ i = 1 ∨ i = 2 ∨ i = 3 ∨ i = 4 from by omega) with rfl | rfl | rfl | rfl | rfl
        · exact (ho.out.2 j hj).1
        · exact (ho.out.2 j hj).2.1
        · exact (ho.out.2 j hj).2.2.1
        · exact (ho.out.2 j hj).2.2.2.1
        · exact (ho.out.2 j hj).2.2.2.2
      subst hxs
      have HGL := hid hgl
      rw [List.take_length] at hV
      clear hgl
      go_wp2
      go_ret
      refine ⟨rfl, ⟨lay, hV.out, hL.out.fr dChan_ok (by omega) (.inr ⟨_, rfl, (owns_lt ho.out.1).2, ?_⟩)⟩, hnx⟩
      rw [HGL.out]; exact ho.out.1
set_option maxHeartbeats 4000000 in
theorem eqChanS_same (ao bo : Option Addr) (cap cap' : Nat) (ts us : List LChan) (w : World) (hl : ts.length ≤ 1048576) (hle : ∀ a ∈ ts, (a.2.2.1).2.2.length ≤ 1048576 ∧ (a.2.2.2.1).2.2.length ≤ 1048576 ∧ (a.2.2.2.2).2.2.length ≤ 1048576) (hv : ts.map valChan = us.map valChan) (hz : DIn dChan w.heap.size w ao ts) (hz' : DIn dChan w.heap.size w bo us) :
    Calls Try.prog 28 #[.slice ao ts.length cap, .slice bo us.length cap'] w fun e w' => e = .returned (.bool true) ∧ Below w.heap.size w w' := by
  have hlu : us.length = ts.length := by have := congrArg List.length hv; simpa using this.symm
  rw [hlu]
  have HLU := hid hlu
  have HV := hid hv
  clear hlu hv
  have hne : ((ts.length : Int) != (ts.length : Int)) = false := by simp
  go_enter Try.func28, Try.ntmps28
  go_wp2
  go_loopw [5] (fun i wr => ∃ k : Nat, k ≤ ts.length ∧ i = .int .i64 k ∧ Below w.heap.size w wr) (fun i _ => ts.length - (intOf i).toNat)
  case atStart => exact ⟨0, Nat.zero_le _, rfl, Below.refl _ _⟩
  case round =>
    obtain ⟨k, hk, rfl, hnx⟩ := hrel
    by_cases hlt : k < ts.length
    · obtain ⟨b, off, rfl, hb, hc⟩ := hChan_at hz.1 hlt
      obtain ⟨b', off', rfl, hb', hc'⟩ := hChan_at hz'.1 (k := k) (by rw [HLU.out]; exact hlt)
      have hck1 := (hnx.cell (p := ⟨b, off + k * 5, none⟩) hb).trans (hc k hlt).1
      have hck1' := (hnx.cell (p := ⟨b', off' + k * 5, none⟩) hb').trans (hc' k (by rw [HLU.out]; exact hlt)).1
      have hck2 := (hnx.cell (p := ⟨b, off + k * 5 + 1, none⟩) hb).trans (hc k hlt).2.1
      have hck2' := (hnx.cell (p := ⟨b', off' + k * 5 + 1, none⟩) hb').trans (hc' k (by rw [HLU.out]; exact hlt)).2.1
      have hck3 := (hnx.cell (p := ⟨b, off + k * 5 + 2, none⟩) hb).trans (hc k hlt).2.2.1
      have hck3' := (hnx.cell (p := ⟨b', off' + k * 5 + 2, none⟩) hb').trans (hc' k (by rw [HLU.out]; exact hlt)).2.2.1
      have hck4 := (hnx.cell (p := ⟨b, off + k * 5 + 3, none⟩) hb).trans (hc k hlt).2.2.2.1
      have hck4' := (hnx.cell (p := ⟨b', off' + k * 5 + 3, none⟩) hb').trans (hc' k (by rw [HLU.out]; exact hlt)).2.2.2.1
      have hck5 := (hnx.cell (p := ⟨b, off + k * 5 + 4, none⟩) hb).trans (hc k hlt).2.2.2.2
      have hck5' := (hnx.cell (p := ⟨b', off' + k * 5 + 4, none⟩) hb').trans (hc' k (by rw [HLU.out]; exact hlt)).2.2.2.2
      have hI := hz.2 k hlt
      have hI' := hz'.2 k (by rw [HLU.out]; exact hlt)
      have hlk := hle _ (el_mem hlt)
      have hvk : valChan (el ts k) = valChan (el us k) := by
        have := congrArg (fun l => el l k) HV.out
        simpa [el, hlt, HLU.out] using this
      obtain ⟨⟨kap, cl, ⟨bo, bc, b⟩, ⟨so, sc, s⟩, ⟨ro, rc, r⟩⟩, ex⟩ : ∃ v, v = el ts k := ⟨_, rfl⟩
      obtain ⟨⟨kap', cl', ⟨bo', bc', b'⟩, ⟨so', sc', s'⟩, ⟨ro', rc', r'⟩⟩, ex'⟩ : ∃ v, v = el us k := ⟨_, rfl⟩
      rw [← ex] at hck1 hck2 hck3 hck4 hck5 hI hlk hvk
      rw [← ex'] at hck1' hck2' hck3' hck4' hck5' hI' hvk
      clear ex ex' hc hc'
      simp only [valChan, Prod.mk.injEq] at hvk
      obtain ⟨rfl, rfl, rfl, rfl, rfl⟩ := hvk
      dsimp only at hck1 hck2 hck3 hck4 hck5 hck1' hck2' hck3' hck4' hck5' hlk
      have HI : Hid (InChan wr.heap.size wr bo b so s ro r) := InChan.up (InChan.below hI hnx) hnx.size
      have HI' : Hid (InChan wr.heap.size wr bo' b so' s ro' r) := InChan.up (InChan.below hI' hnx) hnx.size
      clear hI hI' hz hz'
      go_wp2
      go_region_with (go_at_call 45; refine (eqChan_same kap cl bo bc b so sc s ro rc r bo' bc' so' sc' ro' rc' _ hlk.1 hlk.2.1 hlk.2.2 (by exact HI.out) (by exact HI'.out)).mono ?_; rintro e w1 ⟨rfl, hb1⟩)
      all_goals go_wp2
      all_goals
        have hb2 : Below wr.drew.heap.size wr.drew w1 := by assumption
        have hnb : Below w.heap.size w w1 := hnx.drew.trans (hb2.mono hnx.size)
        go_roundw
        case rel => exact ⟨k + 1, by omega, by go_num, hnb⟩
        case measure => simp [intOf]; omega
    · obtain rfl : k = ts.length := by omega
      go_wp2
      go_ret
      exact ⟨rfl, hnx⟩
end Go.Proofs.Ytdjdbcfcccbhpaa
