
/- Rows of keepers: sizes, copies, comparisons. No conditions but those written. -/
import Derived.Test.YtbpacibfboldcaaDoorKp
namespace Go.Proofs.YtbpacibfboldcaaDoor
open Go.RowKit

/-- A Keeper in memory: its scalars, and of each row where it begins, its room, what it holds. -/
abbrev LKeeper := Int × Int × Int × Int × Int × (Option Addr × Nat × List (Bool)) × (Option Addr × Nat × List (Int)) × Bool
/-- What a Keeper says, wherever it lies. -/
abbrev PKeeper := Int × Int × Int × Int × Int × List (Bool) × List (Int) × Bool
def valKeeper (a : LKeeper) : PKeeper := (a.1, a.2.1, a.2.2.1, a.2.2.2.1, a.2.2.2.2.1, a.2.2.2.2.2.1.2.2, a.2.2.2.2.2.2.1.2.2, a.2.2.2.2.2.2.2)
def hKeeper : Kind LKeeper := ⟨27, 39, 8, fun t => [.int .i64 t.1, .int .i64 t.2.1, .int .i64 t.2.2.1, .int .i64 t.2.2.2.1, .int .i64 t.2.2.2.2.1, .slice t.2.2.2.2.2.1.1 t.2.2.2.2.2.1.2.2.length t.2.2.2.2.2.1.2.1, .slice t.2.2.2.2.2.2.1.1 t.2.2.2.2.2.2.1.2.2.length t.2.2.2.2.2.2.1.2.1, .bool (t.2.2.2.2.2.2.2)], fun _ => rfl, fun a v h => by simp at h; rcases h with rfl | rfl | rfl | rfl | rfl | rfl | rfl | rfl <;> rfl⟩
theorem Tryd.info27 : (Tryd.prog.info? 27).map (fun i => (i.zero, i.size, i.bytes)) = some (some (.agg #[.int .i64 0, .int .i64 0, .int .i64 0, .int .i64 0, .int .i64 0, .slice none 0 0, .slice none 0 0, .bool false]), 8, 96) := by kernel_rfl
theorem hKeeper_ok : hKeeper.Ok := kind_ok (K := hKeeper) Tryd.underlying39 Tryd.info27 rfl (by decide) (by decide)
theorem hKeeper_at {n : Nat} {W : World} {ao : Option Addr} {ts : List LKeeper} (h : hKeeper.In n W ao ts) {k : Nat} (hk : k < ts.length) :
    ∃ b off, ao = some ⟨b, off, none⟩ ∧ b < n ∧ ∀ j, j < ts.length → W.cell? ⟨b, off + j * 8, none⟩ = some (.int .i64 (el ts j).1) ∧ W.cell? ⟨b, off + j * 8 + 1, none⟩ = some (.int .i64 (el ts j).2.1) ∧ W.cell? ⟨b, off + j * 8 + 2, none⟩ = some (.int .i64 (el ts j).2.2.1) ∧ W.cell? ⟨b, off + j * 8 + 3, none⟩ = some (.int .i64 (el ts j).2.2.2.1) ∧ W.cell? ⟨b, off + j * 8 + 4, none⟩ = some (.int .i64 (el ts j).2.2.2.2.1) ∧ W.cell? ⟨b, off + j * 8 + 5, none⟩ = some (.slice (el ts j).2.2.2.2.2.1.1 (el ts j).2.2.2.2.2.1.2.2.length (el ts j).2.2.2.2.2.1.2.1) ∧ W.cell? ⟨b, off + j * 8 + 6, none⟩ = some (.slice (el ts j).2.2.2.2.2.2.1.1 (el ts j).2.2.2.2.2.2.1.2.2.length (el ts j).2.2.2.2.2.2.1.2.1) ∧ W.cell? ⟨b, off + j * 8 + 7, none⟩ = some (.bool ((el ts j).2.2.2.2.2.2.2)) := by
  obtain ⟨b, off, e, hb, hc⟩ := h.pos hk
  exact ⟨b, off, e, hb, fun j hj => ⟨hc j hj 0 (by decide), hc j hj 1 (by decide), hc j hj 2 (by decide), hc j hj 3 (by decide), hc j hj 4 (by decide), hc j hj 5 (by decide), hc j hj 6 (by decide), hc j hj 7 (by decide)⟩⟩
def dKeeper : Deep LKeeper := ⟨hKeeper, fun n W a => InKeeper n W (a.2.2.2.2.2.1).1 (a.2.2.2.2.2.1).2.2 (a.2.2.2.2.2.2.1).1 (a.2.2.2.2.2.2.1).2.2, fun lo hi W a => FrKeeper lo hi W (a.2.2.2.2.2.1).1 (a.2.2.2.2.2.1).2.1 (a.2.2.2.2.2.1).2.2 (a.2.2.2.2.2.2.1).1 (a.2.2.2.2.2.2.1).2.1 (a.2.2.2.2.2.2.1).2.2, fun a b => rowOwn (a.2.2.2.2.2.1).1 (a.2.2.2.2.2.1).2.2 b ∨ rowOwn (a.2.2.2.2.2.2.1).1 (a.2.2.2.2.2.2.1).2.2 b⟩
theorem InKeeper.up {n m : Nat} {W : World} {ro : Option Addr} {r : List (Bool)} {fo : Option Addr} {f : List (Int)} (h : InKeeper n W ro r fo f) (hm : n ≤ m) : InKeeper m W ro r fo f := ⟨h.1.up hm, h.2.up hm⟩
theorem dKeeper_ok : dKeeper.Ok where
  kok := hKeeper_ok
  below := fun h hb => InKeeper.below h hb
  up := fun h hm => InKeeper.up h hm
  fin := fun h => FrKeeper.in h
  keep := fun {lo hi W W' a} h hk => ⟨h.1.keepB fun b hb => hk b (.inl hb), h.2.keepB fun b hb => hk b (.inr hb)⟩
  wide := fun h h1 h2 => FrKeeper.wide h h1 h2
  lt := fun {lo hi W a b} h hb => by
    rcases hb with hb | hb
    · obtain ⟨h1, h2, h3, cur, h4⟩ := (h.1).lt hb
      exact ⟨h1, h2, h3, cur, _, h4, by decide⟩
    · obtain ⟨h1, h2, h3, cur, h4⟩ := (h.2).lt hb
      exact ⟨h1, h2, h3, cur, _, h4, by decide⟩
/-- How many there are behind a Keeper. -/
def sizeKeeper (a : LKeeper) : Nat := (a.2.2.2.2.2.1).2.2.length + (a.2.2.2.2.2.2.1).2.2.length
def totKeeper (ts : List LKeeper) : Nat := (ts.map sizeKeeper).sum
theorem totKeeper_take {ts : List LKeeper} {k : Nat} (h : k < ts.length) : totKeeper (ts.take (k + 1)) = totKeeper (ts.take k) + sizeKeeper (el ts k) := by rw [take_succ_el h]; simp [totKeeper]
theorem totKeeper_le (ts : List LKeeper) (k : Nat) : totKeeper (ts.take k) ≤ totKeeper ts := by
  induction ts generalizing k with
  | nil => simp [totKeeper]
  | cons x r ih =>
    cases k with
    | zero => simp [totKeeper]
    | succ k => simp only [List.take_succ_cons, totKeeper, List.map_cons, List.sum_cons]; have := ih k; simp only [totKeeper] at this; omega
theorem totKeeper_el {ts : List LKeeper} {k : Nat} (h : k < ts.length) : totKeeper (ts.take k) + sizeKeeper (el ts k) ≤ totKeeper ts := by rw [← totKeeper_take h]; exact totKeeper_le ts _
set_option maxHeartbeats 2000000 in
theorem szgKeeper_any (kd : Int) (mr : Int) (wi : Int) (up : Int) (ch : Int) (ov : Bool) (ro : Option Addr) (nr rc : Nat) (fo : Option Addr) (nf fc : Nat) (L : Int) (w : World) (h0 : 0 ≤ L) (h1 : L ≤ 1048576) (hlr : nr ≤ 9223372036854775807) (hlf : nf ≤ 9223372036854775807) :
    Calls Tryd.prog 5 #[.agg #[.int .i64 kd, .int .i64 mr, .int .i64 wi, .int .i64 up, .int .i64 ch, .slice ro nr rc, .slice fo nf fc, .bool ov], .int .i64 L] w fun e w' => (∃ z : Int, e = .returned (.int .i64 z) ∧ z ≤ 1048576 ∧ ((z < 0) ∨ (z = L - (nr + nf : Nat) ∧ 0 ≤ z))) ∧ Below w.heap.size w w' := by
  have hB0 := below1 w (.cells #[.int .i64 kd, .int .i64 mr, .int .i64 wi, .int .i64 up, .int .i64 ch, .slice ro nr rc, .slice fo nf fc, .bool ov] 25)
  go_enter Tryd.func5, Tryd.ntmps5
  go_wp2_with fail
  refine (szBoolS_any _ _ _ _ _ (by omega) (by omega) hlr).mono ?_
  rintro e w1 ⟨⟨z0, rfl, hr0, hs0⟩, rfl⟩
  by_cases g0 : z0 < 0
  · go_wp2
    go_ret
    exact ⟨⟨_, rfl, by omega, by omega⟩, hB0⟩
  go_wp2_with fail
  refine (szIntS_any _ _ _ _ _ (by omega) (by omega) hlf).mono ?_
  rintro e w1 ⟨⟨z1, rfl, hr1, hs1⟩, rfl⟩
  by_cases g1 : z1 < 0
  · go_wp2
    go_ret
    exact ⟨⟨_, rfl, by omega, by omega⟩, hB0⟩
  go_wp2
  go_ret
  exact ⟨⟨_, rfl, by omega, by omega⟩, hB0⟩
set_option maxHeartbeats 2000000 in
theorem szKeeperS_any (ao : Option Addr) (cap : Nat) (ts : List LKeeper) (L : Int) (w : World) (h0 : 0 ≤ L) (h1 : L ≤ 1048576) (hl : ts.length ≤ 9223372036854775807) (hle : ∀ a ∈ ts, (a.2.2.2.2.2.1).2.2.length ≤ 9223372036854775807 ∧ (a.2.2.2.2.2.2.1).2.2.length ≤ 9223372036854775807) (hz : hKeeper.In w.heap.size w ao ts) :
    Calls Tryd.prog 15 #[.slice ao ts.length cap, .int .i64 L] w fun e w' => (∃ r : Int, e = .returned (.int .i64 r) ∧ r ≤ 1048576 ∧ ((r < 0) ∨ (r = L - ts.length - totKeeper ts ∧ 0 ≤ r))) ∧ Below w.heap.size w w' := by
  by_cases hbig : L - (ts.length : Int) < 0
  · go_enter Tryd.func15, Tryd.ntmps15
    go_wp2
    go_ret
    exact ⟨⟨_, rfl, by omega, by omega⟩, Below.refl _ _⟩
  · have hb' : decide (L - (ts.length : Int) < 0) = false := by simpa using hbig
    go_enter Tryd.func15, Tryd.ntmps15
    go_wp2
    go_loopw [1, 5] (fun v i wr => ∃ (k : Nat), k ≤ ts.length ∧ i = .int .i64 k ∧ v = .int .i64 (L - ts.length - totKeeper (ts.take k)) ∧ (0 : Int) ≤ L - ts.length - totKeeper (ts.take k) ∧ Below w.heap.size w wr) (fun _ i _ => ts.length - (intOf i).toNat)
    case atStart => exact ⟨0, Nat.zero_le _, rfl, by simp [totKeeper], by simp [totKeeper]; omega, Below.refl _ _⟩
    case round =>
      obtain ⟨k, hk, rfl, rfl, hge, hnx⟩ := hrel
      by_cases hlt : k < ts.length
      · obtain ⟨b, off, rfl, hb, hc⟩ := hKeeper_at hz hlt
        have d1 := (hnx.cell (p := ⟨b, off + k * 8, none⟩) hb).trans (hc k hlt).1
        have d2 := (hnx.cell (p := ⟨b, off + k * 8 + 1, none⟩) hb).trans (hc k hlt).2.1
        have d3 := (hnx.cell (p := ⟨b, off + k * 8 + 2, none⟩) hb).trans (hc k hlt).2.2.1
        have d4 := (hnx.cell (p := ⟨b, off + k * 8 + 3, none⟩) hb).trans (hc k hlt).2.2.2.1
        have d5 := (hnx.cell (p := ⟨b, off + k * 8 + 4, none⟩) hb).trans (hc k hlt).2.2.2.2.1
        have d6 := (hnx.cell (p := ⟨b, off + k * 8 + 5, none⟩) hb).trans (hc k hlt).2.2.2.2.2.1
        have d7 := (hnx.cell (p := ⟨b, off + k * 8 + 6, none⟩) hb).trans (hc k hlt).2.2.2.2.2.2.1
        have d8 := (hnx.cell (p := ⟨b, off + k * 8 + 7, none⟩) hb).trans (hc k hlt).2.2.2.2.2.2.2
        have hlk := hle _ (el_mem hlt)
        have ht := totKeeper_take hlt
        unfold sizeKeeper at ht
        obtain ⟨⟨kd, mr, wi, up, ch, ⟨ro, rc, r⟩, ⟨fo, fc, f⟩, ov⟩, ex⟩ : ∃ v, v = el ts k := ⟨_, rfl⟩
        rw [← ex] at d1 d2 d3 d4 d5 d6 d7 d8 hlk ht
        clear ex hc
        dsimp only at d1 d2 d3 d4 d5 d6 d7 d8 hlk ht
        go_wp2_with fail
        refine (szgKeeper_any kd mr wi up ch ov ro r.length rc fo f.length fc (L - ts.length - totKeeper (ts.take k)) _ hge (by omega) hlk.1 hlk.2).mono ?_
        rintro e w1 ⟨⟨r, rfl, hr1, hr⟩, hb1⟩
        have hB1 := hnx.trans (hb1.mono hnx.size)
        clear hb1
        rcases hr with hr | ⟨rfl, hr⟩
        · have hr' : decide (r < 0) = true := by simpa using hr
          go_wp2
          go_ret
          exact ⟨⟨_, rfl, by omega, by omega⟩, hB1⟩
        · go_wp2
          go_roundw
          case rel => exact ⟨k + 1, by omega, by go_num, by rw [ht]; push_cast; congr 1; omega, by rw [ht]; push_cast; omega, hB1⟩
          case measure => simp [intOf]; omega
      · obtain rfl : k = ts.length := by omega
        rw [List.take_length] at hge ⊢
        go_wp2
        go_ret
        exact ⟨⟨_, rfl, by omega, by omega⟩, hnx⟩
set_option maxHeartbeats 8000000 in
theorem toKeeperS_any (ao : Option Addr) (cap : Nat) (ts : List LKeeper) (w : World) (hl : ts.length ≤ 1048576) (hle : ∀ a ∈ ts, (a.2.2.2.2.2.1).2.2.length ≤ 1048576 ∧ (a.2.2.2.2.2.2.1).2.2.length ≤ 1048576) (hz : DIn dKeeper w.heap.size w ao ts) :
    Calls Tryd.prog 17 #[.slice ao ts.length cap] w fun e w' => e = .returned (.slice (some ⟨w.heap.size, 0, none⟩) ts.length ts.length) ∧ (∃ lay, lay.map valKeeper = ts.map valKeeper ∧ DFr dKeeper w.heap.size w'.heap.size w' (some ⟨w.heap.size, 0, none⟩) ts.length lay) ∧ Below w.heap.size w w' := by
  obtain ⟨i0, hi, hz0, hz1, hz2⟩ := info_parts Tryd.info27
  go_enter Tryd.func17, Tryd.ntmps17
  go_wp2_with (at_make; refine wpList_make_full _ rfl _ _ 39 rfl w.heap.size 27 i0 (.agg #[.int .i64 0, .int .i64 0, .int .i64 0, .int .i64 0, .int .i64 0, .slice none 0 0, .slice none 0 0, .bool false]) 8 Tryd.underlying39 hi hz0 hz1 .i64 .i64 _ _ ts.length rfl rfl rfl rfl (by rw [hz2]; omega) (by unfold maxLen; omega) (Nat.le_refl _) ?_; intro w1 hown hgrow)
  have hB1 : Below w.heap.size w w1 := (Below.refl _ _).grown hgrow (Nat.le_refl _) (fun k e => by cases e)
  have hs1 : w.heap.size + 1 ≤ w1.heap.size := (owns_lt hown).2
  have HO := show Hid _ from hown
  clear hown hgrow
  go_loopw [4] (fun i wr => ∃ (k : Nat) (xs : List Value) (lay : List LKeeper), k ≤ ts.length ∧ i = .int .i64 k ∧ Hid (wr.ownsRow w.heap.size 27 8 (.slice (some ⟨w.heap.size, 0, none⟩) ts.length ts.length) ts.length xs ∧ ∀ j, j < k → xs[j * 8]? = some (.int .i64 (el lay j).1) ∧ xs[j * 8 + 1]? = some (.int .i64 (el lay j).2.1) ∧ xs[j * 8 + 2]? = some (.int .i64 (el lay j).2.2.1) ∧ xs[j * 8 + 3]? = some (.int .i64 (el lay j).2.2.2.1) ∧ xs[j * 8 + 4]? = some (.int .i64 (el lay j).2.2.2.2.1) ∧ xs[j * 8 + 5]? = some (.slice (el lay j).2.2.2.2.2.1.1 (el lay j).2.2.2.2.2.1.2.2.length (el lay j).2.2.2.2.2.1.2.1) ∧ xs[j * 8 + 6]? = some (.slice (el lay j).2.2.2.2.2.2.1.1 (el lay j).2.2.2.2.2.2.1.2.2.length (el lay j).2.2.2.2.2.2.1.2.1) ∧ xs[j * 8 + 7]? = some (.bool ((el lay j).2.2.2.2.2.2.2))) ∧ Below w.heap.size w wr ∧ Hid (LaidD dKeeper (w.heap.size + 1) wr lay k) ∧ Hid (lay.map valKeeper = (ts.take k).map valKeeper) ∧ w.heap.size + 1 ≤ wr.heap.size) (fun i _ => ts.length - (intOf i).toNat)
  case atStart => exact ⟨0, _, [], Nat.zero_le _, rfl, ⟨HO.out, fun j hj => by omega⟩, hB1, LaidD.zero _ _, rfl, hs1⟩
  case round =>
    obtain ⟨k, xs, lay, hk, rfl, ho, hnx, hL, hV, hsr⟩ := hrel
    by_cases hlt : k < ts.length
    · obtain ⟨b, off, rfl, hb, hc⟩ := hKeeper_at hz.1 hlt
      have d1 := (hnx.cell (p := ⟨b, off + k * 8, none⟩) hb).trans (hc k hlt).1
      have d2 := (hnx.cell (p := ⟨b, off + k * 8 + 1, none⟩) hb).trans (hc k hlt).2.1
      have d3 := (hnx.cell (p := ⟨b, off + k * 8 + 2, none⟩) hb).trans (hc k hlt).2.2.1
      have d4 := (hnx.cell (p := ⟨b, off + k * 8 + 3, none⟩) hb).trans (hc k hlt).2.2.2.1
      have d5 := (hnx.cell (p := ⟨b, off + k * 8 + 4, none⟩) hb).trans (hc k hlt).2.2.2.2.1
      have d6 := (hnx.cell (p := ⟨b, off + k * 8 + 5, none⟩) hb).trans (hc k hlt).2.2.2.2.2.1
      have d7 := (hnx.cell (p := ⟨b, off + k * 8 + 6, none⟩) hb).trans (hc k hlt).2.2.2.2.2.2.1
      have d8 := (hnx.cell (p := ⟨b, off + k * 8 + 7, none⟩) hb).trans (hc k hlt).2.2.2.2.2.2.2
      have hI := hz.2 k hlt
      have hlk := hle _ (el_mem hlt)
      have HT := hid (take_succ_el hlt)
      obtain ⟨⟨kd, mr, wi, up, ch, ⟨ro, rc, r⟩, ⟨fo, fc, f⟩, ov⟩, ex⟩ : ∃ v, v = el ts k := ⟨_, rfl⟩
      rw [← ex] at d1 d2 d3 d4 d5 d6 d7 d8 hI hlk HT
      clear ex hc
      dsimp only at d1 d2 d3 d4 d5 d6 d7 d8 hlk
      have HI : Hid (InKeeper wr.heap.size wr ro r fo f) := InKeeper.up (InKeeper.below hI hnx) hnx.size
      clear hI
      go_wp2_with fail
      refine (toKeeper_any kd mr wi up ch ov ro rc r fo fc f wr hlk.1 hlk.2 HI.out).mono ?_
      rintro e w2 ⟨gr, gf, rfl, hF2, hb2⟩
      have hxl : k * 8 + 7 < xs.length := by rw [ho.out.1.1]; omega
      have ho2 := ownsRow_below ho.out.1 hb2
      have hnb : Below w.heap.size w w2 := hnx.trans (hb2.mono hnx.size)
      have HO2 := hid ho2
      have hst1 : w2.cell? ⟨w.heap.size, k * 8, none⟩ = some xs[k * 8] := (ho2.cellAt (k * 8) (by omega)).trans (by simp)
      have hfr1 : w2.frozen? ⟨w.heap.size, k * 8, none⟩ = false := ho2.frozenAt (k * 8)
      have hst2 : w2.cell? ⟨w.heap.size, k * 8 + 1, none⟩ = some xs[k * 8 + 1] := (ho2.cellAt (k * 8 + 1) (by omega)).trans (by simp)
      have hfr2 : w2.frozen? ⟨w.heap.size, k * 8 + 1, none⟩ = false := ho2.frozenAt (k * 8 + 1)
      have hst3 : w2.cell? ⟨w.heap.size, k * 8 + 2, none⟩ = some xs[k * 8 + 2] := (ho2.cellAt (k * 8 + 2) (by omega)).trans (by simp)
      have hfr3 : w2.frozen? ⟨w.heap.size, k * 8 + 2, none⟩ = false := ho2.frozenAt (k * 8 + 2)
      have hst4 : w2.cell? ⟨w.heap.size, k * 8 + 3, none⟩ = some xs[k * 8 + 3] := (ho2.cellAt (k * 8 + 3) (by omega)).trans (by simp)
      have hfr4 : w2.frozen? ⟨w.heap.size, k * 8 + 3, none⟩ = false := ho2.frozenAt (k * 8 + 3)
      have hst5 : w2.cell? ⟨w.heap.size, k * 8 + 4, none⟩ = some xs[k * 8 + 4] := (ho2.cellAt (k * 8 + 4) (by omega)).trans (by simp)
      have hfr5 : w2.frozen? ⟨w.heap.size, k * 8 + 4, none⟩ = false := ho2.frozenAt (k * 8 + 4)
      have hst6 : w2.cell? ⟨w.heap.size, k * 8 + 5, none⟩ = some xs[k * 8 + 5] := (ho2.cellAt (k * 8 + 5) (by omega)).trans (by simp)
      have hfr6 : w2.frozen? ⟨w.heap.size, k * 8 + 5, none⟩ = false := ho2.frozenAt (k * 8 + 5)
      have hst7 : w2.cell? ⟨w.heap.size, k * 8 + 6, none⟩ = some xs[k * 8 + 6] := (ho2.cellAt (k * 8 + 6) (by omega)).trans (by simp)
      have hfr7 : w2.frozen? ⟨w.heap.size, k * 8 + 6, none⟩ = false := ho2.frozenAt (k * 8 + 6)
      have hst8 : w2.cell? ⟨w.heap.size, k * 8 + 7, none⟩ = some xs[k * 8 + 7] := (ho2.cellAt (k * 8 + 7) (by omega)).trans (by simp)
      have hfr8 : w2.frozen? ⟨w.heap.size, k * 8 + 7, none⟩ = false := ho2.frozenAt (k * 8 + 7)
      have hL2 : Hid (LaidD dKeeper (w.heap.size + 1) w2 (lay ++ [((kd, mr, wi, up, ch, (some ⟨gr, 0, none⟩, r.length, r), (some ⟨gf, 0, none⟩, f.length, f), ov) : LKeeper)]) (k + 1)) := hL.out.add dKeeper_ok hb2 hsr hF2
      have hV2 : Hid ((lay ++ [((kd, mr, wi, up, ch, (some ⟨gr, 0, none⟩, r.length, r), (some ⟨gf, 0, none⟩, f.length, f), ov) : LKeeper)]).map valKeeper = (ts.take (k + 1)).map valKeeper) := by rw [Hid, HT.out, List.map_append, List.map_append, hV.out]; rfl
      have hs2 : w.heap.size + 1 ≤ w2.heap.size := Nat.le_trans hsr hb2.size
      have HG := hid hL.out.len
      obtain ⟨W3, hW3⟩ : ∃ W3, W3 = ((((((((w2.setCell ⟨w.heap.size, k * 8, none⟩ (.int .i64 kd)).setCell ⟨w.heap.size, k * 8 + 1, none⟩ (.int .i64 mr)).setCell ⟨w.heap.size, k * 8 + 2, none⟩ (.int .i64 wi)).setCell ⟨w.heap.size, k * 8 + 3, none⟩ (.int .i64 up)).setCell ⟨w.heap.size, k * 8 + 4, none⟩ (.int .i64 ch)).setCell ⟨w.heap.size, k * 8 + 5, none⟩ (.slice (some ⟨gr, 0, none⟩) r.length r.length)).setCell ⟨w.heap.size, k * 8 + 6, none⟩ (.slice (some ⟨gf, 0, none⟩) f.length f.length)).setCell ⟨w.heap.size, k * 8 + 7, none⟩ (.bool ov)) := ⟨_, rfl⟩
      have hL3 : Hid (LaidD dKeeper (w.heap.size + 1) W3 (lay ++ [((kd, mr, wi, up, ch, (some ⟨gr, 0, none⟩, r.length, r), (some ⟨gf, 0, none⟩, f.length, f), ov) : LKeeper)]) (k + 1)) := by rw [Hid, hW3]; exact ((((((((hL2.out.set dKeeper_ok (a := ⟨w.heap.size, k * 8, none⟩) (by dsimp only; omega) _).set dKeeper_ok (a := ⟨w.heap.size, k * 8 + 1, none⟩) (by dsimp only; omega) _).set dKeeper_ok (a := ⟨w.heap.size, k * 8 + 2, none⟩) (by dsimp only; omega) _).set dKeeper_ok (a := ⟨w.heap.size, k * 8 + 3, none⟩) (by dsimp only; omega) _).set dKeeper_ok (a := ⟨w.heap.size, k * 8 + 4, none⟩) (by dsimp only; omega) _).set dKeeper_ok (a := ⟨w.heap.size, k * 8 + 5, none⟩) (by dsimp only; omega) _).set dKeeper_ok (a := ⟨w.heap.size, k * 8 + 6, none⟩) (by dsimp only; omega) _).set dKeeper_ok (a := ⟨w.heap.size, k * 8 + 7, none⟩) (by dsimp only; omega) _)
      have HW3 := hid hW3
      clear ho2 hF2 hb2 hL hL2 hW3
      go_wp2
      rw [← HW3.out]
      go_roundw
      case rel => exact ⟨k + 1, ((((((((xs.set (k * 8) (.int .i64 kd)).set (k * 8 + 1) (.int .i64 mr)).set (k * 8 + 2) (.int .i64 wi)).set (k * 8 + 3) (.int .i64 up)).set (k * 8 + 4) (.int .i64 ch)).set (k * 8 + 5) (.slice (some ⟨gr, 0, none⟩) r.length r.length)).set (k * 8 + 6) (.slice (some ⟨gf, 0, none⟩) f.length f.length)).set (k * 8 + 7) (.bool ov)), _, by omega, by go_num, ⟨by rw [HW3.out]; exact ((((((((World.ownsRow.stored HO2.out (k * 8) _).1.stored (k * 8 + 1) _).1.stored (k * 8 + 2) _).1.stored (k * 8 + 3) _).1.stored (k * 8 + 4) _).1.stored (k * 8 + 5) _).1.stored (k * 8 + 6) _).1.stored (k * 8 + 7) _).1, fun j hj => by
          rcases Nat.lt_succ_iff_lt_or_eq.1 hj with h | rfl
          · refine ⟨?_, ?_, ?_, ?_, ?_, ?_, ?_, ?_⟩
            · rw [set_far (by omega), set_far (by omega), set_far (by omega), set_far (by omega), set_far (by omega), set_far (by omega), set_far (by omega), set_far (by omega), el_snoc_left HG.out h]; exact (ho.out.2 j h).1
            · rw [set_far (by omega), set_far (by omega), set_far (by omega), set_far (by omega), set_far (by omega), set_far (by omega), set_far (by omega), set_far (by omega), el_snoc_left HG.out h]; exact (ho.out.2 j h).2.1
            · rw [set_far (by omega), set_far (by omega), set_far (by omega), set_far (by omega), set_far (by omega), set_far (by omega), set_far (by omega), set_far (by omega), el_snoc_left HG.out h]; exact (ho.out.2 j h).2.2.1
            · rw [set_far (by omega), set_far (by omega), set_far (by omega), set_far (by omega), set_far (by omega), set_far (by omega), set_far (by omega), set_far (by omega), el_snoc_left HG.out h]; exact (ho.out.2 j h).2.2.2.1
            · rw [set_far (by omega), set_far (by omega), set_far (by omega), set_far (by omega), set_far (by omega), set_far (by omega), set_far (by omega), set_far (by omega), el_snoc_left HG.out h]; exact (ho.out.2 j h).2.2.2.2.1
            · rw [set_far (by omega), set_far (by omega), set_far (by omega), set_far (by omega), set_far (by omega), set_far (by omega), set_far (by omega), set_far (by omega), el_snoc_left HG.out h]; exact (ho.out.2 j h).2.2.2.2.2.1
            · rw [set_far (by omega), set_far (by omega), set_far (by omega), set_far (by omega), set_far (by omega), set_far (by omega), set_far (by omega), set_far (by omega), el_snoc_left HG.out h]; exact (ho.out.2 j h).2.2.2.2.2.2.1
            · rw [set_far (by omega), set_far (by omega), set_far (by omega), set_far (by omega), set_far (by omega), set_far (by omega), set_far (by omega), set_far (by omega), el_snoc_left HG.out h]; exact (ho.out.2 j h).2.2.2.2.2.2.2
          · refine ⟨?_, ?_, ?_, ?_, ?_, ?_, ?_, ?_⟩
            · rw [set_far (by omega), set_far (by omega), set_far (by omega), set_far (by omega), set_far (by omega), set_far (by omega), set_far (by omega), set_at (by first | omega | (simp only [List.length_set]; omega)), el_snoc_right HG.out]
            · rw [set_far (by omega), set_far (by omega), set_far (by omega), set_far (by omega), set_far (by omega), set_far (by omega), set_at (by first | omega | (simp only [List.length_set]; omega)), el_snoc_right HG.out]
            · rw [set_far (by omega), set_far (by omega), set_far (by omega), set_far (by omega), set_far (by omega), set_at (by first | omega | (simp only [List.length_set]; omega)), el_snoc_right HG.out]
            · rw [set_far (by omega), set_far (by omega), set_far (by omega), set_far (by omega), set_at (by first | omega | (simp only [List.length_set]; omega)), el_snoc_right HG.out]
            · rw [set_far (by omega), set_far (by omega), set_far (by omega), set_at (by first | omega | (simp only [List.length_set]; omega)), el_snoc_right HG.out]
            · rw [set_far (by omega), set_far (by omega), set_at (by first | omega | (simp only [List.length_set]; omega)), el_snoc_right HG.out]
            · rw [set_far (by omega), set_at (by first | omega | (simp only [List.length_set]; omega)), el_snoc_right HG.out]
            · rw [set_at (by first | omega | (simp only [List.length_set]; omega)), el_snoc_right HG.out]⟩, by rw [HW3.out]; exact ((((((((hnb.setCell (p := ⟨w.heap.size, k * 8, none⟩) (Nat.le_refl _) _).setCell (p := ⟨w.heap.size, k * 8 + 1, none⟩) (Nat.le_refl _) _).setCell (p := ⟨w.heap.size, k * 8 + 2, none⟩) (Nat.le_refl _) _).setCell (p := ⟨w.heap.size, k * 8 + 3, none⟩) (Nat.le_refl _) _).setCell (p := ⟨w.heap.size, k * 8 + 4, none⟩) (Nat.le_refl _) _).setCell (p := ⟨w.heap.size, k * 8 + 5, none⟩) (Nat.le_refl _) _).setCell (p := ⟨w.heap.size, k * 8 + 6, none⟩) (Nat.le_refl _) _).setCell (p := ⟨w.heap.size, k * 8 + 7, none⟩) (Nat.le_refl _) _), hL3, hV2, by rw [HW3.out]; simpa [World.setCell] using hs2⟩
      case measure => simp [intOf]; omega
    · obtain rfl : k = ts.length := by omega
      have hgl := hL.out.len
      have hxs : xs = hKeeper.flat lay := by
        refine hKeeper.flat_of xs lay (by rw [ho.out.1.1, hgl]; rfl) fun j hj i hi => ?_
        have hi' : i < 8 := hi
        rw [hgl] at hj
        rcases (show i = 0 ∨ i = 1 ∨ i = 2 ∨ i = 3 ∨ i = 4 ∨ i = 5 ∨ i = 6 ∨ i = 7 from by omega) with rfl | rfl | rfl | rfl | rfl | rfl | rfl | rfl
        · exact (ho.out.2 j hj).1
        · exact (ho.out.2 j hj).2.1
        · exact (ho.out.2 j hj).2.2.1
        · exact (ho.out.2 j hj).2.2.2.1
        · exact (ho.out.2 j hj).2.2.2.2.1
        · exact (ho.out.2 j hj).2.2.2.2.2.1
        · exact (ho.out.2 j hj).2.2.2.2.2.2.1
        · exact (ho.out.2 j hj).2.2.2.2.2.2.2
      subst hxs
      have HGL := hid hgl
      rw [List.take_length] at hV
      clear hgl
      go_wp2
      go_ret
      refine ⟨rfl, ⟨lay, hV.out, hL.out.fr dKeeper_ok (by omega) (.inr ⟨_, rfl, (owns_lt ho.out.1).2, ?_⟩)⟩, hnx⟩
      rw [HGL.out]; exact ho.out.1
set_option maxHeartbeats 4000000 in
theorem eqKeeperS_same (ao bo : Option Addr) (cap cap' : Nat) (ts us : List LKeeper) (w : World) (hl : ts.length ≤ 1048576) (hle : ∀ a ∈ ts, (a.2.2.2.2.2.1).2.2.length ≤ 1048576 ∧ (a.2.2.2.2.2.2.1).2.2.length ≤ 1048576) (hv : ts.map valKeeper = us.map valKeeper) (hz : DIn dKeeper w.heap.size w ao ts) (hz' : DIn dKeeper w.heap.size w bo us) :
    Calls Tryd.prog 19 #[.slice ao ts.length cap, .slice bo us.length cap'] w fun e w' => e = .returned (.bool true) ∧ Below w.heap.size w w' := by
  have hlu : us.length = ts.length := by have := congrArg List.length hv; simpa using this.symm
  rw [hlu]
  have HLU := hid hlu
  have HV := hid hv
  clear hlu hv
  have hne : ((ts.length : Int) != (ts.length : Int)) = false := by simp
  go_enter Tryd.func19, Tryd.ntmps19
  go_wp2
  go_loopw [5] (fun i wr => ∃ k : Nat, k ≤ ts.length ∧ i = .int .i64 k ∧ Below w.heap.size w wr) (fun i _ => ts.length - (intOf i).toNat)
  case atStart => exact ⟨0, Nat.zero_le _, rfl, Below.refl _ _⟩
  case round =>
    obtain ⟨k, hk, rfl, hnx⟩ := hrel
    by_cases hlt : k < ts.length
    · obtain ⟨b, off, rfl, hb, hc⟩ := hKeeper_at hz.1 hlt
      obtain ⟨b', off', rfl, hb', hc'⟩ := hKeeper_at hz'.1 (k := k) (by rw [HLU.out]; exact hlt)
      have hck1 := (hnx.cell (p := ⟨b, off + k * 8, none⟩) hb).trans (hc k hlt).1
      have hck1' := (hnx.cell (p := ⟨b', off' + k * 8, none⟩) hb').trans (hc' k (by rw [HLU.out]; exact hlt)).1
      have hck2 := (hnx.cell (p := ⟨b, off + k * 8 + 1, none⟩) hb).trans (hc k hlt).2.1
      have hck2' := (hnx.cell (p := ⟨b', off' + k * 8 + 1, none⟩) hb').trans (hc' k (by rw [HLU.out]; exact hlt)).2.1
      have hck3 := (hnx.cell (p := ⟨b, off + k * 8 + 2, none⟩) hb).trans (hc k hlt).2.2.1
      have hck3' := (hnx.cell (p := ⟨b', off' + k * 8 + 2, none⟩) hb').trans (hc' k (by rw [HLU.out]; exact hlt)).2.2.1
      have hck4 := (hnx.cell (p := ⟨b, off + k * 8 + 3, none⟩) hb).trans (hc k hlt).2.2.2.1
      have hck4' := (hnx.cell (p := ⟨b', off' + k * 8 + 3, none⟩) hb').trans (hc' k (by rw [HLU.out]; exact hlt)).2.2.2.1
      have hck5 := (hnx.cell (p := ⟨b, off + k * 8 + 4, none⟩) hb).trans (hc k hlt).2.2.2.2.1
      have hck5' := (hnx.cell (p := ⟨b', off' + k * 8 + 4, none⟩) hb').trans (hc' k (by rw [HLU.out]; exact hlt)).2.2.2.2.1
      have hck6 := (hnx.cell (p := ⟨b, off + k * 8 + 5, none⟩) hb).trans (hc k hlt).2.2.2.2.2.1
      have hck6' := (hnx.cell (p := ⟨b', off' + k * 8 + 5, none⟩) hb').trans (hc' k (by rw [HLU.out]; exact hlt)).2.2.2.2.2.1
      have hck7 := (hnx.cell (p := ⟨b, off + k * 8 + 6, none⟩) hb).trans (hc k hlt).2.2.2.2.2.2.1
      have hck7' := (hnx.cell (p := ⟨b', off' + k * 8 + 6, none⟩) hb').trans (hc' k (by rw [HLU.out]; exact hlt)).2.2.2.2.2.2.1
      have hck8 := (hnx.cell (p := ⟨b, off + k * 8 + 7, none⟩) hb).trans (hc k hlt).2.2.2.2.2.2.2
      have hck8' := (hnx.cell (p := ⟨b', off' + k * 8 + 7, none⟩) hb').trans (hc' k (by rw [HLU.out]; exact hlt)).2.2.2.2.2.2.2
      have hI := hz.2 k hlt
      have hI' := hz'.2 k (by rw [HLU.out]; exact hlt)
      have hlk := hle _ (el_mem hlt)
      have hvk : valKeeper (el ts k) = valKeeper (el us k) := by
        have := congrArg (fun l => el l k) HV.out
        simpa [el, hlt, HLU.out] using this
      obtain ⟨⟨kd, mr, wi, up, ch, ⟨ro, rc, r⟩, ⟨fo, fc, f⟩, ov⟩, ex⟩ : ∃ v, v = el ts k := ⟨_, rfl⟩
      obtain ⟨⟨kd', mr', wi', up', ch', ⟨ro', rc', r'⟩, ⟨fo', fc', f'⟩, ov'⟩, ex'⟩ : ∃ v, v = el us k := ⟨_, rfl⟩
      rw [← ex] at hck1 hck2 hck3 hck4 hck5 hck6 hck7 hck8 hI hlk hvk
      rw [← ex'] at hck1' hck2' hck3' hck4' hck5' hck6' hck7' hck8' hI' hvk
      clear ex ex' hc hc'
      simp only [valKeeper, Prod.mk.injEq] at hvk
      obtain ⟨rfl, rfl, rfl, rfl, rfl, rfl, rfl, rfl⟩ := hvk
      dsimp only at hck1 hck2 hck3 hck4 hck5 hck6 hck7 hck8 hck1' hck2' hck3' hck4' hck5' hck6' hck7' hck8' hlk
      have HI : Hid (InKeeper wr.heap.size wr ro r fo f) := InKeeper.up (InKeeper.below hI hnx) hnx.size
      have HI' : Hid (InKeeper wr.heap.size wr ro' r fo' f) := InKeeper.up (InKeeper.below hI' hnx) hnx.size
      clear hI hI' hz hz'
      go_wp2
      go_region_with (go_at_call 9; refine (eqKeeper_same kd mr wi up ch ov ro rc r fo fc f ro' rc' fo' fc' _ hlk.1 hlk.2 (by exact HI.out) (by exact HI'.out)).mono ?_; rintro e w1 ⟨rfl, hb1⟩)
      all_goals go_wp2
      all_goals
        have hb2 : Below wr.drew.heap.size wr.drew w1 := by assumption
        have hnb : Below w.heap.size w w1 := hnx.drew.trans (hb2.mono hnx.size)
        go_roundw
        case rel => exact ⟨k + 1, by omega, by go_num, hnb⟩
        case measure => simp [intOf]; omega
    · obtain rfl : k = ts.length := by omega
      go_wp2
      go_ret
      exact ⟨rfl, hnx⟩
end Go.Proofs.YtbpacibfboldcaaDoor
