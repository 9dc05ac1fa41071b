
/- Subs and rows of them: sizes, copies, comparisons. No conditions but those written. -/
import Derived.Test.YtdghlgpkcpndjaaIa
import Derived.Test.YtdghlgpkcpndjaaBx
import Derived.Test.YtdghlgpkcpndjaaDp
namespace Go.Proofs.Ytdghlgpkcpndjaa
open Go.RowKit

theorem set_far {xs : List Value} {p q : Nat} {u : Value} (h : p ≠ q) : (xs.set p u)[q]? = xs[q]? := by rw [List.getElem?_set, if_neg h]
theorem set_at {xs : List Value} {p : Nat} {u : Value} (h : p < xs.length) : (xs.set p u)[p]? = some u := by rw [List.getElem?_set, if_pos rfl, if_pos h]
theorem Kind.Fresh.setOff {α : Type} {K : Kind α} {lo hi : Nat} {W : World} {qo : Option Addr} {qc : Nat} {q : List α} (h : K.Fresh lo hi W qo qc q) {a : Addr} (ha : a.block < lo ∨ hi ≤ a.block) (u : Value) : K.Fresh lo hi (W.setCell a u) qo qc q := h.keep fun k h1 h2 _ => Below.heap_setCell W a u k (by omega)
theorem Kind.Fresh.notNew {α : Type} {K : Kind α} {lo hi : Nat} {W : World} {qo : Option Addr} {qc : Nat} {q : List α} (h : K.Fresh lo hi W qo qc q) {g : Nat} (e : eff qo q.length = some ⟨g, 0, none⟩) : W.heap.size ≠ g := by
  rcases h with rfl | ⟨g2, e2, hg, ho⟩
  · simp [eff] at e
  · unfold eff at e
    split at e
    · cases e
    · rw [e2] at e; simp at e; subst e
      have := (owns_lt ho).2; omega
/-- What lies behind a Sub. -/
def InSub (n : Nat) (W : World) (qo : Option Addr) (q : List (Int)) : Prop := kI.In n W qo q
/-- What lies behind a Sub, in memory of its own. -/
def FrSub (lo hi : Nat) (W : World) (qo : Option Addr) (qc : Nat) (q : List (Int)) : Prop := kI.Fresh lo hi W qo qc q
theorem InSub.later {W W' : World} {qo : Option Addr} {q : List (Int)} (h : InSub W.heap.size W qo q) (hb : Below W.heap.size W W') : InSub W'.heap.size W' qo q := Kind.In.later h hb
theorem InSub.below {n : Nat} {W W' : World} {qo : Option Addr} {q : List (Int)} (h : InSub n W qo q) (hb : Below n W W') : InSub n W' qo q := Kind.In.below h hb
theorem FrSub.in {lo hi : Nat} {W : World} {qo : Option Addr} {qc : Nat} {q : List (Int)} (h : FrSub lo hi W qo qc q) : InSub W.heap.size W qo q := Kind.Fresh.in h
theorem FrSub.later {lo hi : Nat} {W W' : World} {qo : Option Addr} {qc : Nat} {q : List (Int)} (h : FrSub lo hi W qo qc q) (hb : Below W.heap.size W W') : FrSub lo hi W' qo qc q := Kind.Fresh.later h hb
theorem FrSub.keep {lo hi : Nat} {W W' : World} {qo : Option Addr} {qc : Nat} {q : List (Int)} (h : FrSub lo hi W qo qc q) (hk : ∀ k, lo ≤ k → k < hi → k < W.heap.size → W'.heap[k]? = W.heap[k]?) : FrSub lo hi W' qo qc q := Kind.Fresh.keep h hk
theorem FrSub.wide {lo hi lo' hi' : Nat} {W : World} {qo : Option Addr} {qc : Nat} {q : List (Int)} (h : FrSub lo hi W qo qc q) (h1 : lo' ≤ lo) (h2 : hi ≤ hi') : FrSub lo' hi' W qo qc q := Kind.Fresh.wide h h1 h2
theorem FrSub.low {lo hi : Nat} {W : World} {qo : Option Addr} {qc : Nat} {q : List (Int)} (h : FrSub lo hi W qo qc q) {hi' : Nat} (h2 : W.heap.size ≤ hi') : FrSub lo hi' W qo qc q := Kind.Fresh.low h h2
theorem FrSub.setBelow {lo hi : Nat} {W : World} {qo : Option Addr} {qc : Nat} {q : List (Int)} (h : FrSub lo hi W qo qc q) {a : Addr} (ha : a.block < lo) (u : Value) : FrSub lo hi (W.setCell a u) qo qc q := Kind.Fresh.setBelow h ha u
theorem FrSub.setAbove {lo hi : Nat} {W : World} {qo : Option Addr} {qc : Nat} {q : List (Int)} (h : FrSub lo hi W qo qc q) {a : Addr} (ha : hi ≤ a.block) (u : Value) : FrSub lo hi (W.setCell a u) qo qc q := Kind.Fresh.setAbove h ha u
theorem FrSub.setOff {lo hi : Nat} {W : World} {qo : Option Addr} {qc : Nat} {q : List (Int)} (h : FrSub lo hi W qo qc q) {a : Addr} (ha : a.block < lo ∨ hi ≤ a.block) (u : Value) : FrSub lo hi (W.setCell a u) qo qc q := Kind.Fresh.setOff h ha u
theorem FrSub.between' {lo hi lo' hi' : Nat} {W W' : World} {qo : Option Addr} {qc : Nat} {q : List (Int)} (h : FrSub lo hi W qo qc q) (hb : Between lo' hi' W W') (hd : hi ≤ lo' ∨ hi' ≤ lo) : FrSub lo hi W' qo qc q := Kind.Fresh.between' h hb hd
set_option maxRecDepth 10000 in
set_option maxHeartbeats 4000000 in
theorem toSub_any (nd : Int) (kap : Int) (dr : Bool) (dp : Int) (qo : Option Addr) (qc : Nat) (q : List (Int)) (w : World) (hlq : q.length ≤ 1048576) (hz : InSub w.heap.size w qo q) :
    Calls Try.prog 59 #[.agg #[.int .i64 nd, .int .i64 kap, .bool dr, .int .i64 dp, .slice qo q.length qc]] w fun e w' => ∃ gq, e = .returned (.agg #[.int .i64 nd, .int .i64 kap, .bool dr, .int .i64 dp, .slice (some ⟨gq, 0, none⟩) q.length q.length]) ∧ FrSub w.heap.size w'.heap.size w' (some ⟨gq, 0, none⟩) q.length q ∧ Below w.heap.size w w' := by
  go_enter Try.func59, Try.ntmps59
  go_wp2_with fail
  obtain ⟨V0, hV0⟩ : ∃ V0, V0 = (((w.alloc (.cells #[.int .i64 nd, .int .i64 kap, .bool dr, .int .i64 dp, .slice qo q.length qc] 87)).alloc (.cells #[.int .i64 0, .int .i64 0, .bool false, .int .i64 0, .slice none 0 0] 36)).alloc (.cells #[.int .i64 nd, .int .i64 kap, .bool dr, .int .i64 dp, .slice none 0 0] 36)) := ⟨_, rfl⟩
  rw [← hV0]
  have hs0 : V0.heap.size = w.heap.size + 1 + 1 + 1 := by rw [hV0]; simp
  have hB0 : Below w.heap.size w V0 := by rw [hV0]; exact below3 _ _ _ _
  have A0 : Hid (Bx V0 (w.heap.size) [.int .i64 nd, .int .i64 kap, .bool dr, .int .i64 dp, .slice qo q.length qc]) := by rw [hV0]; exact ((Bx.new [.int .i64 nd, .int .i64 kap, .bool dr, .int .i64 dp, .slice qo q.length qc] _ rfl).alloc _).alloc _
  have R0 : Hid (Bx V0 (w.heap.size + 1) [.int .i64 0, .int .i64 0, .bool false, .int .i64 0, .slice none 0 0]) := by rw [hV0]; exact (Bx.new [.int .i64 0, .int .i64 0, .bool false, .int .i64 0, .slice none 0 0] _ (by simp)).alloc _
  have O0 : Hid (Bx V0 (w.heap.size + 1 + 1) [.int .i64 nd, .int .i64 kap, .bool dr, .int .i64 dp, .slice none 0 0]) := by rw [hV0]; exact Bx.new [.int .i64 nd, .int .i64 kap, .bool dr, .int .i64 dp, .slice none 0 0] _ (by simp)
  clear hV0
  have HS0 : Hid (V0.heap.size = w.heap.size + 1 + 1 + 1) := hs0
  clear hs0
  refine (toIntS_any qo qc q _ hlq (hz.later hB0)).mono ?_
  rintro e w1 ⟨rfl, hT0, hb0⟩
  obtain ⟨gq, hgq⟩ : ∃ g, g = V0.heap.size := ⟨_, rfl⟩
  rw [← hgq] at hT0 ⊢
  have HG0 : Hid (gq = V0.heap.size) := hgq
  clear hgq
  have hBw0 := hB0.trans (hb0.mono hB0.size)
  have Aw0 := hid (A0.out.later hb0)
  have Rw0 := hid (R0.out.later hb0)
  have Ow0 := hid (O0.out.later hb0)
  have Fy0 : Hid (kI.Fresh gq w1.heap.size w1 (some ⟨gq, 0, none⟩) q.length q) := hT0
  have HZ0 : Hid (V0.heap.size ≤ w1.heap.size) := hb0.size
  clear hT0 hb0 A0 R0 O0 hB0
  have a0 := Aw0.out.c 0 rfl
  have o0 := Ow0.out.c 0 rfl
  have of0 := Ow0.out.f 0 rfl
  have a1 := Aw0.out.c 1 rfl
  have o1 := Ow0.out.c 1 rfl
  have of1 := Ow0.out.f 1 rfl
  have a2 := Aw0.out.c 2 rfl
  have o2 := Ow0.out.c 2 rfl
  have of2 := Ow0.out.f 2 rfl
  have a3 := Aw0.out.c 3 rfl
  have o3 := Ow0.out.c 3 rfl
  have of3 := Ow0.out.f 3 rfl
  have a4 := Aw0.out.c 4 rfl
  have o4 := Ow0.out.c 4 rfl
  have of4 := Ow0.out.f 4 rfl
  have r0 := Rw0.out.c 0 rfl
  have rf0 := Rw0.out.f 0 rfl
  have r1 := Rw0.out.c 1 rfl
  have rf1 := Rw0.out.f 1 rfl
  have r2 := Rw0.out.c 2 rfl
  have rf2 := Rw0.out.f 2 rfl
  have r3 := Rw0.out.c 3 rfl
  have rf3 := Rw0.out.f 3 rfl
  have r4 := Rw0.out.c 4 rfl
  have rf4 := Rw0.out.f 4 rfl
  go_wp2
  refine bodyPost_ret (v := .agg #[.int .i64 nd, .int .i64 kap, .bool dr, .int .i64 dp, .slice (some ⟨gq, 0, none⟩) q.length q.length]) (by simp [results, Try.results59, go_sem, r0, r1, r2, r3, r4]) rfl ⟨_, rfl, ?_, ?_⟩
  · have := HS0.out
    have := HG0.out
    have := HZ0.out
    have h0 : FrSub (w.heap.size + 1 + 1 + 1) w1.heap.size w1 (some ⟨gq, 0, none⟩) q.length q := Fy0.out.wide (by omega) (by omega)
    exact ((((((h0.setBelow (a := ⟨w.heap.size + 1 + 1, 4, none⟩) (by simp) _).setBelow (a := ⟨w.heap.size + 1, 0, none⟩) (by simp) _).setBelow (a := ⟨w.heap.size + 1, 1, none⟩) (by simp) _).setBelow (a := ⟨w.heap.size + 1, 2, none⟩) (by simp) _).setBelow (a := ⟨w.heap.size + 1, 3, none⟩) (by simp) _).setBelow (a := ⟨w.heap.size + 1, 4, none⟩) (by simp) _).wide (by omega) (by simp)
  · exact ((((((hBw0.setCell (p := ⟨w.heap.size + 1 + 1, 4, none⟩) (by simp; omega) _).setCell (p := ⟨w.heap.size + 1, 0, none⟩) (by simp) _).setCell (p := ⟨w.heap.size + 1, 1, none⟩) (by simp) _).setCell (p := ⟨w.heap.size + 1, 2, none⟩) (by simp) _).setCell (p := ⟨w.heap.size + 1, 3, none⟩) (by simp) _).setCell (p := ⟨w.heap.size + 1, 4, none⟩) (by simp) _)
set_option maxHeartbeats 2000000 in
theorem eqSub_same (nd : Int) (kap : Int) (dr : Bool) (dp : Int) (qo : Option Addr) (qc : Nat) (q : List (Int)) (qo' : Option Addr) (qc' : Nat) (w : World) (hlq : q.length ≤ 1048576) (hz : InSub w.heap.size w qo q) (hz' : InSub w.heap.size w qo' q) :
    Calls Try.prog 61 #[.agg #[.int .i64 nd, .int .i64 kap, .bool dr, .int .i64 dp, .slice qo q.length qc], .agg #[.int .i64 nd, .int .i64 kap, .bool dr, .int .i64 dp, .slice qo' q.length qc']] w fun e w' => e = .returned (.bool true) ∧ Below w.heap.size w w' := by
  have hnd : (nd != nd) = false := by simp
  have hkap : (kap != kap) = false := by simp
  have hdr : (dr != dr) = false := by simp
  have hdp : (dp != dp) = false := by simp
  have hB0 := below2 w (.cells #[.int .i64 nd, .int .i64 kap, .bool dr, .int .i64 dp, .slice qo q.length qc] 36) (.cells #[.int .i64 nd, .int .i64 kap, .bool dr, .int .i64 dp, .slice qo' q.length qc'] 36)
  have X0 := hid ((Bx.new (w := w) [.int .i64 nd, .int .i64 kap, .bool dr, .int .i64 dp, .slice qo q.length qc] 36 rfl).alloc (.cells #[.int .i64 nd, .int .i64 kap, .bool dr, .int .i64 dp, .slice qo' q.length qc'] 36))
  have Y0 := hid (Bx.new (w := w.alloc (.cells #[.int .i64 nd, .int .i64 kap, .bool dr, .int .i64 dp, .slice qo q.length qc] 36)) (p := w.heap.size + 1) [.int .i64 nd, .int .i64 kap, .bool dr, .int .i64 dp, .slice qo' q.length qc'] 36 (by simp))
  go_enter Try.func61, Try.ntmps61
  go_wp2_with fail
  refine (eqIntS_same qo qo' qc qc' q _ hlq (hz.later hB0) (hz'.later hB0)).mono ?_
  rintro e w1 ⟨rfl, hb1⟩
  have hB1 := hB0.trans (hb1.mono hB0.size)
  have X1 := hid (X0.out.later hb1)
  have Y1 := hid (Y0.out.later hb1)
  clear hb1 X0 Y0 hB0
  have x0 := X1.out.c 0 rfl
  have y0 := Y1.out.c 0 rfl
  have x1 := X1.out.c 1 rfl
  have y1 := Y1.out.c 1 rfl
  have x2 := X1.out.c 2 rfl
  have y2 := Y1.out.c 2 rfl
  have x3 := X1.out.c 3 rfl
  have y3 := Y1.out.c 3 rfl
  have x4 := X1.out.c 4 rfl
  have y4 := Y1.out.c 4 rfl
  go_wp2
  go_ret
  exact ⟨rfl, hB1⟩
/-- A Sub in memory: its scalars, and of each row where it begins, its room, what it holds. -/
abbrev LSub := Int × Int × Bool × Int × (Option Addr × Nat × List (Int))
/-- What a Sub says, wherever it lies. -/
abbrev PSub := Int × Int × Bool × Int × List (Int)
def valSub (a : LSub) : PSub := (a.1, a.2.1, a.2.2.1, a.2.2.2.1, a.2.2.2.2.2.2)
def hSub : Kind LSub := ⟨36, 23, 5, fun t => [.int .i64 t.1, .int .i64 t.2.1, .bool (t.2.2.1), .int .i64 t.2.2.2.1, .slice t.2.2.2.2.1 t.2.2.2.2.2.2.length t.2.2.2.2.2.1], fun _ => rfl, fun a v h => by simp at h; rcases h with rfl | rfl | rfl | rfl | rfl <;> rfl⟩
theorem Try.info36 : (Try.prog.info? 36).map (fun i => (i.zero, i.size, i.bytes)) = some (some (.agg #[.int .i64 0, .int .i64 0, .bool false, .int .i64 0, .slice none 0 0]), 5, 56) := by kernel_rfl
theorem hSub_ok : hSub.Ok := kind_ok (K := hSub) Try.underlying23 Try.info36 rfl (by decide) (by decide)
theorem hSub_at {n : Nat} {W : World} {ao : Option Addr} {ts : List LSub} (h : hSub.In n W ao ts) {k : Nat} (hk : k < ts.length) :
    ∃ b off, ao = some ⟨b, off, none⟩ ∧ b < n ∧ ∀ j, j < ts.length → W.cell? ⟨b, off + j * 5, none⟩ = some (.int .i64 (el ts j).1) ∧ W.cell? ⟨b, off + j * 5 + 1, none⟩ = some (.int .i64 (el ts j).2.1) ∧ W.cell? ⟨b, off + j * 5 + 2, none⟩ = some (.bool ((el ts j).2.2.1)) ∧ W.cell? ⟨b, off + j * 5 + 3, none⟩ = some (.int .i64 (el ts j).2.2.2.1) ∧ W.cell? ⟨b, off + j * 5 + 4, none⟩ = some (.slice (el ts j).2.2.2.2.1 (el ts j).2.2.2.2.2.2.length (el ts j).2.2.2.2.2.1) := by
  obtain ⟨b, off, e, hb, hc⟩ := h.pos hk
  exact ⟨b, off, e, hb, fun j hj => ⟨hc j hj 0 (by decide), hc j hj 1 (by decide), hc j hj 2 (by decide), hc j hj 3 (by decide), hc j hj 4 (by decide)⟩⟩
def dSub : Deep LSub := ⟨hSub, fun n W a => InSub n W (a.2.2.2.2).1 (a.2.2.2.2).2.2, fun lo hi W a => FrSub lo hi W (a.2.2.2.2).1 (a.2.2.2.2).2.1 (a.2.2.2.2).2.2, fun a b => rowOwn (a.2.2.2.2).1 (a.2.2.2.2).2.2 b⟩
theorem InSub.up {n m : Nat} {W : World} {qo : Option Addr} {q : List (Int)} (h : InSub n W qo q) (hm : n ≤ m) : InSub m W qo q := Kind.In.up h hm
theorem dSub_ok : dSub.Ok where
  kok := hSub_ok
  below := fun h hb => InSub.below h hb
  up := fun h hm => InSub.up h hm
  fin := fun h => FrSub.in h
  keep := fun {lo hi W W' a} h hk => Kind.Fresh.keepB h fun b hb => hk b (hb)
  wide := fun h h1 h2 => FrSub.wide h h1 h2
  lt := fun {lo hi W a b} h hb => by
    obtain ⟨h1, h2, h3, cur, h4⟩ := Kind.Fresh.lt (h : kI.Fresh _ _ _ _ _ _) hb
    exact ⟨h1, h2, h3, cur, _, h4, by decide⟩
/-- How many there are behind a Sub. -/
def sizeSub (a : LSub) : Nat := (a.2.2.2.2).2.2.length
def totSub (ts : List LSub) : Nat := (ts.map sizeSub).sum
theorem totSub_take {ts : List LSub} {k : Nat} (h : k < ts.length) : totSub (ts.take (k + 1)) = totSub (ts.take k) + sizeSub (el ts k) := by rw [take_succ_el h]; simp [totSub]
theorem totSub_le (ts : List LSub) (k : Nat) : totSub (ts.take k) ≤ totSub ts := by
  induction ts generalizing k with
  | nil => simp [totSub]
  | cons x r ih =>
    cases k with
    | zero => simp [totSub]
    | succ k => simp only [List.take_succ_cons, totSub, List.map_cons, List.sum_cons]; have := ih k; simp only [totSub] at this; omega
theorem totSub_el {ts : List LSub} {k : Nat} (h : k < ts.length) : totSub (ts.take k) + sizeSub (el ts k) ≤ totSub ts := by rw [← totSub_take h]; exact totSub_le ts _
set_option maxHeartbeats 2000000 in
theorem szgSub_any (nd : Int) (kap : Int) (dr : Bool) (dp : Int) (qo : Option Addr) (nq qc : Nat) (L : Int) (w : World) (h0 : 0 ≤ L) (h1 : L ≤ 1048576) (hlq : nq ≤ 9223372036854775807) :
    Calls Try.prog 58 #[.agg #[.int .i64 nd, .int .i64 kap, .bool dr, .int .i64 dp, .slice qo nq qc], .int .i64 L] w fun e w' => (∃ z : Int, e = .returned (.int .i64 z) ∧ z ≤ 1048576 ∧ ((z < 0) ∨ (z = L - (nq : Nat) ∧ 0 ≤ z))) ∧ Below w.heap.size w w' := by
  have hB0 := below1 w (.cells #[.int .i64 nd, .int .i64 kap, .bool dr, .int .i64 dp, .slice qo nq qc] 87)
  go_enter Try.func58, Try.ntmps58
  go_wp2_with fail
  refine (szIntS_any _ _ _ _ _ (by omega) (by omega) hlq).mono ?_
  rintro e w1 ⟨⟨z0, rfl, hr0, hs0⟩, rfl⟩
  by_cases g0 : z0 < 0
  · go_wp2
    go_ret
    exact ⟨⟨_, rfl, by omega, by omega⟩, hB0⟩
  go_wp2
  go_ret
  exact ⟨⟨_, rfl, by omega, by omega⟩, hB0⟩
set_option maxHeartbeats 2000000 in
theorem szSubS_any (ao : Option Addr) (cap : Nat) (ts : List LSub) (L : Int) (w : World) (h0 : 0 ≤ L) (h1 : L ≤ 1048576) (hl : ts.length ≤ 9223372036854775807) (hle : ∀ a ∈ ts, (a.2.2.2.2).2.2.length ≤ 9223372036854775807) (hz : hSub.In w.heap.size w ao ts) :
    Calls Try.prog 39 #[.slice ao ts.length cap, .int .i64 L] w fun e w' => (∃ r : Int, e = .returned (.int .i64 r) ∧ r ≤ 1048576 ∧ ((r < 0) ∨ (r = L - ts.length - totSub ts ∧ 0 ≤ r))) ∧ Below w.heap.size w w' := by
  by_cases hbig : L - (ts.length : Int) < 0
  · go_enter Try.func39, Try.ntmps39
    go_wp2
    go_ret
    exact ⟨⟨_, rfl, by omega, by omega⟩, Below.refl _ _⟩
  · have hb' : decide (L - (ts.length : Int) < 0) = false := by simpa using hbig
    go_enter Try.func39, Try.ntmps39
    go_wp2
    go_loopw [1, 5] (fun v i wr => ∃ (k : Nat), k ≤ ts.length ∧ i = .int .i64 k ∧ v = .int .i64 (L - ts.length - totSub (ts.take k)) ∧ (0 : Int) ≤ L - ts.length - totSub (ts.take k) ∧ Below w.heap.size w wr) (fun _ i _ => ts.length - (intOf i).toNat)
    case atStart => exact ⟨0, Nat.zero_le _, rfl, by simp [totSub], by simp [totSub]; omega, Below.refl _ _⟩
    case round =>
      obtain ⟨k, hk, rfl, rfl, hge, hnx⟩ := hrel
      by_cases hlt : k < ts.length
      · obtain ⟨b, off, rfl, hb, hc⟩ := hSub_at hz hlt
        have d1 := (hnx.cell (p := ⟨b, off + k * 5, none⟩) hb).trans (hc k hlt).1
        have d2 := (hnx.cell (p := ⟨b, off + k * 5 + 1, none⟩) hb).trans (hc k hlt).2.1
        have d3 := (hnx.cell (p := ⟨b, off + k * 5 + 2, none⟩) hb).trans (hc k hlt).2.2.1
        have d4 := (hnx.cell (p := ⟨b, off + k * 5 + 3, none⟩) hb).trans (hc k hlt).2.2.2.1
        have d5 := (hnx.cell (p := ⟨b, off + k * 5 + 4, none⟩) hb).trans (hc k hlt).2.2.2.2
        have hlk := hle _ (el_mem hlt)
        have ht := totSub_take hlt
        unfold sizeSub at ht
        obtain ⟨⟨nd, kap, dr, dp, ⟨qo, qc, q⟩⟩, ex⟩ : ∃ v, v = el ts k := ⟨_, rfl⟩
        rw [← ex] at d1 d2 d3 d4 d5 hlk ht
        clear ex hc
        dsimp only at d1 d2 d3 d4 d5 hlk ht
        go_wp2_with fail
        refine (szgSub_any nd kap dr dp qo q.length qc (L - ts.length - totSub (ts.take k)) _ hge (by omega) hlk).mono ?_
        rintro e w1 ⟨⟨r, rfl, hr1, hr⟩, hb1⟩
        have hB1 := hnx.trans (hb1.mono hnx.size)
        clear hb1
        rcases hr with hr | ⟨rfl, hr⟩
        · have hr' : decide (r < 0) = true := by simpa using hr
          go_wp2
          go_ret
          exact ⟨⟨_, rfl, by omega, by omega⟩, hB1⟩
        · go_wp2
          go_roundw
          case rel => exact ⟨k + 1, by omega, by go_num, by rw [ht]; push_cast; congr 1; omega, by rw [ht]; push_cast; omega, hB1⟩
          case measure => simp [intOf]; omega
      · obtain rfl : k = ts.length := by omega
        rw [List.take_length] at hge ⊢
        go_wp2
        go_ret
        exact ⟨⟨_, rfl, by omega, by omega⟩, hnx⟩
set_option maxHeartbeats 8000000 in
theorem toSubS_any (ao : Option Addr) (cap : Nat) (ts : List LSub) (w : World) (hl : ts.length ≤ 1048576) (hle : ∀ a ∈ ts, (a.2.2.2.2).2.2.length ≤ 1048576) (hz : DIn dSub w.heap.size w ao ts) :
    Calls Try.prog 41 #[.slice ao ts.length cap] w fun e w' => e = .returned (.slice (some ⟨w.heap.size, 0, none⟩) ts.length ts.length) ∧ (∃ lay, lay.map valSub = ts.map valSub ∧ DFr dSub w.heap.size w'.heap.size w' (some ⟨w.heap.size, 0, none⟩) ts.length lay) ∧ Below w.heap.size w w' := by
  obtain ⟨i0, hi, hz0, hz1, hz2⟩ := info_parts Try.info36
  go_enter Try.func41, Try.ntmps41
  go_wp2_with (at_make; refine wpList_make_full _ rfl _ _ 23 rfl w.heap.size 36 i0 (.agg #[.int .i64 0, .int .i64 0, .bool false, .int .i64 0, .slice none 0 0]) 5 Try.underlying23 hi hz0 hz1 .i64 .i64 _ _ ts.length rfl rfl rfl rfl (by rw [hz2]; omega) (by unfold maxLen; omega) (Nat.le_refl _) ?_; intro w1 hown hgrow)
  have hB1 : Below w.heap.size w w1 := (Below.refl _ _).grown hgrow (Nat.le_refl _) (fun k e => by cases e)
  have hs1 : w.heap.size + 1 ≤ w1.heap.size := (owns_lt hown).2
  have HO := show Hid _ from hown
  clear hown hgrow
  go_loopw [4] (fun i wr => ∃ (k : Nat) (xs : List Value) (lay : List LSub), k ≤ ts.length ∧ i = .int .i64 k ∧ Hid (wr.ownsRow w.heap.size 36 5 (.slice (some ⟨w.heap.size, 0, none⟩) ts.length ts.length) ts.length xs ∧ ∀ j, j < k → xs[j * 5]? = some (.int .i64 (el lay j).1) ∧ xs[j * 5 + 1]? = some (.int .i64 (el lay j).2.1) ∧ xs[j * 5 + 2]? = some (.bool ((el lay j).2.2.1)) ∧ xs[j * 5 + 3]? = some (.int .i64 (el lay j).2.2.2.1) ∧ xs[j * 5 + 4]? = some (.slice (el lay j).2.2.2.2.1 (el lay j).2.2.2.2.2.2.length (el lay j).2.2.2.2.2.1)) ∧ Below w.heap.size w wr ∧ Hid (LaidD dSub (w.heap.size + 1) wr lay k) ∧ Hid (lay.map valSub = (ts.take k).map valSub) ∧ w.heap.size + 1 ≤ wr.heap.size) (fun i _ => ts.length - (intOf i).toNat)
  case atStart => exact ⟨0, _, [], Nat.zero_le _, rfl, ⟨HO.out, fun j hj => by omega⟩, hB1, LaidD.zero _ _, rfl, hs1⟩
  case round =>
    obtain ⟨k, xs, lay, hk, rfl, ho, hnx, hL, hV, hsr⟩ := hrel
    by_cases hlt : k < ts.length
    · obtain ⟨b, off, rfl, hb, hc⟩ := hSub_at hz.1 hlt
      have d1 := (hnx.cell (p := ⟨b, off + k * 5, none⟩) hb).trans (hc k hlt).1
      have d2 := (hnx.cell (p := ⟨b, off + k * 5 + 1, none⟩) hb).trans (hc k hlt).2.1
      have d3 := (hnx.cell (p := ⟨b, off + k * 5 + 2, none⟩) hb).trans (hc k hlt).2.2.1
      have d4 := (hnx.cell (p := ⟨b, off + k * 5 + 3, none⟩) hb).trans (hc k hlt).2.2.2.1
      have d5 := (hnx.cell (p := ⟨b, off + k * 5 + 4, none⟩) hb).trans (hc k hlt).2.2.2.2
      have hI := hz.2 k hlt
      have hlk := hle _ (el_mem hlt)
      have HT := hid (take_succ_el hlt)
      obtain ⟨⟨nd, kap, dr, dp, ⟨qo, qc, q⟩⟩, ex⟩ : ∃ v, v = el ts k := ⟨_, rfl⟩
      rw [← ex] at d1 d2 d3 d4 d5 hI hlk HT
      clear ex hc
      dsimp only at d1 d2 d3 d4 d5 hlk
      have HI : Hid (InSub wr.heap.size wr qo q) := InSub.up (InSub.below hI hnx) hnx.size
      clear hI
      go_wp2_with fail
      refine (toSub_any nd kap dr dp qo qc q wr hlk HI.out).mono ?_
      rintro e w2 ⟨gq, rfl, hF2, hb2⟩
      have hxl : k * 5 + 4 < xs.length := by rw [ho.out.1.1]; omega
      have ho2 := ownsRow_below ho.out.1 hb2
      have hnb : Below w.heap.size w w2 := hnx.trans (hb2.mono hnx.size)
      have HO2 := hid ho2
      have hst1 : w2.cell? ⟨w.heap.size, k * 5, none⟩ = some xs[k * 5] := (ho2.cellAt (k * 5) (by omega)).trans (by simp)
      have hfr1 : w2.frozen? ⟨w.heap.size, k * 5, none⟩ = false := ho2.frozenAt (k * 5)
      have hst2 : w2.cell? ⟨w.heap.size, k * 5 + 1, none⟩ = some xs[k * 5 + 1] := (ho2.cellAt (k * 5 + 1) (by omega)).trans (by simp)
      have hfr2 : w2.frozen? ⟨w.heap.size, k * 5 + 1, none⟩ = false := ho2.frozenAt (k * 5 + 1)
      have hst3 : w2.cell? ⟨w.heap.size, k * 5 + 2, none⟩ = some xs[k * 5 + 2] := (ho2.cellAt (k * 5 + 2) (by omega)).trans (by simp)
      have hfr3 : w2.frozen? ⟨w.heap.size, k * 5 + 2, none⟩ = false := ho2.frozenAt (k * 5 + 2)
      have hst4 : w2.cell? ⟨w.heap.size, k * 5 + 3, none⟩ = some xs[k * 5 + 3] := (ho2.cellAt (k * 5 + 3) (by omega)).trans (by simp)
      have hfr4 : w2.frozen? ⟨w.heap.size, k * 5 + 3, none⟩ = false := ho2.frozenAt (k * 5 + 3)
      have hst5 : w2.cell? ⟨w.heap.size, k * 5 + 4, none⟩ = some xs[k * 5 + 4] := (ho2.cellAt (k * 5 + 4) (by omega)).trans (by simp)
      have hfr5 : w2.frozen? ⟨w.heap.size, k * 5 + 4, none⟩ = false := ho2.frozenAt (k * 5 + 4)
      have hL2 : Hid (LaidD dSub (w.heap.size + 1) w2 (lay ++ [((nd, kap, dr, dp, (some ⟨gq, 0, none⟩, q.length, q)) : LSub)]) (k + 1)) := hL.out.add dSub_ok hb2 hsr hF2
      have hV2 : Hid ((lay ++ [((nd, kap, dr, dp, (some ⟨gq, 0, none⟩, q.length, q)) : LSub)]).map valSub = (ts.take (k + 1)).map valSub) := by rw [Hid, HT.out, List.map_append, List.map_append, hV.out]; rfl
      have hs2 : w.heap.size + 1 ≤ w2.heap.size := Nat.le_trans hsr hb2.size
      have HG := hid hL.out.len
      obtain ⟨W3, hW3⟩ : ∃ W3, W3 = (((((w2.setCell ⟨w.heap.size, k * 5, none⟩ (.int .i64 nd)).setCell ⟨w.heap.size, k * 5 + 1, none⟩ (.int .i64 kap)).setCell ⟨w.heap.size, k * 5 + 2, none⟩ (.bool dr)).setCell ⟨w.heap.size, k * 5 + 3, none⟩ (.int .i64 dp)).setCell ⟨w.heap.size, k * 5 + 4, none⟩ (.slice (some ⟨gq, 0, none⟩) q.length q.length)) := ⟨_, rfl⟩
      have hL3 : Hid (LaidD dSub (w.heap.size + 1) W3 (lay ++ [((nd, kap, dr, dp, (some ⟨gq, 0, none⟩, q.length, q)) : LSub)]) (k + 1)) := by rw [Hid, hW3]; exact (((((hL2.out.set dSub_ok (a := ⟨w.heap.size, k * 5, none⟩) (by dsimp only; omega) _).set dSub_ok (a := ⟨w.heap.size, k * 5 + 1, none⟩) (by dsimp only; omega) _).set dSub_ok (a := ⟨w.heap.size, k * 5 + 2, none⟩) (by dsimp only; omega) _).set dSub_ok (a := ⟨w.heap.size, k * 5 + 3, none⟩) (by dsimp only; omega) _).set dSub_ok (a := ⟨w.heap.size, k * 5 + 4, none⟩) (by dsimp only; omega) _)
      have HW3 := hid hW3
      clear ho2 hF2 hb2 hL hL2 hW3
      go_wp2
      rw [← HW3.out]
      go_roundw
      case rel => exact ⟨k + 1, (((((xs.set (k * 5) (.int .i64 nd)).set (k * 5 + 1) (.int .i64 kap)).set (k * 5 + 2) (.bool dr)).set (k * 5 + 3) (.int .i64 dp)).set (k * 5 + 4) (.slice (some ⟨gq, 0, none⟩) q.length q.length)), _, by omega, by go_num, ⟨by rw [HW3.out]; exact (((((World.ownsRow.stored HO2.out (k * 5) _).1.stored (k * 5 + 1) _).1.stored (k * 5 + 2) _).1.stored (k * 5 + 3) _).1.stored (k * 5 + 4) _).1, fun j hj => by
          rcases Nat.lt_succ_iff_lt_or_eq.1 hj with h | rfl
          · refine ⟨?_, ?_, ?_, ?_, ?_⟩
            · rw [set_far (by omega), set_far (by omega), set_far (by omega), set_far (by omega), set_far (by omega), el_snoc_left HG.out h]; exact (ho.out.2 j h).1
            · rw [set_far (by omega), set_far (by omega), set_far (by omega), set_far (by omega), set_far (by omega), el_snoc_left HG.out h]; exact (ho.out.2 j h).2.1
            · rw [set_far (by omega), set_far (by omega), set_far (by omega), set_far (by omega), set_far (by omega), el_snoc_left HG.out h]; exact (ho.out.2 j h).2.2.1
            · rw [set_far (by omega), set_far (by omega), set_far (by omega), set_far (by omega), set_far (by omega), el_snoc_left HG.out h]; exact (ho.out.2 j h).2.2.2.1
            · rw [set_far (by omega), set_far (by omega), set_far (by omega), set_far (by omega), set_far (by omega), el_snoc_left HG.out h]; exact (ho.out.2 j h).2.2.2.2
          · refine ⟨?_, ?_, ?_, ?_, ?_⟩
            · rw [set_far (by omega), set_far (by omega), set_far (by omega), set_far (by omega), set_at (by first | omega | (simp only [List.length_set]; omega)), el_snoc_right HG.out]
            · rw [set_far (by omega), set_far (by omega), set_far (by omega), set_at (by first | omega | (simp only [List.length_set]; omega)), el_snoc_right HG.out]
            · rw [set_far (by omega), set_far (by omega), set_at (by first | omega | (simp only [List.length_set]; omega)), el_snoc_right HG.out]
            · rw [set_far (by omega), set_at (by first | omega | (simp only [List.length_set]; omega)), el_snoc_right HG.out]
            · rw [set_at (by first | omega | (simp only [List.length_set]; omega)), el_snoc_right HG.out]⟩, by rw [HW3.out]; exact (((((hnb.setCell (p := ⟨w.heap.size, k * 5, none⟩) (Nat.le_refl _) _).setCell (p := ⟨w.heap.size, k * 5 + 1, none⟩) (Nat.le_refl _) _).setCell (p := ⟨w.heap.size, k * 5 + 2, none⟩) (Nat.le_refl _) _).setCell (p := ⟨w.heap.size, k * 5 + 3, none⟩) (Nat.le_refl _) _).setCell (p := ⟨w.heap.size, k * 5 + 4, none⟩) (Nat.le_refl _) _), hL3, hV2, by rw [HW3.out]; simpa [World.setCell] using hs2⟩
      case measure => simp [intOf]; omega
    · obtain rfl : k = ts.length := by omega
      have hgl := hL.out.len
      have hxs : xs = hSub.flat lay := by
        refine hSub.flat_of xs lay (by rw [ho.out.1.1, hgl]; rfl) fun j hj i hi => ?_
        have hi' : i < 5 := hi
        rw [hgl] at hj
        rcases (show i = 0 ∨ i = 1 ∨ i = 2 ∨ i = 3 ∨ i = 4 from by omega) with rfl | rfl | rfl | rfl | rfl
        · exact (ho.out.2 j hj).1
        · exact (ho.out.2 j hj).2.1
        · exact (ho.out.2 j hj).2.2.1
        · exact (ho.out.2 j hj).2.2.2.1
        · exact (ho.out.2 j hj).2.2.2.2
      subst hxs
      have HGL := hid hgl
      rw [List.take_length] at hV
      clear hgl
      go_wp2
      go_ret
      refine ⟨rfl, ⟨lay, hV.out, hL.out.fr dSub_ok (by omega) (.inr ⟨_, rfl, (owns_lt ho.out.1).2, ?_⟩)⟩, hnx⟩
      rw [HGL.out]; exact ho.out.1
set_option maxHeartbeats 4000000 in
theorem eqSubS_same (ao bo : Option Addr) (cap cap' : Nat) (ts us : List LSub) (w : World) (hl : ts.length ≤ 1048576) (hle : ∀ a ∈ ts, (a.2.2.2.2).2.2.length ≤ 1048576) (hv : ts.map valSub = us.map valSub) (hz : DIn dSub w.heap.size w ao ts) (hz' : DIn dSub w.heap.size w bo us) :
    Calls Try.prog 44 #[.slice ao ts.length cap, .slice bo us.length cap'] w fun e w' => e = .returned (.bool true) ∧ Below w.heap.size w w' := by
  have hlu : us.length = ts.length := by have := congrArg List.length hv; simpa using this.symm
  rw [hlu]
  have HLU := hid hlu
  have HV := hid hv
  clear hlu hv
  have hne : ((ts.length : Int) != (ts.length : Int)) = false := by simp
  go_enter Try.func44, Try.ntmps44
  go_wp2
  go_loopw [5] (fun i wr => ∃ k : Nat, k ≤ ts.length ∧ i = .int .i64 k ∧ Below w.heap.size w wr) (fun i _ => ts.length - (intOf i).toNat)
  case atStart => exact ⟨0, Nat.zero_le _, rfl, Below.refl _ _⟩
  case round =>
    obtain ⟨k, hk, rfl, hnx⟩ := hrel
    by_cases hlt : k < ts.length
    · obtain ⟨b, off, rfl, hb, hc⟩ := hSub_at hz.1 hlt
      obtain ⟨b', off', rfl, hb', hc'⟩ := hSub_at hz'.1 (k := k) (by rw [HLU.out]; exact hlt)
      have hck1 := (hnx.cell (p := ⟨b, off + k * 5, none⟩) hb).trans (hc k hlt).1
      have hck1' := (hnx.cell (p := ⟨b', off' + k * 5, none⟩) hb').trans (hc' k (by rw [HLU.out]; exact hlt)).1
      have hck2 := (hnx.cell (p := ⟨b, off + k * 5 + 1, none⟩) hb).trans (hc k hlt).2.1
      have hck2' := (hnx.cell (p := ⟨b', off' + k * 5 + 1, none⟩) hb').trans (hc' k (by rw [HLU.out]; exact hlt)).2.1
      have hck3 := (hnx.cell (p := ⟨b, off + k * 5 + 2, none⟩) hb).trans (hc k hlt).2.2.1
      have hck3' := (hnx.cell (p := ⟨b', off' + k * 5 + 2, none⟩) hb').trans (hc' k (by rw [HLU.out]; exact hlt)).2.2.1
      have hck4 := (hnx.cell (p := ⟨b, off + k * 5 + 3, none⟩) hb).trans (hc k hlt).2.2.2.1
      have hck4' := (hnx.cell (p := ⟨b', off' + k * 5 + 3, none⟩) hb').trans (hc' k (by rw [HLU.out]; exact hlt)).2.2.2.1
      have hck5 := (hnx.cell (p := ⟨b, off + k * 5 + 4, none⟩) hb).trans (hc k hlt).2.2.2.2
      have hck5' := (hnx.cell (p := ⟨b', off' + k * 5 + 4, none⟩) hb').trans (hc' k (by rw [HLU.out]; exact hlt)).2.2.2.2
      have hI := hz.2 k hlt
      have hI' := hz'.2 k (by rw [HLU.out]; exact hlt)
      have hlk := hle _ (el_mem hlt)
      have hvk : valSub (el ts k) = valSub (el us k) := by
        have := congrArg (fun l => el l k) HV.out
        simpa [el, hlt, HLU.out] using this
      obtain ⟨⟨nd, kap, dr, dp, ⟨qo, qc, q⟩⟩, ex⟩ : ∃ v, v = el ts k := ⟨_, rfl⟩
      obtain ⟨⟨nd', kap', dr', dp', ⟨qo', qc', q'⟩⟩, ex'⟩ : ∃ v, v = el us k := ⟨_, rfl⟩
      rw [← ex] at hck1 hck2 hck3 hck4 hck5 hI hlk hvk
      rw [← ex'] at hck1' hck2' hck3' hck4' hck5' hI' hvk
      clear ex ex' hc hc'
      simp only [valSub, Prod.mk.injEq] at hvk
      obtain ⟨rfl, rfl, rfl, rfl, rfl⟩ := hvk
      dsimp only at hck1 hck2 hck3 hck4 hck5 hck1' hck2' hck3' hck4' hck5' hlk
      have HI : Hid (InSub wr.heap.size wr qo q) := InSub.up (InSub.below hI hnx) hnx.size
      have HI' : Hid (InSub wr.heap.size wr qo' q) := InSub.up (InSub.below hI' hnx) hnx.size
      clear hI hI' hz hz'
      go_wp2
      go_region_with (go_at_call 61; refine (eqSub_same nd kap dr dp qo qc q qo' qc' _ hlk (by exact HI.out) (by exact HI'.out)).mono ?_; rintro e w1 ⟨rfl, hb1⟩)
      all_goals go_wp2
      all_goals
        have hb2 : Below wr.drew.heap.size wr.drew w1 := by assumption
        have hnb : Below w.heap.size w w1 := hnx.drew.trans (hb2.mono hnx.size)
        go_roundw
        case rel => exact ⟨k + 1, by omega, by go_num, hnb⟩
        case measure => simp [intOf]; omega
    · obtain rfl : k = ts.length := by omega
      go_wp2
      go_ret
      exact ⟨rfl, hnx⟩
end Go.Proofs.Ytdghlgpkcpndjaa
