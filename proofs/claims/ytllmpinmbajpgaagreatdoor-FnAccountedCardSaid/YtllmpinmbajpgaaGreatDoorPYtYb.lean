
/- An offer. No conditions but those written. A step of a node. No conditions but those written. A move: the program. No conditions but those written. Moves one after another, plainly; a flow where its blocks are as they were. No conditions but those written. Moves one after another: the program (under way). No conditions but those written. Rows of moves: sizes, copies, comparisons. No conditions but those written. Drawn values and rows of ints. No conditions but those written. -/
import Derived.Test.YtllmpinmbajpgaaGreatDoorPWyYs
import Derived.Test.YtllmpinmbajpgaaGreatDoorPWxRd
import Derived.Test.YtllmpinmbajpgaaGreatDoorPYa
namespace Go.Proofs.YtllmpinmbajpgaaGreatDoor
section
open Go.RowKit

set_option maxRecDepth 100000 in
set_option maxHeartbeats 2000000 in
theorem offer_any (lo : Nat) (W : World) (p bb gb goff gc : Nat) (ts : List LNode) (so : Option Addr) (sc : Nat) (src : List Int) (xs : List Value) (ev fv uv : Value) (s : PP) (m1 m2 m3 : Int) (h : Flow lo W p bb (.slice (some ⟨gb, goff, none⟩) ts.length gc) (.slice so src.length sc) xs ev fv uv s) (hn : s.bx.length = ts.length) (hz : DIn dNode lo W (some ⟨gb, goff, none⟩) ts) (hI : kI.In lo W so src) (hrs : ∀ x ∈ src, ∃ j : Nat, j < ts.length ∧ x = (j : Int)) (hsl : src.length ≤ 1000) (hcap : ∀ j, j < ts.length → 0 ≤ capP (ts.map valNode) j ∧ capP (ts.map valNode) j ≤ 1000) (ht : totT s.bx ≤ 100000) (hi0 : 0 ≤ s.it) (hi1 : s.it ≤ 1000000) :
  Calls Tryz.prog 105 #[.pointer (some ⟨p, 0, none⟩), .agg #[.int .i64 m1, .int .i64 m2, .int .i64 m3]] W fun e W' => e = .returned (.int .i64 (offerR (ts.map valNode) src s m2 m3).1) ∧ FStep lo p (.slice (some ⟨gb, goff, none⟩) ts.length gc) (.slice so src.length sc) (FO p bb xs ev fv uv) W W' (offerR (ts.map valNode) src s m2 m3).2 := by
 have hb0 := below1 W (.cells #[.int .i64 m1, .int .i64 m2, .int .i64 m3] 42);have hlo : lo ≤ W.heap.size := Nat.le_of_lt (Nat.lt_of_le_of_lt h.lop h.box.size);have F0 := h.later hb0;have hp := h.box.size;obtain ⟨V, hV⟩ : ∃ V, V = W.alloc (.cells #[.int .i64 m1, .int .i64 m2, .int .i64 m3] 42) := ⟨_, rfl⟩;rw [← hV] at hb0 F0;have HF0 := hid F0;have HB0 := hid hb0;have HV := hid hV;have M0 := Bx.new (w := W) [.int .i64 m1, .int .i64 m2, .int .i64 m3] 42 rfl;rw [← hV] at M0;have b1 := M0.c 1 rfl;have b2 := M0.c 2 rfl;have c1 := F0.box.c 1 rfl;have HM0 := hid M0;have HCN : Hid (∀ b, hasB src m2 = b → ∀ n, Calls Tryz.prog 89 #[.slice so src.length sc, .int .i64 m2] (V.drewN n) fun e w' => e = .returned (.bool b) ∧ w' = V.drewN n) := fun b hb n =>
  contains_is lo so sc src m2 _ b (by omega) (hI.below (below_draws (hb0.mono hlo) n)) hb
 have HVL : Hid (∀ b, valB m3 = b → ∀ n, Calls Tryz.prog 28 #[.int .i64 m3] (V.drewN n) fun e w' => e = .returned (.bool b) ∧ w' = V.drewN n) := fun b hb n => isValue_is m3 _ b hb
 clear hV hb0 M0 F0 hI
 rcases hh : hasB src m2 with _ | _
 ·have HR : Hid (offerR (ts.map valNode) src s m2 m3 = (2, s)) := by rw [Hid, offerR, if_neg (by rw [hh]; simp)]
  have HC := hid (HCN.out _ hh);clear hh HCN HVL;go_enter Tryz.func105, Tryz.ntmps105;go_wp2_with fail;rw [← HV.out]
  go_quiet (exact Calls.quiet_of_same (HC.out _))
  go_wp2;go_ret;rw [HR.out];exact ⟨rfl, FStep.same h (below_draws HB0.out _)⟩
 rcases hv : valB m3 with _ | _
 ·have HR : Hid (offerR (ts.map valNode) src s m2 m3 = (2, s)) := by rw [Hid, offerR, if_neg (by rw [hv]; simp)]
  have HC := hid (HCN.out _ hh);have HL := hid (HVL.out _ hv);clear hh HCN HVL hv;go_enter Tryz.func105, Tryz.ntmps105;go_wp2_with fail;rw [← HV.out]
  go_quiet (first | exact Calls.quiet_of_same (HC.out _) | exact Calls.quiet_of_same (HL.out _))
  go_wp2;go_ret;rw [HR.out];exact ⟨rfl, FStep.same h (below_draws HB0.out _)⟩
 have HC := hid (HCN.out _ hh);have HL := hid (HVL.out _ hv);have hin : hasB src m2 = true ∧ valB m3 = true := ⟨hh, hv⟩;obtain ⟨k, hk, rfl⟩ := hrs m2 (by simpa [hasB] using hh);clear hh HCN HVL hv;have c4 := HF0.out.box.c 4 rfl
 rcases hcl : s.cl with _ | _
 case true =>
  have HR : Hid (offerR (ts.map valNode) src s (k : Int) m3 = (3, s)) := by rw [Hid, offerR, if_pos hin, if_pos hcl]
  rw [hcl] at c4;clear hin;go_enter Tryz.func105, Tryz.ntmps105;go_wp2_with fail;rw [← HV.out]
  go_quiet (first | exact Calls.quiet_of_same (HC.out _) | exact Calls.quiet_of_same (HL.out _))
  go_wp2;go_ret;rw [HR.out];exact ⟨rfl, FStep.same h (below_draws HB0.out _)⟩
 rw [hcl] at c4;obtain ⟨b, off, e, hb, hc⟩ := hNode_at hz.1 hk;obtain ⟨rfl, rfl⟩ : gb = b ∧ goff = off := by simp at e; exact e
 have hcp : capP (ts.map valNode) k = (el ts k).2.2.2.2.1 := by rw [capP, el_val hk]; rfl
 have g4 := (hc k hk).2.2.2.2.1;rw [← hcp] at g4;have hck := hcap k hk;have HRM : Hid (∀ n, Calls Tryz.prog 146 #[.pointer (some ⟨p, 0, none⟩), .int .i64 (k : Int)] (V.drewN n) fun e w' => e = .returned (.int .i64 (capP (ts.map valNode) k - (el s.bx k).length)) ∧ w' = (V.drewN n).drew) := fun n =>
  roomAt_any lo (V.drewN n) p bb gb goff ts.length gc _ xs ev fv uv s k _ (HF0.out.later (below_draws (Below.refl _ _) n)) (by omega) hk ((below_draws HB0.out n).cell (p := ⟨gb, goff + k * 6 + 4, none⟩) (by dsimp only; omega) |>.trans g4) hck.1 hck.2 ht
 by_cases hrm : capP (ts.map valNode) k - ((el s.bx k).length : Int) < 1
 ·have HR : Hid (offerR (ts.map valNode) src s (k : Int) m3 = (4, s)) := by rw [Hid, offerR, if_pos hin, if_neg (by simp [hcl]), Int.toNat_natCast, if_pos hrm]
  have hd : decide (capP (ts.map valNode) k - ((el s.bx k).length : Int) < 1) = true := by simpa using hrm
  generalize capP (ts.map valNode) k - ((el s.bx k).length : Int) = q at HRM hd
  clear hin hrm hc hck hcp g4 hcap;go_enter Tryz.func105, Tryz.ntmps105;go_wp2_with fail;rw [← HV.out]
  go_quiet (first | exact Calls.quiet_of_same (HC.out _) | exact Calls.quiet_of_same (HL.out _))
  go_wp2_with fail;refine (HRM.out _).mono ?_;rintro e w2 ⟨rfl, hw2⟩;rw [hw2]; clear hw2 w2
  go_wp2;go_ret;rw [HR.out];exact ⟨rfl, FStep.same h ((below_draws HB0.out _).drew)⟩
 ·have HR : Hid (offerR (ts.map valNode) src s (k : Int) m3 = (0, { s with bx := s.bx.set k (el s.bx k ++ [(s.it, m3, 0)]), it := s.it + 1 })) := by rw [Hid, offerR, if_pos hin, if_neg (by simp [hcl]), Int.toNat_natCast, if_neg hrm]
  have hd : decide (capP (ts.map valNode) k - ((el s.bx k).length : Int) < 1) = false := by simpa using hrm
  generalize capP (ts.map valNode) k - ((el s.bx k).length : Int) = q at HRM hd
  clear hin hrm hc hck hcp g4 hcap;go_enter Tryz.func105, Tryz.ntmps105;go_wp2_with fail;rw [← HV.out]
  go_quiet (first | exact Calls.quiet_of_same (HC.out _) | exact Calls.quiet_of_same (HL.out _))
  go_wp2_with fail;refine (HRM.out _).mono ?_;rintro e w2 ⟨rfl, hw2⟩;have hB2 : Below W.heap.size W w2 := by rw [hw2]; exact (below_draws HB0.out _).drew
  have F2 : Flow lo w2 p bb (.slice (some ⟨gb, goff, none⟩) ts.length gc) (.slice so src.length sc) xs ev fv uv s := h.later hB2;have M2 : Bx w2 W.heap.size [.int .i64 m1, .int .i64 (k : Int), .int .i64 m3] := by rw [hw2]; exact (HM0.out.later (below_draws (Below.refl _ _) _)).drew
  clear hw2 HRM c4 c1 b1 b2 HM0;have P0 : w2.cell? ⟨p, 3, none⟩ = some (.int .i64 s.it) ∧ w2.cell? ⟨W.heap.size, 1, none⟩ = some (.int .i64 (k : Int)) ∧ w2.cell? ⟨W.heap.size, 2, none⟩ = some (.int .i64 m3) := ⟨F2.box.c 3 rfl, M2.c 1 rfl, M2.c 2 rfl⟩;have HPU := hid ((put_any lo w2.drew p bb _ _ xs ev fv uv s k s.it m3 0 (F2.later (Below.refl _ _).drew) (by omega) ht).mono fun e w3 hh => And.intro hh (show w3.cell? ⟨p, 3, none⟩ = some (.int .i64 s.it) ∧ w3.cell? ⟨W.heap.size, 1, none⟩ = some (.int .i64 (k : Int)) ∧ w3.cell? ⟨W.heap.size, 2, none⟩ = some (.int .i64 m3) from by
   obtain ⟨_, hs3⟩ := hh;obtain ⟨bb3, xs3, ev3, fv3, uv3, F3, hk3, _, _, _⟩ := hs3.next;have hkm := hk3 W.heap.size M2.size (h.far (Nat.le_refl _));exact ⟨F3.box.c 3 rfl, (World.cell?_of_block (a := ⟨W.heap.size, 1, none⟩) hkm).trans P0.2.1, (World.cell?_of_block (a := ⟨W.heap.size, 2, none⟩) hkm).trans P0.2.2⟩))
  clear F2 M2;have PD : w2.drew.cell? ⟨p, 3, none⟩ = some (.int .i64 s.it) ∧ w2.drew.cell? ⟨W.heap.size, 1, none⟩ = some (.int .i64 (k : Int)) ∧ w2.drew.cell? ⟨W.heap.size, 2, none⟩ = some (.int .i64 m3) := P0;go_wp2_with fail
  go_region_held3 (fun Y => Y.cell? ⟨p, 3, none⟩ = some (.int .i64 s.it) ∧ Y.cell? ⟨W.heap.size, 1, none⟩ = some (.int .i64 (k : Int)) ∧ Y.cell? ⟨W.heap.size, 2, none⟩ = some (.int .i64 m3))
   (first | (with_reducible exact P0) | (with_reducible exact PD) | (with_reducible exact P3))
   ((go_at_call 147; refine HPU.out.mono ?_; rintro e w3 ⟨⟨⟨v3, rfl⟩, hs3⟩, P3⟩))
  all_goals
   have HS : Hid (FStep lo p (.slice (some ⟨gb, goff, none⟩) ts.length gc) (.slice so src.length sc) (FO p bb xs ev fv uv) W w3 { s with bx := s.bx.set k (el s.bx k ++ [(s.it, m3, 0)]) }) := FStep.start h hB2.drew hs3;obtain ⟨bb3, xs3, ev3, fv3, uv3, F3, _, _, _, hgo⟩ := HS.out.next;have r3 := F3.box.c 3 rfl;have f3 := F3.box.f 3 rfl;have hw3 : IntKind.i64.wrap (s.it + 1) = s.it + 1 := by rw [IntKind.wrap_i64]; omega
   have HN := hid (hgo w3 _ _ (Below.refl _ _) (F3.putIt (s.it + 1)));clear hgo F3 HS hs3 P0 PD P3 HPU;dsimp only at r3;go_wp2;go_ret;rw [HR.out];exact ⟨rfl, HN.out⟩
end
section
open Go.RowKit

theorem stepR_at {gs : List PNode} {s : PP} {k : Nat} {t1 t2 t3 : Int} {r : List (Int × Int × Int)} {out : List Int} {fl ok : Bool} (hk : k < s.bx.length) (hbx : el s.bx k = (t1, t2, t3) :: r) (hA : stApp gs k t2 = (out, fl, ok)) :
  stepR gs s (k : Int) = if fl = true then (0, failP s k t1 t2 t3 r) else if blkP gs s.bx k (out.length : Int) = true then (6, s) else (0, leadAll gs k t1 out { s with bx := s.bx.set k r }) := by
 rw [stepR, if_pos ⟨by omega, by omega⟩, Int.toNat_natCast, hbx];dsimp only;rw [hA]
set_option maxRecDepth 100000 in
set_option maxHeartbeats 2000000 in
theorem step_any (lo : Nat) (W : World) (p bb gb goff gc : Nat) (ts : List LNode) (sv : Value) (xs : List Value) (ev fv uv : Value) (s : PP) (m1 m2 m3 : Int) (h : Flow lo W p bb (.slice (some ⟨gb, goff, none⟩) ts.length gc) sv xs ev fv uv s) (hn : s.bx.length = ts.length) (hz : DIn dNode lo W (some ⟨gb, goff, none⟩) ts) (hE : EdgesIn (ts.map valNode)) (hcap : ∀ j, j < ts.length → 0 ≤ capP (ts.map valNode) j ∧ capP (ts.map valNode) j ≤ 1000) (ht : totT s.bx + s.fa.length + 100 ≤ 100000) (hem : s.em.length + 100 ≤ 1000000) (hfu : s.fu.length ≤ 100) (h0 : 0 ≤ s.ti) (h1 : s.ti ≤ 1000000) (htr : ∀ k t1 t2 t3 r, el s.bx k = (t1, t2, t3) :: r → 0 ≤ t3 ∧ t3 ≤ 1000) :
  Calls Tryz.prog 92 #[.pointer (some ⟨p, 0, none⟩), .agg #[.int .i64 m1, .int .i64 m2, .int .i64 m3]] W fun e W' => e = .returned (.int .i64 (stepR (ts.map valNode) s m2).1) ∧ FStep lo p (.slice (some ⟨gb, goff, none⟩) ts.length gc) sv (FO p bb xs ev fv uv) W W' (stepR (ts.map valNode) s m2).2 := by
 have hb0 := below1 W (.cells #[.int .i64 m1, .int .i64 m2, .int .i64 m3] 42);have hlo : lo ≤ W.heap.size := Nat.le_of_lt (Nat.lt_of_le_of_lt h.lop h.box.size);have F0 := h.later hb0;have hp := h.box.size;obtain ⟨V, hV⟩ : ∃ V, V = W.alloc (.cells #[.int .i64 m1, .int .i64 m2, .int .i64 m3] 42) := ⟨_, rfl⟩;rw [← hV] at hb0 F0;have HF0 := hid F0;have HB0 := hid hb0;have HV := hid hV;have M0 := Bx.new (w := W) [.int .i64 m1, .int .i64 m2, .int .i64 m3] 42 rfl;rw [← hV] at M0;have b1 := M0.c 1 rfl;have hfc := firstCode_any lo V p bb (some ⟨gb, goff, none⟩) gc sv xs ev fv uv s m2 (by rw [hn]; exact F0);have HFC := hid hfc;clear hfc
 by_cases hin : 0 ≤ m2 ∧ m2 < s.bx.length
 ·obtain ⟨k, rfl⟩ : ∃ k : Nat, m2 = (k : Int) := ⟨m2.toNat, by omega⟩;have hk : k < s.bx.length := by omega
  cases hbx : el s.bx k with
  | nil =>
   have HR : Hid (stepR (ts.map valNode) s (k : Int) = (5, s)) := by rw [Hid, stepR, if_pos hin, Int.toNat_natCast, hbx]
   have h5 : firstR s (k : Int) = 5 := by rw [firstR, if_pos hin, Int.toNat_natCast, hbx]; rfl
   rw [h5] at HFC;clear F0 hin h5 hV hb0 M0;go_enter Tryz.func92, Tryz.ntmps92;go_wp2_with fail;rw [← HV.out];refine HFC.out.mono ?_;rintro e w2 ⟨rfl, hw2⟩;rw [hw2]; clear hw2 w2
   go_wp2;go_ret;rw [HR.out];exact ⟨rfl, FStep.same h HB0.out⟩
  | cons t r =>
   obtain ⟨t1, t2, t3⟩ := t;have hkt : k < ts.length := by omega
   have h5 : firstR s (k : Int) = 0 := by rw [firstR, if_pos hin, Int.toNat_natCast, hbx]; rfl
   rw [h5] at HFC;obtain ⟨ho, hc, hsl, hcn, hFr⟩ := F0.hnd.slice hk;rw [hbx] at hsl hFr;obtain ⟨g, rfl, hg1, hg2, hg3, hgo⟩ := hFr.at (by simp);simp only [List.length_cons] at hsl;have c5 := F0.box.c 5 rfl;have c0 := F0.box.c 0 rfl;have ck := (F0.head hk).1;rw [hsl] at ck;have hki : (k : Int) < (s.bx.length : Int) := by omega
   have hkg : (k : Int) < (ts.length : Int) := by omega
   have hr1 : (0 : Int) < ((r.length + 1 : Nat) : Int) := by omega
   obtain ⟨b0, off0, e0, hbl, hcs⟩ := kTk_at hFr.in (k := 0) (by simp)
   simp at e0
   obtain ⟨rfl, rfl⟩ := e0;obtain ⟨d0, d1, d2⟩ := hcs 0 (by simp);have P0 : V.cell? ⟨p, 5, none⟩ = some (.slice (some ⟨bb, 0, none⟩) s.bx.length s.bx.length) ∧ V.cell? ⟨W.heap.size, 1, none⟩ = some (.int .i64 (k : Int)) ∧ V.cell? ⟨bb, k, none⟩ = some (.slice (some ⟨g, 0, none⟩) (r.length + 1) hc) ∧ V.cell? ⟨g, 0, none⟩ = some (.int .i64 t1) ∧ V.cell? ⟨g, 1, none⟩ = some (.int .i64 t2) ∧ V.cell? ⟨g, 2, none⟩ = some (.int .i64 t3) := ⟨c5, b1, ck, d0, d1, d2⟩;have hn1 := World.new_ne V ⟨p, 5, none⟩ c5;have hn2 := World.new_ne V ⟨W.heap.size, 1, none⟩ b1;have hn3 := World.new_ne V ⟨bb, k, none⟩ ck;have hn4 := World.new_ne V ⟨g, 0, none⟩ d0;have HM0 := hid M0;obtain ⟨b9, off9, e9, hb9, hc9⟩ := hNode_at hz.1 hkt;obtain ⟨rfl, rfl⟩ : gb = b9 ∧ goff = off9 := by simp at e9; exact e9
   obtain ⟨_, c1, c2, c3, _, _⟩ := hc9 k hkt;have hst : stApp (ts.map valNode) k t2 = appR (el ts k).2.1 (el ts k).2.2.1 (el ts k).2.2.2.1 t2 := by rw [stApp, el_val hkt]; rfl
   obtain ⟨⟨nm, kd, sa, sb, cp, ⟨nxo, nxc, nx⟩⟩, ex⟩ : ∃ v, v = el ts k := ⟨_, rfl⟩;rw [← ex] at c1 c2 c3 hst;dsimp only at c1 c2 c3 hst;have HAP := implApp_any kd sa sb t2;have hol := appR_len kd sa sb t2
   rcases hA : appR kd sa sb t2 with ⟨out, fl, ok⟩
   rw [hA] at hst HAP hol;dsimp only at hol;have HRS := hid (stepR_at hk hbx hst);have HAPP := hid HAP;have HC1 := hid (And.intro c1 (And.intro c2 c3));clear ex hc9 e9 hst HAP hA c1 c2 c3;have HP0 := hid P0;clear F0 hin h5 hV hb0 M0 ck d0 d1 d2 hcs hFr c0 c5;go_enter Tryz.func92, Tryz.ntmps92;go_wp2_with fail;rw [← HV.out];refine HFC.out.mono ?_;rintro e w2 ⟨rfl, hw2⟩;rw [hw2]; clear hw2 w2 HFC
   go_wp2_with fail
   go_region_held3 (fun Y => Y.cell? ⟨p, 5, none⟩ = some (.slice (some ⟨bb, 0, none⟩) s.bx.length s.bx.length) ∧ Y.cell? ⟨W.heap.size, 1, none⟩ = some (.int .i64 (k : Int)) ∧ Y.cell? ⟨bb, k, none⟩ = some (.slice (some ⟨g, 0, none⟩) (r.length + 1) hc) ∧ Y.cell? ⟨g, 0, none⟩ = some (.int .i64 t1) ∧ Y.cell? ⟨g, 1, none⟩ = some (.int .i64 t2) ∧ Y.cell? ⟨g, 2, none⟩ = some (.int .i64 t3))
    (first | (with_reducible exact P0) | go_keep) (fail)
   rename_i hHeld;clear hHeld;obtain ⟨X, hX⟩ : ∃ X, X = (V.alloc (.cells #[.int .i64 t1, .int .i64 t2, .int .i64 t3] 112)).drew := ⟨_, rfl⟩;rw [← hX];have hbX : Below V.heap.size V X := by rw [hX]; exact (below1 _ _).drew
   have TX : Bx X V.heap.size [.int .i64 t1, .int .i64 t2, .int .i64 t3] := by rw [hX]; exact (Bx.new [.int .i64 t1, .int .i64 t2, .int .i64 t3] _ rfl).drew
   have hBX : Below W.heap.size W X := HB0.out.trans (hbX.mono HB0.out.size);have hVW : W.heap.size ≤ V.heap.size := HB0.out.size;have hVX : V.heap.size < X.heap.size := TX.size;have HS : Hid (∀ Y, Below X.heap.size X Y → Y.cell? ⟨p, 0, none⟩ = some (.slice (some ⟨gb, goff, none⟩) ts.length gc) ∧ Y.cell? ⟨W.heap.size, 1, none⟩ = some (.int .i64 (k : Int)) ∧ Y.cell? ⟨gb, goff + k * 6 + 1, none⟩ = some (.int .i64 kd) ∧ Y.cell? ⟨gb, goff + k * 6 + 2, none⟩ = some (.int .i64 sa) ∧ Y.cell? ⟨gb, goff + k * 6 + 3, none⟩ = some (.int .i64 sb) ∧ Y.cell? ⟨V.heap.size, 1, none⟩ = some (.int .i64 t2)) := fun Y hY => by
    have hBY := hBX.trans (hY.mono hBX.size);have F := h.later hBY;have M := HM0.out.later (hbX.trans (hY.mono hbX.size));have T := TX.later hY;exact ⟨F.box.c 0 rfl, M.c 1 rfl, (hBY.cell (p := ⟨gb, goff + k * 6 + 1, none⟩) (by dsimp only; omega)).trans HC1.out.1, (hBY.cell (p := ⟨gb, goff + k * 6 + 2, none⟩) (by dsimp only; omega)).trans HC1.out.2.1, (hBY.cell (p := ⟨gb, goff + k * 6 + 3, none⟩) (by dsimp only; omega)).trans HC1.out.2.2, T.c 1 rfl⟩
   have PU := HS.out X (Below.refl _ _);have PE := HS.out X.drew (Below.refl _ _).drew;have HAC := hid (HAPP.out X.drew);have HBX := hid hBX;have HTX := hid TX;have HbX := hid hbX;clear hX hbX TX hBX P0 b1 HAPP;go_wp2_with fail
   go_region_held3 (fun Y => Y.cell? ⟨p, 0, none⟩ = some (.slice (some ⟨gb, goff, none⟩) ts.length gc) ∧ Y.cell? ⟨W.heap.size, 1, none⟩ = some (.int .i64 (k : Int)) ∧ Y.cell? ⟨gb, goff + k * 6 + 1, none⟩ = some (.int .i64 kd) ∧ Y.cell? ⟨gb, goff + k * 6 + 2, none⟩ = some (.int .i64 sa) ∧ Y.cell? ⟨gb, goff + k * 6 + 3, none⟩ = some (.int .i64 sb) ∧ Y.cell? ⟨V.heap.size, 1, none⟩ = some (.int .i64 t2))
    (first | (with_reducible exact PU) | (with_reducible exact PE) | (with_reducible exact P3))
    ((go_at_call 91; refine HAC.out.mono ?_; rintro e w3 ⟨⟨o, c, rfl, hoc, hfr⟩, hb3⟩; have P3 := HS.out w3 ((Below.refl _ _).drew.trans hb3)))
   have B3 : Below W.heap.size W w3 := HBX.out.trans ((((Below.refl _ _).drew).trans hb3).mono HBX.out.size);have F3 := h.later B3;have q1 := P3.2.1;have hX3 : X.heap.size ≤ w3.heap.size := hb3.size;have T3 := HTX.out.later (((Below.refl _ _).drew).trans hb3);have M3 := HM0.out.later (HbX.out.trans ((((Below.refl _ _).drew).trans hb3).mono HbX.out.size));have hmany : s.bx.length ≤ 10 := by have := hE.many; rw [List.length_map] at this; omega
   have HM3 := hid M3;have HT3 := hid T3;have HF3 := hid F3;have HB3 := hid B3;have HFR := hid hfr;clear PU PE P3 HS HAC M3 T3 F3 B3 hfr hb3
   try dsimp only
   cases fl
   case true =>
    have HRf : Hid (stepR (ts.map valNode) s (k : Int) = (0, failP s k t1 t2 t3 r)) := HRS.out.trans (if_pos rfl);have hb9 := htr k t1 t2 t3 r hbx;have HFF := hid (failFirst_any lo w3 p bb _ sv xs ev fv uv s k t1 t2 t3 r HF3.out hk hbx hmany (by omega) hfu h0 h1 hb9.1 hb9.2);go_wp2_with fail;refine HFF.out.mono ?_;rintro e w4 ⟨⟨v4, rfl⟩, hs4⟩;have HS4 := hid (FStep.start h HB3.out hs4);clear hs4;go_wp2;go_ret;rw [HRf.out];exact ⟨rfl, HS4.out⟩
   case false =>
    have HIB := hid (isBlocked_any lo w3 p bb gb goff gc ts sv xs ev fv uv s k (out.length : Int) HF3.out hn hkt (Nat.le_trans hlo HB3.out.size) (hz.below dNode_ok (HB3.out.mono hlo)) hE hcap (by omega));have HR1 := hid (HRS.out.trans (if_neg (by simp)))
    rcases hbk : blkP (ts.map valNode) s.bx k (out.length : Int) with _ | _
    case true =>
     rw [hbk] at HIB;go_wp2_with fail;refine HIB.out.mono ?_;rintro e w4 ⟨rfl, hb4⟩;have HB4 := hid (HB3.out.trans (hb4.mono HB3.out.size));clear hb4;go_wp2;go_ret;rw [HR1.out, if_pos hbk];exact ⟨rfl, FStep.same h HB4.out⟩
    case false =>
     rw [hbk] at HIB;have HR2 := hid (HR1.out.trans (if_neg (by rw [hbk]; simp)));clear HR1 HRS hbk;go_wp2_with fail;refine HIB.out.mono ?_;rintro e w4 ⟨rfl, hb4⟩;have HB4 := hid (HB3.out.trans (hb4.mono HB3.out.size));have HM4 := hid (HM3.out.later hb4);have HT4 := hid (HT3.out.later hb4);have q4 := HM4.out.c 1 rfl;have h34 := hb4.size;have Hb4 := hid hb4;have HTK := hid (take_any lo w4 p bb _ sv xs ev fv uv s k t1 t2 t3 r (h.later HB4.out) hk hbx (by omega));have hs0 := totT_set (ls := s.bx) (k := k) r hk;rw [hbx, List.length_cons] at hs0;clear hb4 HIB q1 HF3;go_wp2_with fail;refine HTK.out.mono ?_;rintro e w5 ⟨rfl, hs5⟩;obtain ⟨s1, hs1⟩ : ∃ s1 : PP, s1 = { s with bx := s.bx.set k r } := ⟨_, rfl⟩;rw [← hs1] at hs5 HR2;have e1 : s1.bx.length = ts.length := by rw [hs1]; exact (List.length_set ..).trans hn
     have e2 : totT s1.bx + 1 = totT s.bx := by rw [hs1]; show totT (s.bx.set k r) + 1 = _; omega
     have e3 : s1.em.length = s.em.length := by rw [hs1]
     have HS5 := hid hs5;clear hs5 HTK hs1;go_wp2
     go_loopw [63] (fun i wr => ∃ m : Nat, m ≤ out.length ∧ i = .int .i64 (m : Int) ∧ Hid (FStep lo p (.slice (some ⟨gb, goff, none⟩) ts.length gc) sv (FO p bb xs ev fv uv) w4 wr (leadAll (ts.map valNode) k t1 (out.take m) s1))) (fun i _ => out.length - (intOf i).toNat)
     case atStart => exact ⟨0, Nat.zero_le _, rfl, HS5⟩
     case round =>
      obtain ⟨m, hm, rfl, hS⟩ := hrel
      by_cases hlt : m < out.length
      ·obtain ⟨bb2, xs2, ev2, fv2, uv2, F2, hk2, hB2, _, hgo⟩ := hS.out.next;have km := hk2 W.heap.size HM4.out.size (h.far (Nat.le_refl _));have kt := hk2 V.heap.size HT4.out.size (h.far hVW);have qm1 := (World.cell?_of_block (a := ⟨W.heap.size, 1, none⟩) km).trans (HM4.out.c 1 rfl);have t0 := (World.cell?_of_block (a := ⟨V.heap.size, 0, none⟩) kt).trans (HT4.out.c 0 rfl);obtain ⟨g2, eg2, hg4, hg5, hg6, _⟩ := HFR.out.at (by omega);obtain ⟨nb, noff, eo, hnb, hnc⟩ := ints_at HFR.out.in hlt;obtain ⟨rfl, rfl⟩ : g2 = nb ∧ 0 = noff := by rw [eg2] at eo; simp at eo; exact eo
       have kn := hk2 g2 (by omega) (h.far (Nat.le_trans hVW (Nat.le_trans (Nat.le_of_lt hVX) hg4)));have cm := (World.cell?_of_block (a := ⟨g2, 0 + m, none⟩) kn).trans ((Hb4.out.cell (p := ⟨g2, 0 + m, none⟩) hnb).trans (hnc m hlt));rw [Nat.zero_add] at cm;have HT := hid (take_succ_el hlt);have a1 := leadAll_len (ts.map valNode) k t1 (out.take m) s1;have a2 := leadAll_tot t1 (by rw [List.length_map]; exact hkt) hE (out.take m) s1 (by rw [List.length_map]; exact e1);have a3 := leadAll_em (ts.map valNode) k t1 (out.take m) s1;have hlm : (out.take m).length = m := by simp; omega
       have HLD := hid (lead_any lo wr p bb2 gb goff gc ts sv xs2 ev2 fv2 uv2 _ k t1 (el out m) F2 (a1.trans e1) hkt (hz.below dNode_ok ((HB4.out.mono hlo).trans hB2)) hE (by omega) (by omega));have HN : Hid (∀ w2, FStep lo p (.slice (some ⟨gb, goff, none⟩) ts.length gc) sv (FO p bb2 xs2 ev2 fv2 uv2) wr w2 (leadR (ts.map valNode) (leadAll (ts.map valNode) k t1 (out.take m) s1) k t1 (el out m)) → Hid (FStep lo p (.slice (some ⟨gb, goff, none⟩) ts.length gc) sv (FO p bb xs ev fv uv) w4 w2 (leadAll (ts.map valNode) k t1 (out.take (m + 1)) s1))) := fun w2 h2 => by
        rw [HT.out, leadAll_snoc];exact hgo _ _ _ (Below.refl _ _) h2
       subst eg2;clear hgo F2 hS a1 a2 a3 hlm km kt kn hk2 hnc q4;go_wp2_with fail;refine HLD.out.mono ?_;rintro e w6 ⟨⟨u6, rfl⟩, h6⟩;have H6 := HN.out w6 h6;clear h6 HN HLD;go_wp2;go_roundw
       case rel => exact ⟨m + 1, by omega, by go_num, H6⟩
       case measure => simp [intOf]; omega
      ·obtain rfl : m = out.length := by omega
       rw [List.take_length] at hS;go_wp2;go_ret;rw [HR2.out];exact ⟨rfl, FStep.start h HB4.out hS.out⟩
 ·have HR : Hid (stepR (ts.map valNode) s m2 = (2, s)) := by rw [Hid, stepR, if_neg hin]
  have h5 : firstR s m2 = 2 := by rw [firstR, if_neg hin]
  rw [h5] at HFC;clear F0 hin h5 hV hb0 M0;go_enter Tryz.func92, Tryz.ntmps92;go_wp2_with fail;rw [← HV.out];refine HFC.out.mono ?_;rintro e w2 ⟨rfl, hw2⟩;rw [hw2]; clear hw2 w2
  go_wp2;go_ret;rw [HR.out];exact ⟨rfl, FStep.same h HB0.out⟩
end
section
open Go.RowKit

theorem Tryz.entersM1 : ∀ args w, (callFunc 105 args).run Tryz.prog w = .ok (.enter 105 args) w := enters_of Tryz.func105 (by kernel_rfl) rfl
theorem Tryz.entersM2 : ∀ args w, (callFunc 92 args).run Tryz.prog w = .ok (.enter 92 args) w := enters_of Tryz.func92 (by kernel_rfl) rfl
theorem Tryz.entersM3 : ∀ args w, (callFunc 106 args).run Tryz.prog w = .ok (.enter 106 args) w := enters_of Tryz.func106 (by kernel_rfl) rfl
theorem Tryz.entersM4 : ∀ args w, (callFunc 107 args).run Tryz.prog w = .ok (.enter 107 args) w := enters_of Tryz.func107 (by kernel_rfl) rfl
theorem Tryz.entersM5 : ∀ args w, (callFunc 108 args).run Tryz.prog w = .ok (.enter 108 args) w := enters_of Tryz.func108 (by kernel_rfl) rfl
theorem Tryz.entersM6 : ∀ args w, (callFunc 109 args).run Tryz.prog w = .ok (.enter 109 args) w := enters_of Tryz.func109 (by kernel_rfl) rfl
theorem FStep.kept {lo : Nat} {W V W' : World} {p bb : Nat} {gv sv : Value} {xs : List Value} {ev fv uv : Value} {s s2 : PP} (h : FStep lo p gv sv (FO p bb xs ev fv uv) V W' s2) (hF : Flow lo W p bb gv sv xs ev fv uv s) : ∀ b, W.heap.size ≤ b → b < V.heap.size → W'.heap[b]? = V.heap[b]? := fun b h1 h2 => by
 obtain ⟨_, _, _, _, k⟩ := h;exact k b h2 (hF.far h1)
set_option maxHeartbeats 1000000 in
theorem do_bad (m1 m2 m3 : Int) (hbad : m1 < 1 ∨ 6 < m1) (hm : m1 ≤ 9223372036854775807) (W : World) (p : Nat) :
  Calls Tryz.prog 50 #[.pointer (some ⟨p, 0, none⟩), .agg #[.int .i64 m1, .int .i64 m2, .int .i64 m3]] W fun e w' => e = .returned (.int .i64 1) ∧ Below W.heap.size W w' := by
 have hb0 := below1 W (.cells #[.int .i64 m1, .int .i64 m2, .int .i64 m3] 42);obtain ⟨V, hV⟩ : ∃ V, V = W.alloc (.cells #[.int .i64 m1, .int .i64 m2, .int .i64 m3] 42) := ⟨_, rfl⟩;rw [← hV] at hb0;have HV := hid hV;have M0 := Bx.new (w := W) [.int .i64 m1, .int .i64 m2, .int .i64 m3] 42 rfl;rw [← hV] at M0;clear hV
 by_cases hlow : m1 < 1
 ·have hd : decide (m1 < 1) = true := by simpa using hlow
  clear hbad;go_enter Tryz.func50, Tryz.ntmps50;go_wp2_with fail;rw [← HV.out];refine (moves_is V).mono ?_;rintro e w2 ⟨rfl, hX, hb2⟩;have q0 := (M0.later hb2).c 0 rfl;have hB2 : Below W.heap.size W w2 := hb0.trans (hb2.mono hb0.size);clear hX hb2 M0;go_wp2;go_ret;exact ⟨rfl, hB2⟩
 ·have hd : decide (m1 < 1) = false := by simpa using hlow
  have hw1 : IntKind.i64.wrap (m1 - 1) = m1 - 1 := by rw [IntKind.wrap_i64]; omega
  have hd2 : decide ((6 : Int) ≤ m1 - 1) = true := by simp; omega
  clear hbad;go_enter Tryz.func50, Tryz.ntmps50;go_wp2_with fail;rw [← HV.out];refine (moves_is V).mono ?_;rintro e w2 ⟨rfl, hX, hb2⟩;have q0 := (M0.later hb2).c 0 rfl;have hB2 : Below W.heap.size W w2 := hb0.trans (hb2.mono hb0.size);clear hX hb2 M0;go_wp2;go_ret;exact ⟨rfl, hB2⟩
theorem do_any (lo : Nat) (W : World) (p bb gb goff gc : Nat) (ts : List LNode) (so : Option Addr) (sc : Nat) (src : List Int) (xs : List Value) (ev fv uv : Value) (s : PP) (m1 m2 m3 : Int) (n : Nat) (h : Flow lo W p bb (.slice (some ⟨gb, goff, none⟩) ts.length gc) (.slice so src.length sc) xs ev fv uv s) (hz : DIn dNode lo W (some ⟨gb, goff, none⟩) ts) (hI : kI.In lo W so src) (hrs : ∀ x ∈ src, ∃ j : Nat, j < ts.length ∧ x = (j : Int)) (hsl : src.length ≤ 1000) (hE : EdgesIn (ts.map valNode)) (hcap : ∀ j, j < ts.length → 0 ≤ capP (ts.map valNode) j ∧ capP (ts.map valNode) j ≤ 1000) (hB : BndP ts.length n s) (hn : n ≤ 1000) (hm : m1 ≤ 9223372036854775807) :
  Calls Tryz.prog 50 #[.pointer (some ⟨p, 0, none⟩), .agg #[.int .i64 m1, .int .i64 m2, .int .i64 m3]] W fun e W' => e = .returned (.int .i64 (doR (ts.map valNode) src s m1 m2 m3).1) ∧ FStep lo p (.slice (some ⟨gb, goff, none⟩) ts.length gc) (.slice so src.length sc) (FO p bb xs ev fv uv) W W' (doR (ts.map valNode) src s m1 m2 m3).2 := by
 have hlo : lo ≤ W.heap.size := Nat.le_of_lt (Nat.lt_of_le_of_lt h.lop h.box.size);have hN := hB.len;have hmany : s.bx.length ≤ 10 := by have := hE.many; rw [List.length_map] at this; omega
 have h1 := hB.tot;have h2 := hB.em;have h3 := hB.fu;have h4 := hB.it1;have htr : ∀ k t1 t2 t3 r, el s.bx k = (t1, t2, t3) :: r → 0 ≤ t3 ∧ t3 ≤ 1000 := fun k t1 t2 t3 r hr => by
  have := hB.tr k (t1, t2, t3) (by rw [hr]; simp);dsimp only at this; omega
 by_cases k1 : m1 = 1
 ·subst k1;rw [show doR (ts.map valNode) src s 1 m2 m3 = offerR (ts.map valNode) src s m2 m3 from by simp [doR]];exact do_at _ Tryz.entersM1 1 0 (by simp) rfl W p m2 m3 _ (fun W' => FStep lo p (.slice (some ⟨gb, goff, none⟩) ts.length gc) (.slice so src.length sc) (FO p bb xs ev fv uv) W W' (offerR (ts.map valNode) src s m2 m3).2) fun V hV =>
   (offer_any lo V p bb gb goff gc ts so sc src xs ev fv uv s 1 m2 m3 (h.later hV) hN (hz.below dNode_ok (hV.mono hlo)) (hI.below (hV.mono hlo)) hrs hsl hcap (by omega) hB.it0 (by omega)).mono fun e w' hh => ⟨hh.1, FStep.start h hV hh.2, hh.2.kept h⟩
 by_cases k2 : m1 = 2
 ·subst k2;rw [show doR (ts.map valNode) src s 2 m2 m3 = stepR (ts.map valNode) s m2 from by simp [doR]];exact do_at _ Tryz.entersM2 2 1 (by simp) rfl W p m2 m3 _ (fun W' => FStep lo p (.slice (some ⟨gb, goff, none⟩) ts.length gc) (.slice so src.length sc) (FO p bb xs ev fv uv) W W' (stepR (ts.map valNode) s m2).2) fun V hV =>
   (step_any lo V p bb gb goff gc ts _ xs ev fv uv s 2 m2 m3 (h.later hV) hN (hz.below dNode_ok (hV.mono hlo)) hE hcap (by omega) (by omega) (by omega) hB.ti0 hB.ti1 htr).mono fun e w' hh => ⟨hh.1, FStep.start h hV hh.2, hh.2.kept h⟩
 by_cases k3 : m1 = 3
 ·subst k3;rw [show doR (ts.map valNode) src s 3 m2 m3 = faultR s m2 from by simp [doR]];refine do_at _ Tryz.entersM3 3 2 (by simp) rfl W p m2 m3 _ (fun W' => FStep lo p (.slice (some ⟨gb, goff, none⟩) ts.length gc) (.slice so src.length sc) (FO p bb xs ev fv uv) W W' (faultR s m2).2) fun V hV => ?_
  have hf := fault_any lo V p bb (some ⟨gb, goff, none⟩) gc (.slice so src.length sc) xs ev fv uv s 3 m2 m3 (by rw [hN]; exact h.later hV) hmany (by omega) (by omega) hB.ti0 hB.ti1 htr;rw [hN] at hf;exact hf.mono fun e w' hh => ⟨hh.1, FStep.start h hV hh.2, hh.2.kept h⟩
 by_cases k4 : m1 = 4
 ·subst k4;rw [show doR (ts.map valNode) src s 4 m2 m3 = tickR s m3 from by simp [doR]];exact do_at _ Tryz.entersM4 4 3 (by simp) rfl W p m2 m3 _ (fun W' => FStep lo p (.slice (some ⟨gb, goff, none⟩) ts.length gc) (.slice so src.length sc) (FO p bb xs ev fv uv) W W' (tickR s m3).2) fun V hV =>
   (tick_any lo V p bb _ _ xs ev fv uv s 4 m2 m3 (h.later hV) hB.ti0 hB.ti1).mono fun e w' hh => ⟨hh.1, FStep.start h hV hh.2, hh.2.kept h⟩
 by_cases k5 : m1 = 5
 ·subst k5;rw [show doR (ts.map valNode) src s 5 m2 m3 = drainR s from by simp [doR]];exact do_at _ Tryz.entersM5 5 4 (by simp) rfl W p m2 m3 _ (fun W' => FStep lo p (.slice (some ⟨gb, goff, none⟩) ts.length gc) (.slice so src.length sc) (FO p bb xs ev fv uv) W W' (drainR s).2) fun V hV =>
   (drain_any lo V p bb _ _ xs ev fv uv s 5 m2 m3 (h.later hV)).mono fun e w' hh => ⟨hh.1, FStep.start h hV hh.2, hh.2.kept h⟩
 by_cases k6 : m1 = 6
 ·subst k6;rw [show doR (ts.map valNode) src s 6 m2 m3 = abortR s from by simp [doR]];exact do_at _ Tryz.entersM6 6 5 (by simp) rfl W p m2 m3 _ (fun W' => FStep lo p (.slice (some ⟨gb, goff, none⟩) ts.length gc) (.slice so src.length sc) (FO p bb xs ev fv uv) W W' (abortR s).2) fun V hV =>
   (abort_any lo V p bb _ _ xs ev fv uv s 6 m2 m3 (h.later hV) hmany (by omega)).mono fun e w' hh => ⟨hh.1, FStep.start h hV hh.2, hh.2.kept h⟩
 have hR : doR (ts.map valNode) src s m1 m2 m3 = (1, s) := by simp [doR, k1, k2, k3, k4, k5, k6]
 rw [hR];exact (do_bad m1 m2 m3 (by omega) hm W p).mono fun e w' hh => ⟨hh.1, FStep.same h hh.2⟩
end
section
open Go.RowKit

/-- What moves do one after another: the codes, and what the pipe holds. -/
def playP (gs : List PNode) (src : List Int) (l : List (Int × Int × Int)) (s : PP) : List Int × PP :=
 l.foldl (fun a m => (a.1 ++ [(doR gs src a.2 m.1 m.2.1 m.2.2).1], (doR gs src a.2 m.1 m.2.1 m.2.2).2)) ([], s)
theorem playP_snoc (gs : List PNode) (src : List Int) (l : List (Int × Int × Int)) (m : Int × Int × Int) (s : PP) :
  playP gs src (l ++ [m]) s = ((playP gs src l s).1 ++ [(doR gs src (playP gs src l s).2 m.1 m.2.1 m.2.2).1], (doR gs src (playP gs src l s).2 m.1 m.2.1 m.2.2).2) := by
 rw [playP, List.foldl_append]; rfl
theorem playP_len (gs : List PNode) (src : List Int) (l : List (Int × Int × Int)) (s : PP) : ∀ n, n ≤ l.length → (playP gs src (l.take n) s).1.length = n
 | 0, _ => rfl
 | n + 1, h => by
  rw [take_succ_el (by omega), playP_snoc];simp only [List.length_append, List.length_singleton];rw [playP_len gs src l s n (by omega)]
theorem playP_bnd {gs : List PNode} (src : List Int) (hE : EdgesIn gs) (l : List (Int × Int × Int)) {s : PP} (h : BndP gs.length 0 s) : ∀ n, n ≤ l.length → BndP gs.length n (playP gs src (l.take n) s).2
 | 0, _ => h
 | n + 1, hn => by
  rw [take_succ_el (by omega), playP_snoc];exact (playP_bnd src hE l h n (by omega)).move hE _ _ _
theorem Flow.keep {lo : Nat} {W W' : World} {p bb : Nat} {gv sv : Value} {xs : List Value} {ev fv uv : Value} {s : PP} (h : Flow lo W p bb gv sv xs ev fv uv s) (hs : W.heap.size ≤ W'.heap.size) (hk : ∀ b, FO p bb xs ev fv uv b → W'.heap[b]? = W.heap[b]?) : Flow lo W' p bb gv sv xs ev fv uv s :=
 ⟨h.box.keep hs (hk p (.inl rfl)), h.hnd.keep (hk bb (.inr (.inl rfl))) (fun j hj b hb => hk b (.inr (.inr (.inl ⟨j, by rw [h.hnd.len]; exact hj, hb⟩)))), own_keep h.emo (fun b hb => hk b (.inr (.inr (.inr (.inl hb))))), own_keep h.fao (fun b hb => hk b (.inr (.inr (.inr (.inr (.inl hb)))))), own_keep h.fuo (fun b hb => hk b (.inr (.inr (.inr (.inr (.inr hb)))))), h.lop, h.lob, h.pbb, h.px, h.pe, h.pf, h.pu⟩
end
section
open Go.RowKit

def kMv : Kind (Int × Int × Int) := ⟨42, 24, 3, fun t => [.int .i64 t.1, .int .i64 t.2.1, .int .i64 t.2.2], fun _ => rfl, fun a v h => by simp at h; rcases h with rfl | rfl | rfl <;> rfl⟩
theorem kMv_at {n : Nat} {W : World} {ao : Option Addr} {ts : List (Int × Int × Int)} (h : kMv.In n W ao ts) {k : Nat} (hk : k < ts.length) :
  ∃ b off, ao = some ⟨b, off, none⟩ ∧ b < n ∧ ∀ j, j < ts.length → W.cell? ⟨b, off + j * 3, none⟩ = some (.int .i64 (el ts j).1) ∧ W.cell? ⟨b, off + j * 3 + 1, none⟩ = some (.int .i64 (el ts j).2.1) ∧ W.cell? ⟨b, off + j * 3 + 2, none⟩ = some (.int .i64 (el ts j).2.2) := by
 obtain ⟨b, off, e, hb, hc⟩ := h.pos hk;exact ⟨b, off, e, hb, fun j hj => ⟨hc j hj 0 (by decide), hc j hj 1 (by decide), hc j hj 2 (by decide)⟩⟩
theorem srcP_rng (gs : List PNode) (n : Nat) : ∀ x ∈ srcP gs n, ∃ j : Nat, j < n ∧ x = (j : Int) := fun x hx => by
 have h := (List.mem_filter.1 hx).1;simp only [numsI, List.mem_map, List.mem_range] at h;obtain ⟨j, hj, rfl⟩ := h;exact ⟨j, hj, rfl⟩
/-- The boxes of a good graph are neither too small nor too great. -/
theorem caps_of {gs : List PNode} (h : brk gs 3 = false) : ∀ j, j < gs.length → 0 ≤ capP gs j ∧ capP gs j ≤ 1000 := fun j hj => by
 have := brk_at h hj;simp only [prule, Int.toNat_natCast, Bool.or_eq_false_iff, decide_eq_false_iff_not] at this;rw [capP]; omega
/-- The codes lie apart from the flow, and behind a move too. -/
theorem FStep.codes {lo p : Nat} {gv sv : Value} {W W1 : World} {bb : Nat} {xs : List Value} {ev fv uv : Value} {s : PP} {v : Value} {l : List Int} (h : FStep lo p gv sv (FO p bb xs ev fv uv) W W1 s) (ho : kI.Own lo W v l) (ha : ∀ b, v.ownBlock = some b → ¬ FO p bb xs ev fv uv b) :
  ∃ bb2 xs2 ev2 fv2 uv2, Flow lo W1 p bb2 gv sv xs2 ev2 fv2 uv2 s ∧ kI.Own lo W1 v l ∧ (∀ b, v.ownBlock = some b → ¬ FO p bb2 xs2 ev2 fv2 uv2 b) ∧ Below lo W W1 := by
 obtain ⟨bb2, xs2, ev2, fv2, uv2, F, hk, hb, hn, _⟩ := h.next;refine ⟨bb2, xs2, ev2, fv2, uv2, F, own_keep ho (fun b hb2 => hk b (own_block_lt ho hb2).2 (ha b hb2)), fun b hb2 hO => ?_, hb⟩
 rcases hn b hO with h1 | h1
 ·exact ha b hb2 h1
 ·have := (own_block_lt ho hb2).2; omega
/-- A code is put behind the codes: the flow is as it was. -/
theorem Flow.code {lo : Nat} {W W' : World} {p bb : Nat} {gv sv : Value} {xs : List Value} {ev fv uv : Value} {s : PP} {v v' : Value} (h : Flow lo W p bb gv sv xs ev fv uv s) (ha : ∀ b, v.ownBlock = some b → ¬ FO p bb xs ev fv uv b) (hg : W.grownBy W' v.ownBlock) (hw : ∀ b, v'.ownBlock = some b → v.ownBlock = some b ∨ W.heap.size ≤ b) :
  Flow lo W' p bb gv sv xs ev fv uv s ∧ (∀ b, v'.ownBlock = some b → ¬ FO p bb xs ev fv uv b) := by
 refine ⟨h.keep hg.size fun b hb => hg.block b (h.old hb) (fun e => ha b e.symm hb), fun b hb hO => ?_⟩
 rcases hw b hb with h1 | h1
 ·exact ha b h1 hO
 ·have := h.old hO; omega
end
section
open Go.RowKit

theorem Tryz.info42 : (Tryz.prog.info? 42).map (fun i => (i.zero, i.size, i.bytes)) = some (some (.agg #[.int .i64 0, .int .i64 0, .int .i64 0]), 3, 24) := by kernel_rfl
theorem kMv_ok : kMv.Ok := kind_ok (K := kMv) Tryz.underlying24 Tryz.info42 rfl (by decide) (by decide)
theorem kMv_one {n : Nat} {W : World} {p : Nat} {t : Int × Int × Int} (hp : p < n) (h0 : W.cell? ⟨p, 0, none⟩ = some (.int .i64 t.1)) (h1 : W.cell? ⟨p, 1, none⟩ = some (.int .i64 t.2.1)) (h2 : W.cell? ⟨p, 2, none⟩ = some (.int .i64 t.2.2)) : kMv.In n W (some ⟨p, 0, none⟩) [t] := by
 refine Kind.In.mk1 hp fun i hi => ?_
 rw [Nat.zero_add];have hi' : i < 3 := hi
 rcases (show i = 0 ∨ i = 1 ∨ i = 2 from by omega) with rfl | rfl | rfl
 ·exact h0
 ·exact h1
 ·exact h2
end
section
open Go.RowKit

set_option maxRecDepth 100000 in
set_option maxHeartbeats 8000000 in
theorem value_any (p : Nat) (co : Option Addr) (cap : Nat) (bs : List Int) (k : Nat) (sd : Int) (w : World) (hl : bs.length ≤ 9223372036854775807) (ha : k ≤ 1000000000) (hC : Cur w p co cap bs k sd) :
  Calls Tryz.prog 48 #[.pointer (some ⟨p, 0, none⟩)] w fun e w' => (∃ x, e = .returned (.int .i64 x)) ∧ DrawnG w p co cap bs k 30 w' := by
 have C0 := hid hC;have hR0 := Grew.refl p w;have hpw : p < w.heap.size := hC.1;clear hC;go_enter Tryz.func48, Tryz.ntmps48;go_wp2_with fail;refine (pick_any 20 p co cap bs k sd w hl (by omega) C0.out).mono ?_;rintro e w1 ⟨⟨y, rfl, h0y, h1y⟩, hD⟩;obtain ⟨k1, sd1, hk1, hC1, hg1, hsz1⟩ := hD.grew;have C1 := hid hC1;have hR1 : Grew p w w1 := hR0.trans hg1;have hz1 : w.heap.size ≤ w1.heap.size := hg1.size;clear C0 hD hg1 hC1 hsz1
 by_cases hy0 : y = 0
 case pos =>
  subst hy0;obtain ⟨w2, hV⟩ : ∃ V, V = w1.alloc (.cells #[.int .i64 1000000, .int .i64 (-1000000), .int .i64 1000001, .int .i64 (-1000001)] 3) := ⟨_, rfl⟩;have hY := below1 w1 (.cells #[.int .i64 1000000, .int .i64 (-1000000), .int .i64 1000001, .int .i64 (-1000001)] 3);rw [← hV] at hY;have C2 := hid (C1.out.later hY);have hR2 := hR1.trans (.of_below hY);have hz2 := hY.size;have H2 := hid hV;clear hV hY C1;have XU2 : Hid (Bx w2 w1.heap.size [.int .i64 1000000, .int .i64 (-1000000), .int .i64 1000001, .int .i64 (-1000001)]) := by rw [H2.out]; exact Bx.new [.int .i64 1000000, .int .i64 (-1000000), .int .i64 1000001, .int .i64 (-1000001)] _ rfl
  have hy2 : w1.heap.size < w2.heap.size := XU2.out.size;obtain ⟨u0, uf0, u1, uf1, u2, uf2, u3, uf3, uz⟩ := XU2.out.x4;go_wp2_with fail;clear u0 uf0 u1 uf1 u2 uf2 u3 uf3 uz;rw [← H2.out];clear H2;refine (among_some [1000000, -1000000, 1000001, -1000001] w1.heap.size p co cap bs k1 sd1 w2 hl (by omega) C2.out (by simp) (by simp) XU2.out (by omega)).mono ?_;rintro e w3 ⟨⟨z, rfl⟩, hD⟩;obtain ⟨k3, sd3, hk3, hC3, hg3, hsz3⟩ := hD.grew;have XU3 := hid (XU2.out.grew hg3 (by omega));have C3 := hid hC3;have hR3 : Grew p w w3 := hR2.trans hg3;have hz3 : w2.heap.size ≤ w3.heap.size := hg3.size;clear XU2 C2 hD hg3 hC3 hsz3;go_wp2;go_ret;exact ⟨⟨_, rfl⟩, k3, sd3, by omega, C3.out, hR3⟩
 by_cases hy1 : y = 1
 case pos =>
  subst hy1;go_wp2_with fail;refine (sized_any p co cap bs k1 sd1 w1 hl (by omega) C1.out).mono ?_;rintro e w2 ⟨⟨z, rfl⟩, hD⟩;obtain ⟨k2, sd2, hk2, hC2, hg2, hsz2⟩ := hD.grew;have C2 := hid hC2;have hR2 : Grew p w w2 := hR1.trans hg2;have hz2 : w1.heap.size ≤ w2.heap.size := hg2.size;clear C1 hD hg2 hC2 hsz2;go_wp2;go_ret;exact ⟨⟨_, rfl⟩, k2, sd2, by omega, C2.out, hR2⟩
 have ey0 : (y == 0) = false := by simpa using hy0
 have ey1 : (y == 1) = false := by simpa using hy1
 go_wp2_with fail;refine (pick_any 60 p co cap bs k1 sd1 w1 hl (by omega) C1.out).mono ?_;rintro e w2 ⟨⟨z, rfl, h0z, h1z⟩, hD⟩;obtain ⟨k2, sd2, hk2, hC2, hg2, hsz2⟩ := hD.grew;have C2 := hid hC2;have hR2 : Grew p w w2 := hR1.trans hg2;have hz2 : w1.heap.size ≤ w2.heap.size := hg2.size;clear C1 hD hg2 hC2 hsz2;go_wp2;go_ret;exact ⟨⟨_, rfl⟩, k2, sd2, by omega, C2.out, hR2⟩
end
end Go.Proofs.YtllmpinmbajpgaaGreatDoor
