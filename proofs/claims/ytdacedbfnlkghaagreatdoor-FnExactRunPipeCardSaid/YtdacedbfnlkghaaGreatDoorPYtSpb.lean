
/- An offer. No conditions but those written. A step of a node. No conditions but those written. A move: the program. No conditions but those written. Moves one after another, plainly; a flow where its blocks are as they were. No conditions but those written. Moves one after another: the program (under way). No conditions but those written. Moves played on a new pipe: the program. No conditions but those written. What holds of a pipe that plays on a good graph, plainly. No conditions but those written. -/
import Derived.Test.YtdacedbfnlkghaaGreatDoorPWyYs
import Derived.Test.YtdacedbfnlkghaaGreatDoorPWxRd
namespace Go.Proofs.YtdacedbfnlkghaaGreatDoor
section
open Go.RowKit

set_option maxRecDepth 100000 in
set_option maxHeartbeats 2000000 in
theorem offer_any (lo : Nat) (W : World) (p bb gb goff gc : Nat) (ts : List LNode) (so : Option Addr) (sc : Nat) (src : List Int) (xs : List Value) (ev fv uv : Value) (s : PP) (m1 m2 m3 : Int) (h : Flow lo W p bb (.slice (some ⟨gb, goff, none⟩) ts.length gc) (.slice so src.length sc) xs ev fv uv s) (hn : s.bx.length = ts.length) (hz : DIn dNode lo W (some ⟨gb, goff, none⟩) ts) (hI : kI.In lo W so src) (hrs : ∀ x ∈ src, ∃ j : Nat, j < ts.length ∧ x = (j : Int)) (hsl : src.length ≤ 1000) (hcap : ∀ j, j < ts.length → 0 ≤ capP (ts.map valNode) j ∧ capP (ts.map valNode) j ≤ 1000) (ht : totT s.bx ≤ 100000) (hi0 : 0 ≤ s.it) (hi1 : s.it ≤ 1000000) :
  Calls Tryz.prog 247 #[.pointer (some ⟨p, 0, none⟩), .agg #[.int .i64 m1, .int .i64 m2, .int .i64 m3]] W fun e W' => e = .returned (.int .i64 (offerR (ts.map valNode) src s m2 m3).1) ∧ FStep lo p (.slice (some ⟨gb, goff, none⟩) ts.length gc) (.slice so src.length sc) (FO p bb xs ev fv uv) W W' (offerR (ts.map valNode) src s m2 m3).2 := by
 have hb0 := below1 W (.cells #[.int .i64 m1, .int .i64 m2, .int .i64 m3] 127);have hlo : lo ≤ W.heap.size := Nat.le_of_lt (Nat.lt_of_le_of_lt h.lop h.box.size);have F0 := h.later hb0;have hp := h.box.size;obtain ⟨V, hV⟩ : ∃ V, V = W.alloc (.cells #[.int .i64 m1, .int .i64 m2, .int .i64 m3] 127) := ⟨_, rfl⟩;rw [← hV] at hb0 F0;have HF0 := hid F0;have HB0 := hid hb0;have HV := hid hV;have M0 := Bx.new (w := W) [.int .i64 m1, .int .i64 m2, .int .i64 m3] 127 rfl;rw [← hV] at M0;have b1 := M0.c 1 rfl;have b2 := M0.c 2 rfl;have c1 := F0.box.c 1 rfl;have HM0 := hid M0;have HCN : Hid (∀ b, hasB src m2 = b → ∀ n, Calls Tryz.prog 200 #[.slice so src.length sc, .int .i64 m2] (V.drewN n) fun e w' => e = .returned (.bool b) ∧ w' = V.drewN n) := fun b hb n =>
  contains_is lo so sc src m2 _ b (by omega) (hI.below (below_draws (hb0.mono hlo) n)) hb
 have HVL : Hid (∀ b, valB m3 = b → ∀ n, Calls Tryz.prog 186 #[.int .i64 m3] (V.drewN n) fun e w' => e = .returned (.bool b) ∧ w' = V.drewN n) := fun b hb n => isValue_is m3 _ b hb
 clear hV hb0 M0 F0 hI
 rcases hh : hasB src m2 with _ | _
 ·have HR : Hid (offerR (ts.map valNode) src s m2 m3 = (2, s)) := by rw [Hid, offerR, if_neg (by rw [hh]; simp)]
  have HC := hid (HCN.out _ hh);clear hh HCN HVL;go_enter Tryz.func247, Tryz.ntmps247;go_wp2_with fail;rw [← HV.out]
  go_quiet (exact Calls.quiet_of_same (HC.out _))
  go_wp2;go_ret;rw [HR.out];exact ⟨rfl, FStep.same h (below_draws HB0.out _)⟩
 rcases hv : valB m3 with _ | _
 ·have HR : Hid (offerR (ts.map valNode) src s m2 m3 = (2, s)) := by rw [Hid, offerR, if_neg (by rw [hv]; simp)]
  have HC := hid (HCN.out _ hh);have HL := hid (HVL.out _ hv);clear hh HCN HVL hv;go_enter Tryz.func247, Tryz.ntmps247;go_wp2_with fail;rw [← HV.out]
  go_quiet (first | exact Calls.quiet_of_same (HC.out _) | exact Calls.quiet_of_same (HL.out _))
  go_wp2;go_ret;rw [HR.out];exact ⟨rfl, FStep.same h (below_draws HB0.out _)⟩
 have HC := hid (HCN.out _ hh);have HL := hid (HVL.out _ hv);have hin : hasB src m2 = true ∧ valB m3 = true := ⟨hh, hv⟩;obtain ⟨k, hk, rfl⟩ := hrs m2 (by simpa [hasB] using hh);clear hh HCN HVL hv;have c4 := HF0.out.box.c 4 rfl
 rcases hcl : s.cl with _ | _
 case true =>
  have HR : Hid (offerR (ts.map valNode) src s (k : Int) m3 = (3, s)) := by rw [Hid, offerR, if_pos hin, if_pos hcl]
  rw [hcl] at c4;clear hin;go_enter Tryz.func247, Tryz.ntmps247;go_wp2_with fail;rw [← HV.out]
  go_quiet (first | exact Calls.quiet_of_same (HC.out _) | exact Calls.quiet_of_same (HL.out _))
  go_wp2;go_ret;rw [HR.out];exact ⟨rfl, FStep.same h (below_draws HB0.out _)⟩
 rw [hcl] at c4;obtain ⟨b, off, e, hb, hc⟩ := hNode_at hz.1 hk;obtain ⟨rfl, rfl⟩ : gb = b ∧ goff = off := by simp at e; exact e
 have hcp : capP (ts.map valNode) k = (el ts k).2.2.2.2.1 := by rw [capP, el_val hk]; rfl
 have g4 := (hc k hk).2.2.2.2.1;rw [← hcp] at g4;have hck := hcap k hk;have HRM : Hid (∀ n, Calls Tryz.prog 263 #[.pointer (some ⟨p, 0, none⟩), .int .i64 (k : Int)] (V.drewN n) fun e w' => e = .returned (.int .i64 (capP (ts.map valNode) k - (el s.bx k).length)) ∧ w' = (V.drewN n).drew) := fun n =>
  roomAt_any lo (V.drewN n) p bb gb goff ts.length gc _ xs ev fv uv s k _ (HF0.out.later (below_draws (Below.refl _ _) n)) (by omega) hk ((below_draws HB0.out n).cell (p := ⟨gb, goff + k * 6 + 4, none⟩) (by dsimp only; omega) |>.trans g4) hck.1 hck.2 ht
 by_cases hrm : capP (ts.map valNode) k - ((el s.bx k).length : Int) < 1
 ·have HR : Hid (offerR (ts.map valNode) src s (k : Int) m3 = (4, s)) := by rw [Hid, offerR, if_pos hin, if_neg (by simp [hcl]), Int.toNat_natCast, if_pos hrm]
  have hd : decide (capP (ts.map valNode) k - ((el s.bx k).length : Int) < 1) = true := by simpa using hrm
  generalize capP (ts.map valNode) k - ((el s.bx k).length : Int) = q at HRM hd
  clear hin hrm hc hck hcp g4 hcap;go_enter Tryz.func247, Tryz.ntmps247;go_wp2_with fail;rw [← HV.out]
  go_quiet (first | exact Calls.quiet_of_same (HC.out _) | exact Calls.quiet_of_same (HL.out _))
  go_wp2_with fail;refine (HRM.out _).mono ?_;rintro e w2 ⟨rfl, hw2⟩;rw [hw2]; clear hw2 w2
  go_wp2;go_ret;rw [HR.out];exact ⟨rfl, FStep.same h ((below_draws HB0.out _).drew)⟩
 ·have HR : Hid (offerR (ts.map valNode) src s (k : Int) m3 = (0, { s with bx := s.bx.set k (el s.bx k ++ [(s.it, m3, 0)]), it := s.it + 1 })) := by rw [Hid, offerR, if_pos hin, if_neg (by simp [hcl]), Int.toNat_natCast, if_neg hrm]
  have hd : decide (capP (ts.map valNode) k - ((el s.bx k).length : Int) < 1) = false := by simpa using hrm
  generalize capP (ts.map valNode) k - ((el s.bx k).length : Int) = q at HRM hd
  clear hin hrm hc hck hcp g4 hcap;go_enter Tryz.func247, Tryz.ntmps247;go_wp2_with fail;rw [← HV.out]
  go_quiet (first | exact Calls.quiet_of_same (HC.out _) | exact Calls.quiet_of_same (HL.out _))
  go_wp2_with fail;refine (HRM.out _).mono ?_;rintro e w2 ⟨rfl, hw2⟩;have hB2 : Below W.heap.size W w2 := by rw [hw2]; exact (below_draws HB0.out _).drew
  have F2 : Flow lo w2 p bb (.slice (some ⟨gb, goff, none⟩) ts.length gc) (.slice so src.length sc) xs ev fv uv s := h.later hB2;have M2 : Bx w2 W.heap.size [.int .i64 m1, .int .i64 (k : Int), .int .i64 m3] := by rw [hw2]; exact (HM0.out.later (below_draws (Below.refl _ _) _)).drew
  clear hw2 HRM c4 c1 b1 b2 HM0;have P0 : w2.cell? ⟨p, 3, none⟩ = some (.int .i64 s.it) ∧ w2.cell? ⟨W.heap.size, 1, none⟩ = some (.int .i64 (k : Int)) ∧ w2.cell? ⟨W.heap.size, 2, none⟩ = some (.int .i64 m3) := ⟨F2.box.c 3 rfl, M2.c 1 rfl, M2.c 2 rfl⟩;have HPU := hid ((put_any lo w2.drew p bb _ _ xs ev fv uv s k s.it m3 0 (F2.later (Below.refl _ _).drew) (by omega) ht).mono fun e w3 hh => And.intro hh (show w3.cell? ⟨p, 3, none⟩ = some (.int .i64 s.it) ∧ w3.cell? ⟨W.heap.size, 1, none⟩ = some (.int .i64 (k : Int)) ∧ w3.cell? ⟨W.heap.size, 2, none⟩ = some (.int .i64 m3) from by
   obtain ⟨_, hs3⟩ := hh;obtain ⟨bb3, xs3, ev3, fv3, uv3, F3, hk3, _, _, _⟩ := hs3.next;have hkm := hk3 W.heap.size M2.size (h.far (Nat.le_refl _));exact ⟨F3.box.c 3 rfl, (World.cell?_of_block (a := ⟨W.heap.size, 1, none⟩) hkm).trans P0.2.1, (World.cell?_of_block (a := ⟨W.heap.size, 2, none⟩) hkm).trans P0.2.2⟩))
  clear F2 M2;have PD : w2.drew.cell? ⟨p, 3, none⟩ = some (.int .i64 s.it) ∧ w2.drew.cell? ⟨W.heap.size, 1, none⟩ = some (.int .i64 (k : Int)) ∧ w2.drew.cell? ⟨W.heap.size, 2, none⟩ = some (.int .i64 m3) := P0;go_wp2_with fail
  go_region_held3 (fun Y => Y.cell? ⟨p, 3, none⟩ = some (.int .i64 s.it) ∧ Y.cell? ⟨W.heap.size, 1, none⟩ = some (.int .i64 (k : Int)) ∧ Y.cell? ⟨W.heap.size, 2, none⟩ = some (.int .i64 m3))
   (first | (with_reducible exact P0) | (with_reducible exact PD) | (with_reducible exact P3))
   ((go_at_call 266; refine HPU.out.mono ?_; rintro e w3 ⟨⟨⟨v3, rfl⟩, hs3⟩, P3⟩))
  all_goals
   have HS : Hid (FStep lo p (.slice (some ⟨gb, goff, none⟩) ts.length gc) (.slice so src.length sc) (FO p bb xs ev fv uv) W w3 { s with bx := s.bx.set k (el s.bx k ++ [(s.it, m3, 0)]) }) := FStep.start h hB2.drew hs3;obtain ⟨bb3, xs3, ev3, fv3, uv3, F3, _, _, _, hgo⟩ := HS.out.next;have r3 := F3.box.c 3 rfl;have f3 := F3.box.f 3 rfl;have hw3 : IntKind.i64.wrap (s.it + 1) = s.it + 1 := by rw [IntKind.wrap_i64]; omega
   have HN := hid (hgo w3 _ _ (Below.refl _ _) (F3.putIt (s.it + 1)));clear hgo F3 HS hs3 P0 PD P3 HPU;dsimp only at r3;go_wp2;go_ret;rw [HR.out];exact ⟨rfl, HN.out⟩
end
section
open Go.RowKit

theorem stepR_at {gs : List PNode} {s : PP} {k : Nat} {t1 t2 t3 : Int} {r : List (Int × Int × Int)} {out : List Int} {fl ok : Bool} (hk : k < s.bx.length) (hbx : el s.bx k = (t1, t2, t3) :: r) (hA : stApp gs k t2 = (out, fl, ok)) :
  stepR gs s (k : Int) = if fl = true then (0, failP s k t1 t2 t3 r) else if blkP gs s.bx k (out.length : Int) = true then (6, s) else (0, leadAll gs k t1 out { s with bx := s.bx.set k r }) := by
 rw [stepR, if_pos ⟨by omega, by omega⟩, Int.toNat_natCast, hbx];dsimp only;rw [hA]
set_option maxRecDepth 100000 in
set_option maxHeartbeats 2000000 in
theorem step_any (lo : Nat) (W : World) (p bb gb goff gc : Nat) (ts : List LNode) (sv : Value) (xs : List Value) (ev fv uv : Value) (s : PP) (m1 m2 m3 : Int) (h : Flow lo W p bb (.slice (some ⟨gb, goff, none⟩) ts.length gc) sv xs ev fv uv s) (hn : s.bx.length = ts.length) (hz : DIn dNode lo W (some ⟨gb, goff, none⟩) ts) (hE : EdgesIn (ts.map valNode)) (hcap : ∀ j, j < ts.length → 0 ≤ capP (ts.map valNode) j ∧ capP (ts.map valNode) j ≤ 1000) (ht : totT s.bx + s.fa.length + 100 ≤ 100000) (hem : s.em.length + 100 ≤ 1000000) (hfu : s.fu.length ≤ 100) (h0 : 0 ≤ s.ti) (h1 : s.ti ≤ 1000000) (htr : ∀ k t1 t2 t3 r, el s.bx k = (t1, t2, t3) :: r → 0 ≤ t3 ∧ t3 ≤ 1000) :
  Calls Tryz.prog 208 #[.pointer (some ⟨p, 0, none⟩), .agg #[.int .i64 m1, .int .i64 m2, .int .i64 m3]] W fun e W' => e = .returned (.int .i64 (stepR (ts.map valNode) s m2).1) ∧ FStep lo p (.slice (some ⟨gb, goff, none⟩) ts.length gc) sv (FO p bb xs ev fv uv) W W' (stepR (ts.map valNode) s m2).2 := by
 have hb0 := below1 W (.cells #[.int .i64 m1, .int .i64 m2, .int .i64 m3] 127);have hlo : lo ≤ W.heap.size := Nat.le_of_lt (Nat.lt_of_le_of_lt h.lop h.box.size);have F0 := h.later hb0;have hp := h.box.size;obtain ⟨V, hV⟩ : ∃ V, V = W.alloc (.cells #[.int .i64 m1, .int .i64 m2, .int .i64 m3] 127) := ⟨_, rfl⟩;rw [← hV] at hb0 F0;have HF0 := hid F0;have HB0 := hid hb0;have HV := hid hV;have M0 := Bx.new (w := W) [.int .i64 m1, .int .i64 m2, .int .i64 m3] 127 rfl;rw [← hV] at M0;have b1 := M0.c 1 rfl;have hfc := firstCode_any lo V p bb (some ⟨gb, goff, none⟩) gc sv xs ev fv uv s m2 (by rw [hn]; exact F0);have HFC := hid hfc;clear hfc
 by_cases hin : 0 ≤ m2 ∧ m2 < s.bx.length
 ·obtain ⟨k, rfl⟩ : ∃ k : Nat, m2 = (k : Int) := ⟨m2.toNat, by omega⟩;have hk : k < s.bx.length := by omega
  cases hbx : el s.bx k with
  | nil =>
   have HR : Hid (stepR (ts.map valNode) s (k : Int) = (5, s)) := by rw [Hid, stepR, if_pos hin, Int.toNat_natCast, hbx]
   have h5 : firstR s (k : Int) = 5 := by rw [firstR, if_pos hin, Int.toNat_natCast, hbx]; rfl
   rw [h5] at HFC;clear F0 hin h5 hV hb0 M0;go_enter Tryz.func208, Tryz.ntmps208;go_wp2_with fail;rw [← HV.out];refine HFC.out.mono ?_;rintro e w2 ⟨rfl, hw2⟩;rw [hw2]; clear hw2 w2
   go_wp2;go_ret;rw [HR.out];exact ⟨rfl, FStep.same h HB0.out⟩
  | cons t r =>
   obtain ⟨t1, t2, t3⟩ := t;have hkt : k < ts.length := by omega
   have h5 : firstR s (k : Int) = 0 := by rw [firstR, if_pos hin, Int.toNat_natCast, hbx]; rfl
   rw [h5] at HFC;obtain ⟨ho, hc, hsl, hcn, hFr⟩ := F0.hnd.slice hk;rw [hbx] at hsl hFr;obtain ⟨g, rfl, hg1, hg2, hg3, hgo⟩ := hFr.at (by simp);simp only [List.length_cons] at hsl;have c5 := F0.box.c 5 rfl;have c0 := F0.box.c 0 rfl;have ck := (F0.head hk).1;rw [hsl] at ck;have hki : (k : Int) < (s.bx.length : Int) := by omega
   have hkg : (k : Int) < (ts.length : Int) := by omega
   have hr1 : (0 : Int) < ((r.length + 1 : Nat) : Int) := by omega
   obtain ⟨b0, off0, e0, hbl, hcs⟩ := kTk_at hFr.in (k := 0) (by simp)
   simp at e0
   obtain ⟨rfl, rfl⟩ := e0;obtain ⟨d0, d1, d2⟩ := hcs 0 (by simp);have P0 : V.cell? ⟨p, 5, none⟩ = some (.slice (some ⟨bb, 0, none⟩) s.bx.length s.bx.length) ∧ V.cell? ⟨W.heap.size, 1, none⟩ = some (.int .i64 (k : Int)) ∧ V.cell? ⟨bb, k, none⟩ = some (.slice (some ⟨g, 0, none⟩) (r.length + 1) hc) ∧ V.cell? ⟨g, 0, none⟩ = some (.int .i64 t1) ∧ V.cell? ⟨g, 1, none⟩ = some (.int .i64 t2) ∧ V.cell? ⟨g, 2, none⟩ = some (.int .i64 t3) := ⟨c5, b1, ck, d0, d1, d2⟩;have hn1 := World.new_ne V ⟨p, 5, none⟩ c5;have hn2 := World.new_ne V ⟨W.heap.size, 1, none⟩ b1;have hn3 := World.new_ne V ⟨bb, k, none⟩ ck;have hn4 := World.new_ne V ⟨g, 0, none⟩ d0;have HM0 := hid M0;obtain ⟨b9, off9, e9, hb9, hc9⟩ := hNode_at hz.1 hkt;obtain ⟨rfl, rfl⟩ : gb = b9 ∧ goff = off9 := by simp at e9; exact e9
   obtain ⟨_, c1, c2, c3, _, _⟩ := hc9 k hkt;have hst : stApp (ts.map valNode) k t2 = appR (el ts k).2.1 (el ts k).2.2.1 (el ts k).2.2.2.1 t2 := by rw [stApp, el_val hkt]; rfl
   obtain ⟨⟨nm, kd, sa, sb, cp, ⟨nxo, nxc, nx⟩⟩, ex⟩ : ∃ v, v = el ts k := ⟨_, rfl⟩;rw [← ex] at c1 c2 c3 hst;dsimp only at c1 c2 c3 hst;have HAP := implApp_any kd sa sb t2;have hol := appR_len kd sa sb t2
   rcases hA : appR kd sa sb t2 with ⟨out, fl, ok⟩
   rw [hA] at hst HAP hol;dsimp only at hol;have HRS := hid (stepR_at hk hbx hst);have HAPP := hid HAP;have HC1 := hid (And.intro c1 (And.intro c2 c3));clear ex hc9 e9 hst HAP hA c1 c2 c3;have HP0 := hid P0;clear F0 hin h5 hV hb0 M0 ck d0 d1 d2 hcs hFr c0 c5;go_enter Tryz.func208, Tryz.ntmps208;go_wp2_with fail;rw [← HV.out];refine HFC.out.mono ?_;rintro e w2 ⟨rfl, hw2⟩;rw [hw2]; clear hw2 w2 HFC
   go_wp2_with fail
   go_region_held3 (fun Y => Y.cell? ⟨p, 5, none⟩ = some (.slice (some ⟨bb, 0, none⟩) s.bx.length s.bx.length) ∧ Y.cell? ⟨W.heap.size, 1, none⟩ = some (.int .i64 (k : Int)) ∧ Y.cell? ⟨bb, k, none⟩ = some (.slice (some ⟨g, 0, none⟩) (r.length + 1) hc) ∧ Y.cell? ⟨g, 0, none⟩ = some (.int .i64 t1) ∧ Y.cell? ⟨g, 1, none⟩ = some (.int .i64 t2) ∧ Y.cell? ⟨g, 2, none⟩ = some (.int .i64 t3))
    (first | (with_reducible exact P0) | go_keep) (fail)
   rename_i hHeld;clear hHeld;obtain ⟨X, hX⟩ : ∃ X, X = (V.alloc (.cells #[.int .i64 t1, .int .i64 t2, .int .i64 t3] 163)).drew := ⟨_, rfl⟩;rw [← hX];have hbX : Below V.heap.size V X := by rw [hX]; exact (below1 _ _).drew
   have TX : Bx X V.heap.size [.int .i64 t1, .int .i64 t2, .int .i64 t3] := by rw [hX]; exact (Bx.new [.int .i64 t1, .int .i64 t2, .int .i64 t3] _ rfl).drew
   have hBX : Below W.heap.size W X := HB0.out.trans (hbX.mono HB0.out.size);have hVW : W.heap.size ≤ V.heap.size := HB0.out.size;have hVX : V.heap.size < X.heap.size := TX.size;have HS : Hid (∀ Y, Below X.heap.size X Y → Y.cell? ⟨p, 0, none⟩ = some (.slice (some ⟨gb, goff, none⟩) ts.length gc) ∧ Y.cell? ⟨W.heap.size, 1, none⟩ = some (.int .i64 (k : Int)) ∧ Y.cell? ⟨gb, goff + k * 6 + 1, none⟩ = some (.int .i64 kd) ∧ Y.cell? ⟨gb, goff + k * 6 + 2, none⟩ = some (.int .i64 sa) ∧ Y.cell? ⟨gb, goff + k * 6 + 3, none⟩ = some (.int .i64 sb) ∧ Y.cell? ⟨V.heap.size, 1, none⟩ = some (.int .i64 t2)) := fun Y hY => by
    have hBY := hBX.trans (hY.mono hBX.size);have F := h.later hBY;have M := HM0.out.later (hbX.trans (hY.mono hbX.size));have T := TX.later hY;exact ⟨F.box.c 0 rfl, M.c 1 rfl, (hBY.cell (p := ⟨gb, goff + k * 6 + 1, none⟩) (by dsimp only; omega)).trans HC1.out.1, (hBY.cell (p := ⟨gb, goff + k * 6 + 2, none⟩) (by dsimp only; omega)).trans HC1.out.2.1, (hBY.cell (p := ⟨gb, goff + k * 6 + 3, none⟩) (by dsimp only; omega)).trans HC1.out.2.2, T.c 1 rfl⟩
   have PU := HS.out X (Below.refl _ _);have PE := HS.out X.drew (Below.refl _ _).drew;have HAC := hid (HAPP.out X.drew);have HBX := hid hBX;have HTX := hid TX;have HbX := hid hbX;clear hX hbX TX hBX P0 b1 HAPP;go_wp2_with fail
   go_region_held3 (fun Y => Y.cell? ⟨p, 0, none⟩ = some (.slice (some ⟨gb, goff, none⟩) ts.length gc) ∧ Y.cell? ⟨W.heap.size, 1, none⟩ = some (.int .i64 (k : Int)) ∧ Y.cell? ⟨gb, goff + k * 6 + 1, none⟩ = some (.int .i64 kd) ∧ Y.cell? ⟨gb, goff + k * 6 + 2, none⟩ = some (.int .i64 sa) ∧ Y.cell? ⟨gb, goff + k * 6 + 3, none⟩ = some (.int .i64 sb) ∧ Y.cell? ⟨V.heap.size, 1, none⟩ = some (.int .i64 t2))
    (first | (with_reducible exact PU) | (with_reducible exact PE) | (with_reducible exact P3))
    ((go_at_call 237; refine HAC.out.mono ?_; rintro e w3 ⟨⟨o, c, rfl, hoc, hfr⟩, hb3⟩; have P3 := HS.out w3 ((Below.refl _ _).drew.trans hb3)))
   have B3 : Below W.heap.size W w3 := HBX.out.trans ((((Below.refl _ _).drew).trans hb3).mono HBX.out.size);have F3 := h.later B3;have q1 := P3.2.1;have hX3 : X.heap.size ≤ w3.heap.size := hb3.size;have T3 := HTX.out.later (((Below.refl _ _).drew).trans hb3);have M3 := HM0.out.later (HbX.out.trans ((((Below.refl _ _).drew).trans hb3).mono HbX.out.size));have hmany : s.bx.length ≤ 10 := by have := hE.many; rw [List.length_map] at this; omega
   have HM3 := hid M3;have HT3 := hid T3;have HF3 := hid F3;have HB3 := hid B3;have HFR := hid hfr;clear PU PE P3 HS HAC M3 T3 F3 B3 hfr hb3
   try dsimp only
   cases fl
   case true =>
    have HRf : Hid (stepR (ts.map valNode) s (k : Int) = (0, failP s k t1 t2 t3 r)) := HRS.out.trans (if_pos rfl);have hb9 := htr k t1 t2 t3 r hbx;have HFF := hid (failFirst_any lo w3 p bb _ sv xs ev fv uv s k t1 t2 t3 r HF3.out hk hbx hmany (by omega) hfu h0 h1 hb9.1 hb9.2);go_wp2_with fail;refine HFF.out.mono ?_;rintro e w4 ⟨⟨v4, rfl⟩, hs4⟩;have HS4 := hid (FStep.start h HB3.out hs4);clear hs4;go_wp2;go_ret;rw [HRf.out];exact ⟨rfl, HS4.out⟩
   case false =>
    have HIB := hid (isBlocked_any lo w3 p bb gb goff gc ts sv xs ev fv uv s k (out.length : Int) HF3.out hn hkt (Nat.le_trans hlo HB3.out.size) (hz.below dNode_ok (HB3.out.mono hlo)) hE hcap (by omega));have HR1 := hid (HRS.out.trans (if_neg (by simp)))
    rcases hbk : blkP (ts.map valNode) s.bx k (out.length : Int) with _ | _
    case true =>
     rw [hbk] at HIB;go_wp2_with fail;refine HIB.out.mono ?_;rintro e w4 ⟨rfl, hb4⟩;have HB4 := hid (HB3.out.trans (hb4.mono HB3.out.size));clear hb4;go_wp2;go_ret;rw [HR1.out, if_pos hbk];exact ⟨rfl, FStep.same h HB4.out⟩
    case false =>
     rw [hbk] at HIB;have HR2 := hid (HR1.out.trans (if_neg (by rw [hbk]; simp)));clear HR1 HRS hbk;go_wp2_with fail;refine HIB.out.mono ?_;rintro e w4 ⟨rfl, hb4⟩;have HB4 := hid (HB3.out.trans (hb4.mono HB3.out.size));have HM4 := hid (HM3.out.later hb4);have HT4 := hid (HT3.out.later hb4);have q4 := HM4.out.c 1 rfl;have h34 := hb4.size;have Hb4 := hid hb4;have HTK := hid (take_any lo w4 p bb _ sv xs ev fv uv s k t1 t2 t3 r (h.later HB4.out) hk hbx (by omega));have hs0 := totT_set (ls := s.bx) (k := k) r hk;rw [hbx, List.length_cons] at hs0;clear hb4 HIB q1 HF3;go_wp2_with fail;refine HTK.out.mono ?_;rintro e w5 ⟨rfl, hs5⟩;obtain ⟨s1, hs1⟩ : ∃ s1 : PP, s1 = { s with bx := s.bx.set k r } := ⟨_, rfl⟩;rw [← hs1] at hs5 HR2;have e1 : s1.bx.length = ts.length := by rw [hs1]; exact (List.length_set ..).trans hn
     have e2 : totT s1.bx + 1 = totT s.bx := by rw [hs1]; show totT (s.bx.set k r) + 1 = _; omega
     have e3 : s1.em.length = s.em.length := by rw [hs1]
     have HS5 := hid hs5;clear hs5 HTK hs1;go_wp2
     go_loopw [63] (fun i wr => ∃ m : Nat, m ≤ out.length ∧ i = .int .i64 (m : Int) ∧ Hid (FStep lo p (.slice (some ⟨gb, goff, none⟩) ts.length gc) sv (FO p bb xs ev fv uv) w4 wr (leadAll (ts.map valNode) k t1 (out.take m) s1))) (fun i _ => out.length - (intOf i).toNat)
     case atStart => exact ⟨0, Nat.zero_le _, rfl, HS5⟩
     case round =>
      obtain ⟨m, hm, rfl, hS⟩ := hrel
      by_cases hlt : m < out.length
      ·obtain ⟨bb2, xs2, ev2, fv2, uv2, F2, hk2, hB2, _, hgo⟩ := hS.out.next;have km := hk2 W.heap.size HM4.out.size (h.far (Nat.le_refl _));have kt := hk2 V.heap.size HT4.out.size (h.far hVW);have qm1 := (World.cell?_of_block (a := ⟨W.heap.size, 1, none⟩) km).trans (HM4.out.c 1 rfl);have t0 := (World.cell?_of_block (a := ⟨V.heap.size, 0, none⟩) kt).trans (HT4.out.c 0 rfl);obtain ⟨g2, eg2, hg4, hg5, hg6, _⟩ := HFR.out.at (by omega);obtain ⟨nb, noff, eo, hnb, hnc⟩ := ints_at HFR.out.in hlt;obtain ⟨rfl, rfl⟩ : g2 = nb ∧ 0 = noff := by rw [eg2] at eo; simp at eo; exact eo
       have kn := hk2 g2 (by omega) (h.far (Nat.le_trans hVW (Nat.le_trans (Nat.le_of_lt hVX) hg4)));have cm := (World.cell?_of_block (a := ⟨g2, 0 + m, none⟩) kn).trans ((Hb4.out.cell (p := ⟨g2, 0 + m, none⟩) hnb).trans (hnc m hlt));rw [Nat.zero_add] at cm;have HT := hid (take_succ_el hlt);have a1 := leadAll_len (ts.map valNode) k t1 (out.take m) s1;have a2 := leadAll_tot t1 (by rw [List.length_map]; exact hkt) hE (out.take m) s1 (by rw [List.length_map]; exact e1);have a3 := leadAll_em (ts.map valNode) k t1 (out.take m) s1;have hlm : (out.take m).length = m := by simp; omega
       have HLD := hid (lead_any lo wr p bb2 gb goff gc ts sv xs2 ev2 fv2 uv2 _ k t1 (el out m) F2 (a1.trans e1) hkt (hz.below dNode_ok ((HB4.out.mono hlo).trans hB2)) hE (by omega) (by omega));have HN : Hid (∀ w2, FStep lo p (.slice (some ⟨gb, goff, none⟩) ts.length gc) sv (FO p bb2 xs2 ev2 fv2 uv2) wr w2 (leadR (ts.map valNode) (leadAll (ts.map valNode) k t1 (out.take m) s1) k t1 (el out m)) → Hid (FStep lo p (.slice (some ⟨gb, goff, none⟩) ts.length gc) sv (FO p bb xs ev fv uv) w4 w2 (leadAll (ts.map valNode) k t1 (out.take (m + 1)) s1))) := fun w2 h2 => by
        rw [HT.out, leadAll_snoc];exact hgo _ _ _ (Below.refl _ _) h2
       subst eg2;clear hgo F2 hS a1 a2 a3 hlm km kt kn hk2 hnc q4;go_wp2_with fail;refine HLD.out.mono ?_;rintro e w6 ⟨⟨u6, rfl⟩, h6⟩;have H6 := HN.out w6 h6;clear h6 HN HLD;go_wp2;go_roundw
       case rel => exact ⟨m + 1, by omega, by go_num, H6⟩
       case measure => simp [intOf]; omega
      ·obtain rfl : m = out.length := by omega
       rw [List.take_length] at hS;go_wp2;go_ret;rw [HR2.out];exact ⟨rfl, FStep.start h HB4.out hS.out⟩
 ·have HR : Hid (stepR (ts.map valNode) s m2 = (2, s)) := by rw [Hid, stepR, if_neg hin]
  have h5 : firstR s m2 = 2 := by rw [firstR, if_neg hin]
  rw [h5] at HFC;clear F0 hin h5 hV hb0 M0;go_enter Tryz.func208, Tryz.ntmps208;go_wp2_with fail;rw [← HV.out];refine HFC.out.mono ?_;rintro e w2 ⟨rfl, hw2⟩;rw [hw2]; clear hw2 w2
  go_wp2;go_ret;rw [HR.out];exact ⟨rfl, FStep.same h HB0.out⟩
end
section
open Go.RowKit

theorem Tryz.entersM1 : ∀ args w, (callFunc 247 args).run Tryz.prog w = .ok (.enter 247 args) w := enters_of Tryz.func247 (by kernel_rfl) rfl
theorem Tryz.entersM2 : ∀ args w, (callFunc 208 args).run Tryz.prog w = .ok (.enter 208 args) w := enters_of Tryz.func208 (by kernel_rfl) rfl
theorem Tryz.entersM3 : ∀ args w, (callFunc 248 args).run Tryz.prog w = .ok (.enter 248 args) w := enters_of Tryz.func248 (by kernel_rfl) rfl
theorem Tryz.entersM4 : ∀ args w, (callFunc 249 args).run Tryz.prog w = .ok (.enter 249 args) w := enters_of Tryz.func249 (by kernel_rfl) rfl
theorem Tryz.entersM5 : ∀ args w, (callFunc 250 args).run Tryz.prog w = .ok (.enter 250 args) w := enters_of Tryz.func250 (by kernel_rfl) rfl
theorem Tryz.entersM6 : ∀ args w, (callFunc 251 args).run Tryz.prog w = .ok (.enter 251 args) w := enters_of Tryz.func251 (by kernel_rfl) rfl
theorem FStep.kept {lo : Nat} {W V W' : World} {p bb : Nat} {gv sv : Value} {xs : List Value} {ev fv uv : Value} {s s2 : PP} (h : FStep lo p gv sv (FO p bb xs ev fv uv) V W' s2) (hF : Flow lo W p bb gv sv xs ev fv uv s) : ∀ b, W.heap.size ≤ b → b < V.heap.size → W'.heap[b]? = V.heap[b]? := fun b h1 h2 => by
 obtain ⟨_, _, _, _, k⟩ := h;exact k b h2 (hF.far h1)
set_option maxHeartbeats 1000000 in
theorem do_bad (m1 m2 m3 : Int) (hbad : m1 < 1 ∨ 6 < m1) (hm : m1 ≤ 9223372036854775807) (W : World) (p : Nat) :
  Calls Tryz.prog 173 #[.pointer (some ⟨p, 0, none⟩), .agg #[.int .i64 m1, .int .i64 m2, .int .i64 m3]] W fun e w' => e = .returned (.int .i64 1) ∧ Below W.heap.size W w' := by
 have hb0 := below1 W (.cells #[.int .i64 m1, .int .i64 m2, .int .i64 m3] 127);obtain ⟨V, hV⟩ : ∃ V, V = W.alloc (.cells #[.int .i64 m1, .int .i64 m2, .int .i64 m3] 127) := ⟨_, rfl⟩;rw [← hV] at hb0;have HV := hid hV;have M0 := Bx.new (w := W) [.int .i64 m1, .int .i64 m2, .int .i64 m3] 127 rfl;rw [← hV] at M0;clear hV
 by_cases hlow : m1 < 1
 ·have hd : decide (m1 < 1) = true := by simpa using hlow
  clear hbad;go_enter Tryz.func173, Tryz.ntmps173;go_wp2_with fail;rw [← HV.out];refine (moves_is V).mono ?_;rintro e w2 ⟨rfl, hX, hb2⟩;have q0 := (M0.later hb2).c 0 rfl;have hB2 : Below W.heap.size W w2 := hb0.trans (hb2.mono hb0.size);clear hX hb2 M0;go_wp2;go_ret;exact ⟨rfl, hB2⟩
 ·have hd : decide (m1 < 1) = false := by simpa using hlow
  have hw1 : IntKind.i64.wrap (m1 - 1) = m1 - 1 := by rw [IntKind.wrap_i64]; omega
  have hd2 : decide ((6 : Int) ≤ m1 - 1) = true := by simp; omega
  clear hbad;go_enter Tryz.func173, Tryz.ntmps173;go_wp2_with fail;rw [← HV.out];refine (moves_is V).mono ?_;rintro e w2 ⟨rfl, hX, hb2⟩;have q0 := (M0.later hb2).c 0 rfl;have hB2 : Below W.heap.size W w2 := hb0.trans (hb2.mono hb0.size);clear hX hb2 M0;go_wp2;go_ret;exact ⟨rfl, hB2⟩
theorem do_any (lo : Nat) (W : World) (p bb gb goff gc : Nat) (ts : List LNode) (so : Option Addr) (sc : Nat) (src : List Int) (xs : List Value) (ev fv uv : Value) (s : PP) (m1 m2 m3 : Int) (h : Flow lo W p bb (.slice (some ⟨gb, goff, none⟩) ts.length gc) (.slice so src.length sc) xs ev fv uv s) (hz : DIn dNode lo W (some ⟨gb, goff, none⟩) ts) (hI : kI.In lo W so src) (hrs : ∀ x ∈ src, ∃ j : Nat, j < ts.length ∧ x = (j : Int)) (hsl : src.length ≤ 1000) (hE : EdgesIn (ts.map valNode)) (hcap : ∀ j, j < ts.length → 0 ≤ capP (ts.map valNode) j ∧ capP (ts.map valNode) j ≤ 1000) (hB : RawP ts.length s) (hm : m1 ≤ 9223372036854775807) :
  Calls Tryz.prog 173 #[.pointer (some ⟨p, 0, none⟩), .agg #[.int .i64 m1, .int .i64 m2, .int .i64 m3]] W fun e W' => e = .returned (.int .i64 (doR (ts.map valNode) src s m1 m2 m3).1) ∧ FStep lo p (.slice (some ⟨gb, goff, none⟩) ts.length gc) (.slice so src.length sc) (FO p bb xs ev fv uv) W W' (doR (ts.map valNode) src s m1 m2 m3).2 := by
 have hlo : lo ≤ W.heap.size := Nat.le_of_lt (Nat.lt_of_le_of_lt h.lop h.box.size);have hN := hB.len;have hmany : s.bx.length ≤ 10 := by have := hE.many; rw [List.length_map] at this; omega
 have h1 := hB.tot;have h2 := hB.em;have h3 := hB.fu;have h4 := hB.it1;have htr : ∀ k t1 t2 t3 r, el s.bx k = (t1, t2, t3) :: r → 0 ≤ t3 ∧ t3 ≤ 1000 := fun k t1 t2 t3 r hr => by
  have := hB.tr k (t1, t2, t3) (by rw [hr]; simp);dsimp only at this; omega
 by_cases k1 : m1 = 1
 ·subst k1;rw [show doR (ts.map valNode) src s 1 m2 m3 = offerR (ts.map valNode) src s m2 m3 from by simp [doR]];exact do_at _ Tryz.entersM1 1 0 (by simp) rfl W p m2 m3 _ (fun W' => FStep lo p (.slice (some ⟨gb, goff, none⟩) ts.length gc) (.slice so src.length sc) (FO p bb xs ev fv uv) W W' (offerR (ts.map valNode) src s m2 m3).2) fun V hV =>
   (offer_any lo V p bb gb goff gc ts so sc src xs ev fv uv s 1 m2 m3 (h.later hV) hN (hz.below dNode_ok (hV.mono hlo)) (hI.below (hV.mono hlo)) hrs hsl hcap (by omega) hB.it0 (by omega)).mono fun e w' hh => ⟨hh.1, FStep.start h hV hh.2, hh.2.kept h⟩
 by_cases k2 : m1 = 2
 ·subst k2;rw [show doR (ts.map valNode) src s 2 m2 m3 = stepR (ts.map valNode) s m2 from by simp [doR]];exact do_at _ Tryz.entersM2 2 1 (by simp) rfl W p m2 m3 _ (fun W' => FStep lo p (.slice (some ⟨gb, goff, none⟩) ts.length gc) (.slice so src.length sc) (FO p bb xs ev fv uv) W W' (stepR (ts.map valNode) s m2).2) fun V hV =>
   (step_any lo V p bb gb goff gc ts _ xs ev fv uv s 2 m2 m3 (h.later hV) hN (hz.below dNode_ok (hV.mono hlo)) hE hcap (by omega) (by omega) (by omega) hB.ti0 hB.ti1 htr).mono fun e w' hh => ⟨hh.1, FStep.start h hV hh.2, hh.2.kept h⟩
 by_cases k3 : m1 = 3
 ·subst k3;rw [show doR (ts.map valNode) src s 3 m2 m3 = faultR s m2 from by simp [doR]];refine do_at _ Tryz.entersM3 3 2 (by simp) rfl W p m2 m3 _ (fun W' => FStep lo p (.slice (some ⟨gb, goff, none⟩) ts.length gc) (.slice so src.length sc) (FO p bb xs ev fv uv) W W' (faultR s m2).2) fun V hV => ?_
  have hf := fault_any lo V p bb (some ⟨gb, goff, none⟩) gc (.slice so src.length sc) xs ev fv uv s 3 m2 m3 (by rw [hN]; exact h.later hV) hmany (by omega) (by omega) hB.ti0 hB.ti1 htr;rw [hN] at hf;exact hf.mono fun e w' hh => ⟨hh.1, FStep.start h hV hh.2, hh.2.kept h⟩
 by_cases k4 : m1 = 4
 ·subst k4;rw [show doR (ts.map valNode) src s 4 m2 m3 = tickR s m3 from by simp [doR]];exact do_at _ Tryz.entersM4 4 3 (by simp) rfl W p m2 m3 _ (fun W' => FStep lo p (.slice (some ⟨gb, goff, none⟩) ts.length gc) (.slice so src.length sc) (FO p bb xs ev fv uv) W W' (tickR s m3).2) fun V hV =>
   (tick_any lo V p bb _ _ xs ev fv uv s 4 m2 m3 (h.later hV) hB.ti0 hB.ti1).mono fun e w' hh => ⟨hh.1, FStep.start h hV hh.2, hh.2.kept h⟩
 by_cases k5 : m1 = 5
 ·subst k5;rw [show doR (ts.map valNode) src s 5 m2 m3 = drainR s from by simp [doR]];exact do_at _ Tryz.entersM5 5 4 (by simp) rfl W p m2 m3 _ (fun W' => FStep lo p (.slice (some ⟨gb, goff, none⟩) ts.length gc) (.slice so src.length sc) (FO p bb xs ev fv uv) W W' (drainR s).2) fun V hV =>
   (drain_any lo V p bb _ _ xs ev fv uv s 5 m2 m3 (h.later hV)).mono fun e w' hh => ⟨hh.1, FStep.start h hV hh.2, hh.2.kept h⟩
 by_cases k6 : m1 = 6
 ·subst k6;rw [show doR (ts.map valNode) src s 6 m2 m3 = abortR s from by simp [doR]];exact do_at _ Tryz.entersM6 6 5 (by simp) rfl W p m2 m3 _ (fun W' => FStep lo p (.slice (some ⟨gb, goff, none⟩) ts.length gc) (.slice so src.length sc) (FO p bb xs ev fv uv) W W' (abortR s).2) fun V hV =>
   (abort_any lo V p bb _ _ xs ev fv uv s 6 m2 m3 (h.later hV) hmany (by omega)).mono fun e w' hh => ⟨hh.1, FStep.start h hV hh.2, hh.2.kept h⟩
 have hR : doR (ts.map valNode) src s m1 m2 m3 = (1, s) := by simp [doR, k1, k2, k3, k4, k5, k6]
 rw [hR];exact (do_bad m1 m2 m3 (by omega) hm W p).mono fun e w' hh => ⟨hh.1, FStep.same h hh.2⟩
end
section
open Go.RowKit

/-- What moves do one after another: the codes, and what the pipe holds. -/
def playP (gs : List PNode) (src : List Int) (l : List (Int × Int × Int)) (s : PP) : List Int × PP :=
 l.foldl (fun a m => (a.1 ++ [(doR gs src a.2 m.1 m.2.1 m.2.2).1], (doR gs src a.2 m.1 m.2.1 m.2.2).2)) ([], s)
theorem playP_snoc (gs : List PNode) (src : List Int) (l : List (Int × Int × Int)) (m : Int × Int × Int) (s : PP) :
  playP gs src (l ++ [m]) s = ((playP gs src l s).1 ++ [(doR gs src (playP gs src l s).2 m.1 m.2.1 m.2.2).1], (doR gs src (playP gs src l s).2 m.1 m.2.1 m.2.2).2) := by
 rw [playP, List.foldl_append]; rfl
theorem playP_len (gs : List PNode) (src : List Int) (l : List (Int × Int × Int)) (s : PP) : ∀ n, n ≤ l.length → (playP gs src (l.take n) s).1.length = n
 | 0, _ => rfl
 | n + 1, h => by
  rw [take_succ_el (by omega), playP_snoc];simp only [List.length_append, List.length_singleton];rw [playP_len gs src l s n (by omega)]
theorem playP_bnd {gs : List PNode} (src : List Int) (hE : EdgesIn gs) (l : List (Int × Int × Int)) {s : PP} (h : BndP gs.length 0 s) : ∀ n, n ≤ l.length → BndP gs.length n (playP gs src (l.take n) s).2
 | 0, _ => h
 | n + 1, hn => by
  rw [take_succ_el (by omega), playP_snoc];exact (playP_bnd src hE l h n (by omega)).move hE _ _ _
theorem Flow.keep {lo : Nat} {W W' : World} {p bb : Nat} {gv sv : Value} {xs : List Value} {ev fv uv : Value} {s : PP} (h : Flow lo W p bb gv sv xs ev fv uv s) (hs : W.heap.size ≤ W'.heap.size) (hk : ∀ b, FO p bb xs ev fv uv b → W'.heap[b]? = W.heap[b]?) : Flow lo W' p bb gv sv xs ev fv uv s :=
 ⟨h.box.keep hs (hk p (.inl rfl)), h.hnd.keep (hk bb (.inr (.inl rfl))) (fun j hj b hb => hk b (.inr (.inr (.inl ⟨j, by rw [h.hnd.len]; exact hj, hb⟩)))), own_keep h.emo (fun b hb => hk b (.inr (.inr (.inr (.inl hb))))), own_keep h.fao (fun b hb => hk b (.inr (.inr (.inr (.inr (.inl hb)))))), own_keep h.fuo (fun b hb => hk b (.inr (.inr (.inr (.inr (.inr hb)))))), h.lop, h.lob, h.pbb, h.px, h.pe, h.pf, h.pu⟩
end
section
open Go.RowKit

def kMv : Kind (Int × Int × Int) := ⟨127, 124, 3, fun t => [.int .i64 t.1, .int .i64 t.2.1, .int .i64 t.2.2], fun _ => rfl, fun a v h => by simp at h; rcases h with rfl | rfl | rfl <;> rfl⟩
theorem kMv_at {n : Nat} {W : World} {ao : Option Addr} {ts : List (Int × Int × Int)} (h : kMv.In n W ao ts) {k : Nat} (hk : k < ts.length) :
  ∃ b off, ao = some ⟨b, off, none⟩ ∧ b < n ∧ ∀ j, j < ts.length → W.cell? ⟨b, off + j * 3, none⟩ = some (.int .i64 (el ts j).1) ∧ W.cell? ⟨b, off + j * 3 + 1, none⟩ = some (.int .i64 (el ts j).2.1) ∧ W.cell? ⟨b, off + j * 3 + 2, none⟩ = some (.int .i64 (el ts j).2.2) := by
 obtain ⟨b, off, e, hb, hc⟩ := h.pos hk;exact ⟨b, off, e, hb, fun j hj => ⟨hc j hj 0 (by decide), hc j hj 1 (by decide), hc j hj 2 (by decide)⟩⟩
theorem srcP_rng (gs : List PNode) (n : Nat) : ∀ x ∈ srcP gs n, ∃ j : Nat, j < n ∧ x = (j : Int) := fun x hx => by
 have h := (List.mem_filter.1 hx).1;simp only [numsI, List.mem_map, List.mem_range] at h;obtain ⟨j, hj, rfl⟩ := h;exact ⟨j, hj, rfl⟩
end
section
open Go.RowKit
end
section
open Go.RowKit

/-- A good graph, plainly. -/
structure GoodE (gs : List PNode) : Prop where
 edg : EdgesIn gs
 cap : ∀ j, j < gs.length → 3 ≤ capP gs j ∧ capP gs j ≤ 8
 once : ∀ a, a < gs.length → (nxP gs a).Nodup
 st : ∀ k, k < gs.length → goodSt (el gs k).2.1 (el gs k).2.2.1 (el gs k).2.2.2.1 = true
theorem goodE_of {gs : List PNode} (h : codeG gs = 0) : GoodE gs := by
 obtain ⟨hm, hbk, _⟩ := codeG_zero h;refine ⟨edges_of (by omega) (hbk 4 (by omega)), fun j hj => ?_, fun a ha => ?_, fun k hk => ?_⟩
 ·have := brk_at (hbk 3 (by omega)) hj;simp only [prule, Int.toNat_natCast, Bool.or_eq_false_iff, decide_eq_false_iff_not] at this;rw [capP]; omega
 ·have := brk_at (hbk 4 (by omega)) ha;simp only [prule, Int.toNat_natCast] at this;have h2 : goodNx (nxP gs a) (gs.length : Int) = true := by simpa [nxP] using this
  exact (goodNx_iff.1 h2).2
 ·have := brk_at (hbk 2 (by omega)) hk;simp only [prule, Int.toNat_natCast] at this
  simpa using this
theorem appR_val {k a b v : Int} : ∀ x ∈ (appR k a b v).1, valB x = true := by
 intro x hx
 unfold appR at hx
 split at hx
 ·rename_i h
  simp at h; exact appSt_val h.1 h.2 x hx
 ·cases hx
/-- Every token bears a value. -/
def VlB (bx : List (List (Int × Int × Int))) : Prop := ∀ k t, t ∈ el bx k → valB t.2.1 = true
theorem VlB.set {bx : List (List (Int × Int × Int))} (h : VlB bx) (k : Nat) {x : List (Int × Int × Int)} (hx : ∀ t ∈ x, valB t.2.1 = true) : VlB (bx.set k x) := fun j t ht => by
 by_cases e : j = k
 ·subst e
  by_cases hj : j < bx.length
  ·rw [el_set_same hj] at ht; exact hx t ht
  ·rw [List.set_eq_of_length_le (by omega)] at ht; exact h j t ht
 ·rw [el_set_far e] at ht; exact h j t ht
theorem VlB.put {bx : List (List (Int × Int × Int))} (h : VlB bx) (k : Nat) (a b : Int) (hb : valB b = true) : VlB (bx.set k (el bx k ++ [(a, b, 0)])) := h.set k fun t ht => by
 rcases List.mem_append.1 ht with h1 | h1
 ·exact h k t h1
 ·rw [List.mem_singleton.1 h1]; exact hb
theorem VlB.puts (a b : Int) (hb : valB b = true) : ∀ (l : List Int) {bx : List (List (Int × Int × Int))}, VlB bx → VlB (putsTo (a, b, 0) bx l)
 | [], _, h => h
 | x :: r, _, h => VlB.puts a b hb r (h.put x.toNat a b hb)
theorem el_clr (bx : List (List (Int × Int × Int))) (j : Nat) : el (clr bx bx.length) j = [] := by
 simp only [Go.Proofs.YtdacedbfnlkghaaGreatDoor.clr, el, List.drop_length, List.append_nil]
 by_cases hj : j < bx.length
 ·simp [hj]
 ·simp [hj]; rfl
/-- Boxes within their room. -/
def CpB (gs : List PNode) (bx : List (List (Int × Int × Int))) : Prop := ∀ k, k < gs.length → ((el bx k).length : Int) ≤ capP gs k
theorem CpB.set {gs : List PNode} {bx : List (List (Int × Int × Int))} (h : CpB gs bx) (k : Nat) {x : List (Int × Int × Int)} (hx : (x.length : Int) ≤ capP gs k) : CpB gs (bx.set k x) := fun j hj => by
 by_cases e : j = k
 ·subst e
  by_cases hj2 : j < bx.length
  ·rw [el_set_same hj2]; exact hx
  ·rw [List.set_eq_of_length_le (by omega)]; exact h j hj
 ·rw [el_set_far e]; exact h j hj
theorem putsTo_far (t : Int × Int × Int) {j : Nat} : ∀ (l : List Int) (bx : List (List (Int × Int × Int))), (∀ x ∈ l, x.toNat ≠ j) → el (putsTo t bx l) j = el bx j
 | [], _, _ => rfl
 | y :: r, bx, h => by
  rw [putsTo, putsTo_far t r _ (fun x hx => h x (List.mem_cons_of_mem _ hx)), el_set_far (fun e => h y (by simp) e.symm)]
theorem putsTo_len1 (t : Int × Int × Int) {j : Nat} : ∀ (l : List Int) (bx : List (List (Int × Int × Int))), (∀ x ∈ l, 0 ≤ x) → l.Nodup → (el (putsTo t bx l) j).length ≤ (el bx j).length + (if (j : Int) ∈ l then 1 else 0)
 | [], _, _, _ => Nat.le_add_right _ _
 | y :: r, bx, h, hn => by
  have h1 := List.nodup_cons.1 hn;have hy := h y (by simp);rw [putsTo]
  by_cases e : y.toNat = j
  ·have hyj : y = (j : Int) := by omega
   rw [putsTo_far t r _ (fun x hx e2 => h1.1 (by have := h x (List.mem_cons_of_mem _ hx); rw [show y = x by omega]; exact hx)), if_pos (by rw [hyj]; simp), e]
   by_cases hj : j < bx.length
   ·rw [el_set_same hj]; simp
   ·rw [List.set_eq_of_length_le (by omega)]; omega
  ·have h2 := putsTo_len1 t (j := j) r (bx.set y.toNat (el bx y.toNat ++ [t])) (fun x hx => h x (List.mem_cons_of_mem _ hx)) h1.2;rw [el_set_far (Ne.symm e)] at h2
   by_cases hm : (j : Int) ∈ r
   ·rw [if_pos hm] at h2;rw [if_pos (List.mem_cons_of_mem _ hm)]; exact h2
   ·rw [if_neg hm] at h2
    omega
/-- What holds of a pipe that plays. -/
structure InvS (gs : List PNode) (s : PP) : Prop where
 cap : CpB gs s.bx
 val : VlB s.bx
theorem InvS.abort {gs : List PNode} {s : PP} (hG : GoodE gs) : InvS gs (abortP s) :=
 ⟨fun k hk => by show ((el (clr s.bx s.bx.length) k).length : Int) ≤ _; rw [el_clr]; have := (hG.cap k hk).1; simp only [List.length_nil]; omega, fun k t ht => by
  have ht2 : t ∈ el (clr s.bx s.bx.length) k := ht;rw [el_clr] at ht2; cases ht2⟩
theorem InvS.failT {gs : List PNode} {s : PP} (hG : GoodE gs) (h : InvS gs s) : InvS gs (failT s) := by
 unfold Go.Proofs.YtdacedbfnlkghaaGreatDoor.failT
 split
 ·have a := InvS.abort (s := s) hG;exact ⟨a.cap, a.val⟩
 ·exact ⟨h.cap, h.val⟩
theorem InvS.fail {gs : List PNode} {s : PP} (hG : GoodE gs) (h : InvS gs s) {k : Nat} {t1 t2 t3 : Int} {r : List (Int × Int × Int)} (hk : k < gs.length) (hr : el s.bx k = (t1, t2, t3) :: r) : InvS gs (failP s k t1 t2 t3 r) := by
 unfold failP
 have hv := h.val k (t1, t2, t3) (by rw [hr]; simp);have hrr : ∀ t ∈ r, valB t.2.1 = true := fun t ht => h.val k t (by rw [hr]; exact List.mem_cons_of_mem _ ht)
 have hc := h.cap k hk;rw [hr] at hc;simp only [List.length_cons] at hc;refine InvS.failT hG ?_
 split
 ·exact ⟨h.cap.set k (by omega), h.val.set k hrr⟩
 ·refine ⟨h.cap.set k (by simp only [List.length_cons]; exact hc), h.val.set k fun t ht => ?_⟩
  rcases List.mem_cons.1 ht with rfl | h1
  ·exact hv
  ·exact hrr t h1
theorem leadAll_val (gs : List PNode) (k : Nat) (it : Int) : ∀ (l : List Int) (s : PP), (∀ v ∈ l, valB v = true) → VlB s.bx → VlB (leadAll gs k it l s).bx
 | [], _, _, h => h
 | y :: r, s, hl, h => by
  rw [leadAll];refine leadAll_val gs k it r _ (fun v hv => hl v (List.mem_cons_of_mem _ hv)) ?_
  unfold leadR; split
  ·exact h
  ·exact VlB.puts it y (hl y (by simp)) _ h
theorem leadAll_cap {gs : List PNode} {k : Nat} (it : Int) (h0 : ∀ x ∈ nxP gs k, 0 ≤ x) (hn : (nxP gs k).Nodup) : ∀ (l : List Int) (s : PP) (j : Nat), (el (leadAll gs k it l s).bx j).length ≤ (el s.bx j).length + (if (j : Int) ∈ nxP gs k then l.length else 0)
 | [], s, j => by rw [leadAll]; exact Nat.le_add_right _ _
 | y :: r, s, j => by
  have h1 := leadAll_cap it h0 hn r (leadR gs s k it y) j;rw [leadAll];have h2 : (el (leadR gs s k it y).bx j).length ≤ (el s.bx j).length + (if (j : Int) ∈ nxP gs k then 1 else 0) := by
   unfold leadR; split
   ·exact Nat.le_add_right _ _
   ·exact putsTo_len1 _ _ _ h0 hn
  by_cases hm : (j : Int) ∈ nxP gs k
  ·rw [if_pos hm] at h1 h2 ⊢;simp only [List.length_cons]; omega
  ·rw [if_neg hm] at h1 h2 ⊢
   omega
theorem InvS.step {gs : List PNode} {s : PP} (hG : GoodE gs) (h : InvS gs s) (hl : s.bx.length = gs.length) (m : Int) : InvS gs (stepR gs s m).2 := by
 unfold stepR
 split
 ·rename_i hin;have hk : m.toNat < s.bx.length := by omega
  have hkg : m.toNat < gs.length := by omega
  split
  ·exact h
  ·rename_i t r hr;obtain ⟨t1, t2, t3⟩ := t
   split
   ·exact h.fail hG hkg hr
   ·split
    ·exact h
    ·rename_i hb;have hrr : ∀ t ∈ r, valB t.2.1 = true := fun t ht => h.val m.toNat t (by rw [hr]; exact List.mem_cons_of_mem _ ht)
     refine ⟨fun j hj => ?_, leadAll_val gs _ _ _ _ (fun v hv => appR_val v hv) (h.val.set _ hrr)⟩;have h0 : ∀ x ∈ nxP gs m.toNat, 0 ≤ x := fun x hx => by obtain ⟨a, _, rfl⟩ := hG.edg.rng _ hkg x hx; omega
     have h1 := leadAll_cap (gs := gs) (k := m.toNat) t1 h0 (hG.once _ hkg) (stApp gs m.toNat t2).1 { s with bx := s.bx.set m.toNat r } j;have h2 : (el (s.bx.set m.toNat r) j).length ≤ (el s.bx j).length := by
      by_cases e : j = m.toNat
      ·rw [e, el_set_same hk, hr]; simp
      ·rw [el_set_far e]; exact Nat.le_refl _
     have hc := h.cap j hj;dsimp only at h1 ⊢
     by_cases hm : (j : Int) ∈ nxP gs m.toNat
     ·rw [if_pos hm] at h1;have h3 : ¬ capP gs j - ((el s.bx j).length : Int) < ((stApp gs m.toNat t2).1.length : Int) := fun hlt => hb (by
       unfold blkP
       rw [List.any_eq_true];exact ⟨(j : Int), hm, by rw [Int.toNat_natCast]; exact decide_eq_true hlt⟩)
      omega
     ·rw [if_neg hm] at h1
      omega
 ·exact h
theorem InvS.fault {gs : List PNode} {s : PP} (hG : GoodE gs) (h : InvS gs s) (hl : s.bx.length = gs.length) (m : Int) : InvS gs (faultR s m).2 := by
 unfold faultR
 split
 ·rename_i hin
  split
  ·exact h
  ·rename_i t r hr;exact h.fail hG (by omega) hr
 ·exact h
theorem InvS.offer {gs : List PNode} {src : List Int} {s : PP} (h : InvS gs s) (m v : Int) : InvS gs (offerR gs src s m v).2 := by
 unfold offerR
 split
 ·rename_i hv
  split
  ·exact h
  ·split
   ·exact h
   ·rename_i hr;refine ⟨h.cap.set _ ?_, h.val.put _ _ _ hv.2⟩;rw [List.length_append, List.length_singleton]; omega
 ·exact h
/-- A move keeps it. -/
theorem InvS.move {gs : List PNode} {src : List Int} {s : PP} (hG : GoodE gs) (h : InvS gs s) (hl : s.bx.length = gs.length) (m1 m2 m3 : Int) : InvS gs (doR gs src s m1 m2 m3).2 := by
 unfold doR
 split
 ·exact h.offer m2 m3
 ·split
  ·exact h.step hG hl m2
  ·split
   ·exact h.fault hG hl m2
   ·split
    ·unfold tickR
     split
     ·exact h
     ·split
      ·exact h
      ·exact ⟨h.cap, h.val⟩
    ·split
     ·unfold drainR
      split
      ·exact h
      ·exact ⟨h.cap, h.val⟩
     ·split
      ·unfold abortR
       split
       ·exact h
       ·exact InvS.abort hG
      ·exact h
theorem pp0_inv {gs : List PNode} (hG : GoodE gs) : InvS gs (pp0 gs.length) := by
 have e : ∀ k, el (pp0 gs.length).bx k = [] := fun k => by
  show el (List.replicate gs.length ([] : List (Int × Int × Int))) k = []
  by_cases hk : k < gs.length
  ·simp [el, hk]
  ·simp [el, hk]; rfl
 exact ⟨fun k hk => by rw [e]; have := (hG.cap k hk).1; simp only [List.length_nil]; omega, fun k t ht => by rw [e] at ht; cases ht⟩
theorem playP_inv {gs : List PNode} (src : List Int) (hG : GoodE gs) (l : List (Int × Int × Int)) {s : PP} (h : InvS gs s) (hB : BndP gs.length 0 s) : ∀ n, n ≤ l.length → InvS gs (playP gs src (l.take n) s).2
 | 0, _ => h
 | n + 1, hn => by
  rw [take_succ_el (by omega), playP_snoc];exact (playP_inv src hG l h hB n (by omega)).move hG ((playP_bnd src hG.edg l hB n (by omega)).len) _ _ _
end
end Go.Proofs.YtdacedbfnlkghaaGreatDoor
