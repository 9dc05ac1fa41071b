/- An offer. No conditions but those written. A step of a node. No conditions but those written. A move: the program. No conditions but those written. Moves one after another, plainly; a flow where its blocks are as they were. No conditions but those written. Moves one after another: the program (under way). No conditions but those written. Moves played on a new pipe: the program. No conditions but those written. -/
import Derived.Test.YtoeonbdoopboiaaGreatDoorPWyYs
import Derived.Test.YtoeonbdoopboiaaGreatDoorPSmRd
namespace Go.Proofs.YtoeonbdoopboiaaGreatDoor
section
open Go.RowKit

set_option maxRecDepth 100000 in
set_option maxHeartbeats 2000000 in
theorem offer_any (lo : Nat) (W : World) (p bb gb goff gc : Nat) (ts : List LNode) (so : Option Addr) (sc : Nat) (src : List Int) (xs : List Value) (ev fv uv : Value) (s : PP) (m1 m2 m3 : Int) (h : Flow lo W p bb (.slice (some ⟨gb, goff, none⟩) ts.length gc) (.slice so src.length sc) xs ev fv uv s) (hn : s.bx.length = ts.length) (hz : DIn dNode lo W (some ⟨gb, goff, none⟩) ts) (hI : kI.In lo W so src) (hrs : ∀ x ∈ src, ∃ j : Nat, j < ts.length ∧ x = (j : Int)) (hsl : src.length ≤ 1000) (hcap : ∀ j, j < ts.length → 0 ≤ capP (ts.map valNode) j ∧ capP (ts.map valNode) j ≤ 1000) (ht : totT s.bx ≤ 100000) (hi0 : 0 ≤ s.it) (hi1 : s.it ≤ 1000000) :
    Calls Tryz.prog 129 #[.pointer (some ⟨p, 0, none⟩), .agg #[.int .i64 m1, .int .i64 m2, .int .i64 m3]] W fun e W' => e = .returned (.int .i64 (offerR (ts.map valNode) src s m2 m3).1) ∧ FStep lo p (.slice (some ⟨gb, goff, none⟩) ts.length gc) (.slice so src.length sc) (FO p bb xs ev fv uv) W W' (offerR (ts.map valNode) src s m2 m3).2 := by
  have hb0 := below1 W (.cells #[.int .i64 m1, .int .i64 m2, .int .i64 m3] 74)
  have hlo : lo ≤ W.heap.size := Nat.le_of_lt (Nat.lt_of_le_of_lt h.lop h.box.size)
  have F0 := h.later hb0
  have hp := h.box.size
  obtain ⟨V, hV⟩ : ∃ V, V = W.alloc (.cells #[.int .i64 m1, .int .i64 m2, .int .i64 m3] 74) := ⟨_, rfl⟩
  rw [← hV] at hb0 F0
  have HF0 := hid F0
  have HB0 := hid hb0
  have HV := hid hV
  have M0 := Bx.new (w := W) [.int .i64 m1, .int .i64 m2, .int .i64 m3] 74 rfl
  rw [← hV] at M0
  have b1 := M0.c 1 rfl
  have b2 := M0.c 2 rfl
  have c1 := F0.box.c 1 rfl
  have HM0 := hid M0
  have HCN : Hid (∀ b, hasB src m2 = b → ∀ n, Calls Tryz.prog 104 #[.slice so src.length sc, .int .i64 m2] (V.drewN n) fun e w' => e = .returned (.bool b) ∧ w' = V.drewN n) := fun b hb n =>
    contains_is lo so sc src m2 _ b (by omega) (hI.below (below_draws (hb0.mono hlo) n)) hb
  have HVL : Hid (∀ b, valB m3 = b → ∀ n, Calls Tryz.prog 156 #[.int .i64 m3] (V.drewN n) fun e w' => e = .returned (.bool b) ∧ w' = V.drewN n) := fun b hb n => isValue_is m3 _ b hb
  clear hV hb0 M0 F0 hI
  rcases hh : hasB src m2 with _ | _
  · have HR : Hid (offerR (ts.map valNode) src s m2 m3 = (2, s)) := by rw [Hid, offerR, if_neg (by rw [hh]; simp)]
    have HC := hid (HCN.out _ hh)
    clear hh HCN HVL
    go_enter Tryz.func129, Tryz.ntmps129
    go_wp2_with fail
    rw [← HV.out]
    go_quiet (exact Calls.quiet_of_same (HC.out _))
    go_wp2
    go_ret
    rw [HR.out]
    exact ⟨rfl, FStep.same h (below_draws HB0.out _)⟩
  rcases hv : valB m3 with _ | _
  · have HR : Hid (offerR (ts.map valNode) src s m2 m3 = (2, s)) := by rw [Hid, offerR, if_neg (by rw [hv]; simp)]
    have HC := hid (HCN.out _ hh)
    have HL := hid (HVL.out _ hv)
    clear hh HCN HVL hv
    go_enter Tryz.func129, Tryz.ntmps129
    go_wp2_with fail
    rw [← HV.out]
    go_quiet (first | exact Calls.quiet_of_same (HC.out _) | exact Calls.quiet_of_same (HL.out _))
    go_wp2
    go_ret
    rw [HR.out]
    exact ⟨rfl, FStep.same h (below_draws HB0.out _)⟩
  have HC := hid (HCN.out _ hh)
  have HL := hid (HVL.out _ hv)
  have hin : hasB src m2 = true ∧ valB m3 = true := ⟨hh, hv⟩
  obtain ⟨k, hk, rfl⟩ := hrs m2 (by simpa [hasB] using hh)
  clear hh HCN HVL hv
  have c4 := HF0.out.box.c 4 rfl
  rcases hcl : s.cl with _ | _
  case true =>
    have HR : Hid (offerR (ts.map valNode) src s (k : Int) m3 = (3, s)) := by rw [Hid, offerR, if_pos hin, if_pos hcl]
    rw [hcl] at c4
    clear hin
    go_enter Tryz.func129, Tryz.ntmps129
    go_wp2_with fail
    rw [← HV.out]
    go_quiet (first | exact Calls.quiet_of_same (HC.out _) | exact Calls.quiet_of_same (HL.out _))
    go_wp2
    go_ret
    rw [HR.out]
    exact ⟨rfl, FStep.same h (below_draws HB0.out _)⟩
  rw [hcl] at c4
  obtain ⟨b, off, e, hb, hc⟩ := hNode_at hz.1 hk
  obtain ⟨rfl, rfl⟩ : gb = b ∧ goff = off := by simp at e; exact e
  have hcp : capP (ts.map valNode) k = (el ts k).2.2.2.2.1 := by rw [capP, el_val hk]; rfl
  have g4 := (hc k hk).2.2.2.2.1
  rw [← hcp] at g4
  have hck := hcap k hk
  have HRM : Hid (∀ n, Calls Tryz.prog 157 #[.pointer (some ⟨p, 0, none⟩), .int .i64 (k : Int)] (V.drewN n) fun e w' => e = .returned (.int .i64 (capP (ts.map valNode) k - (el s.bx k).length)) ∧ w' = (V.drewN n).drew) := fun n =>
    roomAt_any lo (V.drewN n) p bb gb goff ts.length gc _ xs ev fv uv s k _ (HF0.out.later (below_draws (Below.refl _ _) n)) (by omega) hk ((below_draws HB0.out n).cell (p := ⟨gb, goff + k * 6 + 4, none⟩) (by dsimp only; omega) |>.trans g4) hck.1 hck.2 ht
  by_cases hrm : capP (ts.map valNode) k - ((el s.bx k).length : Int) < 1
  · have HR : Hid (offerR (ts.map valNode) src s (k : Int) m3 = (4, s)) := by rw [Hid, offerR, if_pos hin, if_neg (by simp [hcl]), Int.toNat_natCast, if_pos hrm]
    have hd : decide (capP (ts.map valNode) k - ((el s.bx k).length : Int) < 1) = true := by simpa using hrm
    generalize capP (ts.map valNode) k - ((el s.bx k).length : Int) = q at HRM hd
    clear hin hrm hc hck hcp g4 hcap
    go_enter Tryz.func129, Tryz.ntmps129
    go_wp2_with fail
    rw [← HV.out]
    go_quiet (first | exact Calls.quiet_of_same (HC.out _) | exact Calls.quiet_of_same (HL.out _))
    go_wp2_with fail
    refine (HRM.out _).mono ?_
    rintro e w2 ⟨rfl, hw2⟩
    rw [hw2]; clear hw2 w2
    go_wp2
    go_ret
    rw [HR.out]
    exact ⟨rfl, FStep.same h ((below_draws HB0.out _).drew)⟩
  · have HR : Hid (offerR (ts.map valNode) src s (k : Int) m3 = (0, { s with bx := s.bx.set k (el s.bx k ++ [(s.it, m3, 0)]), it := s.it + 1 })) := by rw [Hid, offerR, if_pos hin, if_neg (by simp [hcl]), Int.toNat_natCast, if_neg hrm]
    have hd : decide (capP (ts.map valNode) k - ((el s.bx k).length : Int) < 1) = false := by simpa using hrm
    generalize capP (ts.map valNode) k - ((el s.bx k).length : Int) = q at HRM hd
    clear hin hrm hc hck hcp g4 hcap
    go_enter Tryz.func129, Tryz.ntmps129
    go_wp2_with fail
    rw [← HV.out]
    go_quiet (first | exact Calls.quiet_of_same (HC.out _) | exact Calls.quiet_of_same (HL.out _))
    go_wp2_with fail
    refine (HRM.out _).mono ?_
    rintro e w2 ⟨rfl, hw2⟩
    have hB2 : Below W.heap.size W w2 := by rw [hw2]; exact (below_draws HB0.out _).drew
    have F2 : Flow lo w2 p bb (.slice (some ⟨gb, goff, none⟩) ts.length gc) (.slice so src.length sc) xs ev fv uv s := h.later hB2
    have M2 : Bx w2 W.heap.size [.int .i64 m1, .int .i64 (k : Int), .int .i64 m3] := by rw [hw2]; exact (HM0.out.later (below_draws (Below.refl _ _) _)).drew
    clear hw2 HRM c4 c1 b1 b2 HM0
    have P0 : w2.cell? ⟨p, 3, none⟩ = some (.int .i64 s.it) ∧ w2.cell? ⟨W.heap.size, 1, none⟩ = some (.int .i64 (k : Int)) ∧ w2.cell? ⟨W.heap.size, 2, none⟩ = some (.int .i64 m3) := ⟨F2.box.c 3 rfl, M2.c 1 rfl, M2.c 2 rfl⟩
    have HPU := hid ((put_any lo w2.drew p bb _ _ xs ev fv uv s k s.it m3 0 (F2.later (Below.refl _ _).drew) (by omega) ht).mono fun e w3 hh => And.intro hh (show w3.cell? ⟨p, 3, none⟩ = some (.int .i64 s.it) ∧ w3.cell? ⟨W.heap.size, 1, none⟩ = some (.int .i64 (k : Int)) ∧ w3.cell? ⟨W.heap.size, 2, none⟩ = some (.int .i64 m3) from by
      obtain ⟨_, hs3⟩ := hh
      obtain ⟨bb3, xs3, ev3, fv3, uv3, F3, hk3, _, _, _⟩ := hs3.next
      have hkm := hk3 W.heap.size M2.size (h.far (Nat.le_refl _))
      exact ⟨F3.box.c 3 rfl, (World.cell?_of_block (a := ⟨W.heap.size, 1, none⟩) hkm).trans P0.2.1, (World.cell?_of_block (a := ⟨W.heap.size, 2, none⟩) hkm).trans P0.2.2⟩))
    clear F2 M2
    have PD : w2.drew.cell? ⟨p, 3, none⟩ = some (.int .i64 s.it) ∧ w2.drew.cell? ⟨W.heap.size, 1, none⟩ = some (.int .i64 (k : Int)) ∧ w2.drew.cell? ⟨W.heap.size, 2, none⟩ = some (.int .i64 m3) := P0
    go_wp2_with fail
    go_region_held3 (fun Y => Y.cell? ⟨p, 3, none⟩ = some (.int .i64 s.it) ∧ Y.cell? ⟨W.heap.size, 1, none⟩ = some (.int .i64 (k : Int)) ∧ Y.cell? ⟨W.heap.size, 2, none⟩ = some (.int .i64 m3))
      (first | (with_reducible exact P0) | (with_reducible exact PD) | (with_reducible exact P3))
      ((go_at_call 158; refine HPU.out.mono ?_; rintro e w3 ⟨⟨⟨v3, rfl⟩, hs3⟩, P3⟩))
    all_goals
      have HS : Hid (FStep lo p (.slice (some ⟨gb, goff, none⟩) ts.length gc) (.slice so src.length sc) (FO p bb xs ev fv uv) W w3 { s with bx := s.bx.set k (el s.bx k ++ [(s.it, m3, 0)]) }) := FStep.start h hB2.drew hs3
      obtain ⟨bb3, xs3, ev3, fv3, uv3, F3, _, _, _, hgo⟩ := HS.out.next
      have r3 := F3.box.c 3 rfl
      have f3 := F3.box.f 3 rfl
      have hw3 : IntKind.i64.wrap (s.it + 1) = s.it + 1 := by rw [IntKind.wrap_i64]; omega
      have HN := hid (hgo w3 _ _ (Below.refl _ _) (F3.putIt (s.it + 1)))
      clear hgo F3 HS hs3 P0 PD P3 HPU
      dsimp only at r3
      go_wp2
      go_ret
      rw [HR.out]
      exact ⟨rfl, HN.out⟩
end
section
open Go.RowKit

theorem stepR_at {gs : List PNode} {s : PP} {k : Nat} {t1 t2 t3 : Int} {r : List (Int × Int × Int)} {out : List Int} {fl ok : Bool} (hk : k < s.bx.length) (hbx : el s.bx k = (t1, t2, t3) :: r) (hA : stApp gs k t2 = (out, fl, ok)) :
    stepR gs s (k : Int) = if fl = true then (0, failP s k t1 t2 t3 r) else if blkP gs s.bx k (out.length : Int) = true then (6, s) else (0, leadAll gs k t1 out { s with bx := s.bx.set k r }) := by
  rw [stepR, if_pos ⟨by omega, by omega⟩, Int.toNat_natCast, hbx]
  dsimp only
  rw [hA]
set_option maxRecDepth 100000 in
set_option maxHeartbeats 2000000 in
theorem step_any (lo : Nat) (W : World) (p bb gb goff gc : Nat) (ts : List LNode) (sv : Value) (xs : List Value) (ev fv uv : Value) (s : PP) (m1 m2 m3 : Int) (h : Flow lo W p bb (.slice (some ⟨gb, goff, none⟩) ts.length gc) sv xs ev fv uv s) (hn : s.bx.length = ts.length) (hz : DIn dNode lo W (some ⟨gb, goff, none⟩) ts) (hE : EdgesIn (ts.map valNode)) (hcap : ∀ j, j < ts.length → 0 ≤ capP (ts.map valNode) j ∧ capP (ts.map valNode) j ≤ 1000) (ht : totT s.bx + s.fa.length + 100 ≤ 100000) (hem : s.em.length + 100 ≤ 1000000) (hfu : s.fu.length ≤ 100) (h0 : 0 ≤ s.ti) (h1 : s.ti ≤ 1000000) (htr : ∀ k t1 t2 t3 r, el s.bx k = (t1, t2, t3) :: r → 0 ≤ t3 ∧ t3 ≤ 1000) :
    Calls Tryz.prog 106 #[.pointer (some ⟨p, 0, none⟩), .agg #[.int .i64 m1, .int .i64 m2, .int .i64 m3]] W fun e W' => e = .returned (.int .i64 (stepR (ts.map valNode) s m2).1) ∧ FStep lo p (.slice (some ⟨gb, goff, none⟩) ts.length gc) sv (FO p bb xs ev fv uv) W W' (stepR (ts.map valNode) s m2).2 := by
  have hb0 := below1 W (.cells #[.int .i64 m1, .int .i64 m2, .int .i64 m3] 74)
  have hlo : lo ≤ W.heap.size := Nat.le_of_lt (Nat.lt_of_le_of_lt h.lop h.box.size)
  have F0 := h.later hb0
  have hp := h.box.size
  obtain ⟨V, hV⟩ : ∃ V, V = W.alloc (.cells #[.int .i64 m1, .int .i64 m2, .int .i64 m3] 74) := ⟨_, rfl⟩
  rw [← hV] at hb0 F0
  have HF0 := hid F0
  have HB0 := hid hb0
  have HV := hid hV
  have M0 := Bx.new (w := W) [.int .i64 m1, .int .i64 m2, .int .i64 m3] 74 rfl
  rw [← hV] at M0
  have b1 := M0.c 1 rfl
  have hfc := firstCode_any lo V p bb (some ⟨gb, goff, none⟩) gc sv xs ev fv uv s m2 (by rw [hn]; exact F0)
  have HFC := hid hfc
  clear hfc
  by_cases hin : 0 ≤ m2 ∧ m2 < s.bx.length
  · obtain ⟨k, rfl⟩ : ∃ k : Nat, m2 = (k : Int) := ⟨m2.toNat, by omega⟩
    have hk : k < s.bx.length := by omega
    cases hbx : el s.bx k with
    | nil =>
      have HR : Hid (stepR (ts.map valNode) s (k : Int) = (5, s)) := by rw [Hid, stepR, if_pos hin, Int.toNat_natCast, hbx]
      have h5 : firstR s (k : Int) = 5 := by rw [firstR, if_pos hin, Int.toNat_natCast, hbx]; rfl
      rw [h5] at HFC
      clear F0 hin h5 hV hb0 M0
      go_enter Tryz.func106, Tryz.ntmps106
      go_wp2_with fail
      rw [← HV.out]
      refine HFC.out.mono ?_
      rintro e w2 ⟨rfl, hw2⟩
      rw [hw2]; clear hw2 w2
      go_wp2
      go_ret
      rw [HR.out]
      exact ⟨rfl, FStep.same h HB0.out⟩
    | cons t r =>
      obtain ⟨t1, t2, t3⟩ := t
      have hkt : k < ts.length := by omega
      have h5 : firstR s (k : Int) = 0 := by rw [firstR, if_pos hin, Int.toNat_natCast, hbx]; rfl
      rw [h5] at HFC
      obtain ⟨ho, hc, hsl, hcn, hFr⟩ := F0.hnd.slice hk
      rw [hbx] at hsl hFr
      obtain ⟨g, rfl, hg1, hg2, hg3, hgo⟩ := hFr.at (by simp)
      simp only [List.length_cons] at hsl
      have c5 := F0.box.c 5 rfl
      have c0 := F0.box.c 0 rfl
      have ck := (F0.head hk).1
      rw [hsl] at ck
      have hki : (k : Int) < (s.bx.length : Int) := by omega
      have hkg : (k : Int) < (ts.length : Int) := by omega
      have hr1 : (0 : Int) < ((r.length + 1 : Nat) : Int) := by omega
      obtain ⟨b0, off0, e0, hbl, hcs⟩ := kTk_at hFr.in (k := 0) (by simp)
      simp at e0
      obtain ⟨rfl, rfl⟩ := e0
      obtain ⟨d0, d1, d2⟩ := hcs 0 (by simp)
      have P0 : V.cell? ⟨p, 5, none⟩ = some (.slice (some ⟨bb, 0, none⟩) s.bx.length s.bx.length) ∧ V.cell? ⟨W.heap.size, 1, none⟩ = some (.int .i64 (k : Int)) ∧ V.cell? ⟨bb, k, none⟩ = some (.slice (some ⟨g, 0, none⟩) (r.length + 1) hc) ∧ V.cell? ⟨g, 0, none⟩ = some (.int .i64 t1) ∧ V.cell? ⟨g, 1, none⟩ = some (.int .i64 t2) ∧ V.cell? ⟨g, 2, none⟩ = some (.int .i64 t3) := ⟨c5, b1, ck, d0, d1, d2⟩
      have hn1 := World.new_ne V ⟨p, 5, none⟩ c5
      have hn2 := World.new_ne V ⟨W.heap.size, 1, none⟩ b1
      have hn3 := World.new_ne V ⟨bb, k, none⟩ ck
      have hn4 := World.new_ne V ⟨g, 0, none⟩ d0
      have HM0 := hid M0
      obtain ⟨b9, off9, e9, hb9, hc9⟩ := hNode_at hz.1 hkt
      obtain ⟨rfl, rfl⟩ : gb = b9 ∧ goff = off9 := by simp at e9; exact e9
      obtain ⟨_, c1, c2, c3, _, _⟩ := hc9 k hkt
      have hst : stApp (ts.map valNode) k t2 = appR (el ts k).2.1 (el ts k).2.2.1 (el ts k).2.2.2.1 t2 := by rw [stApp, el_val hkt]; rfl
      obtain ⟨⟨nm, kd, sa, sb, cp, ⟨nxo, nxc, nx⟩⟩, ex⟩ : ∃ v, v = el ts k := ⟨_, rfl⟩
      rw [← ex] at c1 c2 c3 hst
      dsimp only at c1 c2 c3 hst
      have HAP := implApp_any kd sa sb t2
      have hol := appR_len kd sa sb t2
      rcases hA : appR kd sa sb t2 with ⟨out, fl, ok⟩
      rw [hA] at hst HAP hol
      dsimp only at hol
      have HRS := hid (stepR_at hk hbx hst)
      have HAPP := hid HAP
      have HC1 := hid (And.intro c1 (And.intro c2 c3))
      clear ex hc9 e9 hst HAP hA c1 c2 c3
      have HP0 := hid P0
      clear F0 hin h5 hV hb0 M0 ck d0 d1 d2 hcs hFr c0 c5
      go_enter Tryz.func106, Tryz.ntmps106
      go_wp2_with fail
      rw [← HV.out]
      refine HFC.out.mono ?_
      rintro e w2 ⟨rfl, hw2⟩
      rw [hw2]; clear hw2 w2 HFC
      go_wp2_with fail
      go_region_held3 (fun Y => Y.cell? ⟨p, 5, none⟩ = some (.slice (some ⟨bb, 0, none⟩) s.bx.length s.bx.length) ∧ Y.cell? ⟨W.heap.size, 1, none⟩ = some (.int .i64 (k : Int)) ∧ Y.cell? ⟨bb, k, none⟩ = some (.slice (some ⟨g, 0, none⟩) (r.length + 1) hc) ∧ Y.cell? ⟨g, 0, none⟩ = some (.int .i64 t1) ∧ Y.cell? ⟨g, 1, none⟩ = some (.int .i64 t2) ∧ Y.cell? ⟨g, 2, none⟩ = some (.int .i64 t3))
        (first | (with_reducible exact P0) | go_keep) (fail)
      rename_i hHeld
      clear hHeld
      obtain ⟨X, hX⟩ : ∃ X, X = (V.alloc (.cells #[.int .i64 t1, .int .i64 t2, .int .i64 t3] 104)).drew := ⟨_, rfl⟩
      rw [← hX]
      have hbX : Below V.heap.size V X := by rw [hX]; exact (below1 _ _).drew
      have TX : Bx X V.heap.size [.int .i64 t1, .int .i64 t2, .int .i64 t3] := by rw [hX]; exact (Bx.new [.int .i64 t1, .int .i64 t2, .int .i64 t3] _ rfl).drew
      have hBX : Below W.heap.size W X := HB0.out.trans (hbX.mono HB0.out.size)
      have hVW : W.heap.size ≤ V.heap.size := HB0.out.size
      have hVX : V.heap.size < X.heap.size := TX.size
      have HS : Hid (∀ Y, Below X.heap.size X Y → Y.cell? ⟨p, 0, none⟩ = some (.slice (some ⟨gb, goff, none⟩) ts.length gc) ∧ Y.cell? ⟨W.heap.size, 1, none⟩ = some (.int .i64 (k : Int)) ∧ Y.cell? ⟨gb, goff + k * 6 + 1, none⟩ = some (.int .i64 kd) ∧ Y.cell? ⟨gb, goff + k * 6 + 2, none⟩ = some (.int .i64 sa) ∧ Y.cell? ⟨gb, goff + k * 6 + 3, none⟩ = some (.int .i64 sb) ∧ Y.cell? ⟨V.heap.size, 1, none⟩ = some (.int .i64 t2)) := fun Y hY => by
        have hBY := hBX.trans (hY.mono hBX.size)
        have F := h.later hBY
        have M := HM0.out.later (hbX.trans (hY.mono hbX.size))
        have T := TX.later hY
        exact ⟨F.box.c 0 rfl, M.c 1 rfl, (hBY.cell (p := ⟨gb, goff + k * 6 + 1, none⟩) (by dsimp only; omega)).trans HC1.out.1, (hBY.cell (p := ⟨gb, goff + k * 6 + 2, none⟩) (by dsimp only; omega)).trans HC1.out.2.1, (hBY.cell (p := ⟨gb, goff + k * 6 + 3, none⟩) (by dsimp only; omega)).trans HC1.out.2.2, T.c 1 rfl⟩
      have PU := HS.out X (Below.refl _ _)
      have PE := HS.out X.drew (Below.refl _ _).drew
      have HAC := hid (HAPP.out X.drew)
      have HBX := hid hBX
      have HTX := hid TX
      have HbX := hid hbX
      clear hX hbX TX hBX P0 b1 HAPP
      go_wp2_with fail
      go_region_held3 (fun Y => Y.cell? ⟨p, 0, none⟩ = some (.slice (some ⟨gb, goff, none⟩) ts.length gc) ∧ Y.cell? ⟨W.heap.size, 1, none⟩ = some (.int .i64 (k : Int)) ∧ Y.cell? ⟨gb, goff + k * 6 + 1, none⟩ = some (.int .i64 kd) ∧ Y.cell? ⟨gb, goff + k * 6 + 2, none⟩ = some (.int .i64 sa) ∧ Y.cell? ⟨gb, goff + k * 6 + 3, none⟩ = some (.int .i64 sb) ∧ Y.cell? ⟨V.heap.size, 1, none⟩ = some (.int .i64 t2))
        (first | (with_reducible exact PU) | (with_reducible exact PE) | (with_reducible exact P3))
        ((go_at_call 145; refine HAC.out.mono ?_; rintro e w3 ⟨⟨o, c, rfl, hoc, hfr⟩, hb3⟩; have P3 := HS.out w3 ((Below.refl _ _).drew.trans hb3)))
      have B3 : Below W.heap.size W w3 := HBX.out.trans ((((Below.refl _ _).drew).trans hb3).mono HBX.out.size)
      have F3 := h.later B3
      have q1 := P3.2.1
      have hX3 : X.heap.size ≤ w3.heap.size := hb3.size
      have T3 := HTX.out.later (((Below.refl _ _).drew).trans hb3)
      have M3 := HM0.out.later (HbX.out.trans ((((Below.refl _ _).drew).trans hb3).mono HbX.out.size))
      have hmany : s.bx.length ≤ 10 := by have := hE.many; rw [List.length_map] at this; omega
      have HM3 := hid M3
      have HT3 := hid T3
      have HF3 := hid F3
      have HB3 := hid B3
      have HFR := hid hfr
      clear PU PE P3 HS HAC M3 T3 F3 B3 hfr hb3
      try dsimp only
      cases fl
      case true =>
        have HRf : Hid (stepR (ts.map valNode) s (k : Int) = (0, failP s k t1 t2 t3 r)) := HRS.out.trans (if_pos rfl)
        have hb9 := htr k t1 t2 t3 r hbx
        have HFF := hid (failFirst_any lo w3 p bb _ sv xs ev fv uv s k t1 t2 t3 r HF3.out hk hbx hmany (by omega) hfu h0 h1 hb9.1 hb9.2)
        go_wp2_with fail
        refine HFF.out.mono ?_
        rintro e w4 ⟨⟨v4, rfl⟩, hs4⟩
        have HS4 := hid (FStep.start h HB3.out hs4)
        clear hs4
        go_wp2
        go_ret
        rw [HRf.out]
        exact ⟨rfl, HS4.out⟩
      case false =>
        have HIB := hid (isBlocked_any lo w3 p bb gb goff gc ts sv xs ev fv uv s k (out.length : Int) HF3.out hn hkt (Nat.le_trans hlo HB3.out.size) (hz.below dNode_ok (HB3.out.mono hlo)) hE hcap (by omega))
        have HR1 := hid (HRS.out.trans (if_neg (by simp)))
        rcases hbk : blkP (ts.map valNode) s.bx k (out.length : Int) with _ | _
        case true =>
          rw [hbk] at HIB
          go_wp2_with fail
          refine HIB.out.mono ?_
          rintro e w4 ⟨rfl, hb4⟩
          have HB4 := hid (HB3.out.trans (hb4.mono HB3.out.size))
          clear hb4
          go_wp2
          go_ret
          rw [HR1.out, if_pos hbk]
          exact ⟨rfl, FStep.same h HB4.out⟩
        case false =>
          rw [hbk] at HIB
          have HR2 := hid (HR1.out.trans (if_neg (by rw [hbk]; simp)))
          clear HR1 HRS hbk
          go_wp2_with fail
          refine HIB.out.mono ?_
          rintro e w4 ⟨rfl, hb4⟩
          have HB4 := hid (HB3.out.trans (hb4.mono HB3.out.size))
          have HM4 := hid (HM3.out.later hb4)
          have HT4 := hid (HT3.out.later hb4)
          have q4 := HM4.out.c 1 rfl
          have h34 := hb4.size
          have Hb4 := hid hb4
          have HTK := hid (take_any lo w4 p bb _ sv xs ev fv uv s k t1 t2 t3 r (h.later HB4.out) hk hbx (by omega))
          have hs0 := totT_set (ls := s.bx) (k := k) r hk
          rw [hbx, List.length_cons] at hs0
          clear hb4 HIB q1 HF3
          go_wp2_with fail
          refine HTK.out.mono ?_
          rintro e w5 ⟨rfl, hs5⟩
          obtain ⟨s1, hs1⟩ : ∃ s1 : PP, s1 = { s with bx := s.bx.set k r } := ⟨_, rfl⟩
          rw [← hs1] at hs5 HR2
          have e1 : s1.bx.length = ts.length := by rw [hs1]; exact (List.length_set ..).trans hn
          have e2 : totT s1.bx + 1 = totT s.bx := by rw [hs1]; show totT (s.bx.set k r) + 1 = _; omega
          have e3 : s1.em.length = s.em.length := by rw [hs1]
          have HS5 := hid hs5
          clear hs5 HTK hs1
          go_wp2
          go_loopw [63] (fun i wr => ∃ m : Nat, m ≤ out.length ∧ i = .int .i64 (m : Int) ∧ Hid (FStep lo p (.slice (some ⟨gb, goff, none⟩) ts.length gc) sv (FO p bb xs ev fv uv) w4 wr (leadAll (ts.map valNode) k t1 (out.take m) s1))) (fun i _ => out.length - (intOf i).toNat)
          case atStart => exact ⟨0, Nat.zero_le _, rfl, HS5⟩
          case round =>
            obtain ⟨m, hm, rfl, hS⟩ := hrel
            by_cases hlt : m < out.length
            · obtain ⟨bb2, xs2, ev2, fv2, uv2, F2, hk2, hB2, _, hgo⟩ := hS.out.next
              have km := hk2 W.heap.size HM4.out.size (h.far (Nat.le_refl _))
              have kt := hk2 V.heap.size HT4.out.size (h.far hVW)
              have qm1 := (World.cell?_of_block (a := ⟨W.heap.size, 1, none⟩) km).trans (HM4.out.c 1 rfl)
              have t0 := (World.cell?_of_block (a := ⟨V.heap.size, 0, none⟩) kt).trans (HT4.out.c 0 rfl)
              obtain ⟨g2, eg2, hg4, hg5, hg6, _⟩ := HFR.out.at (by omega)
              obtain ⟨nb, noff, eo, hnb, hnc⟩ := ints_at HFR.out.in hlt
              obtain ⟨rfl, rfl⟩ : g2 = nb ∧ 0 = noff := by rw [eg2] at eo; simp at eo; exact eo
              have kn := hk2 g2 (by omega) (h.far (Nat.le_trans hVW (Nat.le_trans (Nat.le_of_lt hVX) hg4)))
              have cm := (World.cell?_of_block (a := ⟨g2, 0 + m, none⟩) kn).trans ((Hb4.out.cell (p := ⟨g2, 0 + m, none⟩) hnb).trans (hnc m hlt))
              rw [Nat.zero_add] at cm
              have HT := hid (take_succ_el hlt)
              have a1 := leadAll_len (ts.map valNode) k t1 (out.take m) s1
              have a2 := leadAll_tot t1 (by rw [List.length_map]; exact hkt) hE (out.take m) s1 (by rw [List.length_map]; exact e1)
              have a3 := leadAll_em (ts.map valNode) k t1 (out.take m) s1
              have hlm : (out.take m).length = m := by simp; omega
              have HLD := hid (lead_any lo wr p bb2 gb goff gc ts sv xs2 ev2 fv2 uv2 _ k t1 (el out m) F2 (a1.trans e1) hkt (hz.below dNode_ok ((HB4.out.mono hlo).trans hB2)) hE (by omega) (by omega))
              have HN : Hid (∀ w2, FStep lo p (.slice (some ⟨gb, goff, none⟩) ts.length gc) sv (FO p bb2 xs2 ev2 fv2 uv2) wr w2 (leadR (ts.map valNode) (leadAll (ts.map valNode) k t1 (out.take m) s1) k t1 (el out m)) → Hid (FStep lo p (.slice (some ⟨gb, goff, none⟩) ts.length gc) sv (FO p bb xs ev fv uv) w4 w2 (leadAll (ts.map valNode) k t1 (out.take (m + 1)) s1))) := fun w2 h2 => by
                rw [HT.out, leadAll_snoc]
                exact hgo _ _ _ (Below.refl _ _) h2
              subst eg2
              clear hgo F2 hS a1 a2 a3 hlm km kt kn hk2 hnc q4
              go_wp2_with fail
              refine HLD.out.mono ?_
              rintro e w6 ⟨⟨u6, rfl⟩, h6⟩
              have H6 := HN.out w6 h6
              clear h6 HN HLD
              go_wp2
              go_roundw
              case rel => exact ⟨m + 1, by omega, by go_num, H6⟩
              case measure => simp [intOf]; omega
            · obtain rfl : m = out.length := by omega
              rw [List.take_length] at hS
              go_wp2
              go_ret
              rw [HR2.out]
              exact ⟨rfl, FStep.start h HB4.out hS.out⟩
  · have HR : Hid (stepR (ts.map valNode) s m2 = (2, s)) := by rw [Hid, stepR, if_neg hin]
    have h5 : firstR s m2 = 2 := by rw [firstR, if_neg hin]
    rw [h5] at HFC
    clear F0 hin h5 hV hb0 M0
    go_enter Tryz.func106, Tryz.ntmps106
    go_wp2_with fail
    rw [← HV.out]
    refine HFC.out.mono ?_
    rintro e w2 ⟨rfl, hw2⟩
    rw [hw2]; clear hw2 w2
    go_wp2
    go_ret
    rw [HR.out]
    exact ⟨rfl, FStep.same h HB0.out⟩
end
section
open Go.RowKit

theorem Tryz.entersM1 : ∀ args w, (callFunc 129 args).run Tryz.prog w = .ok (.enter 129 args) w := enters_of Tryz.func129 (by kernel_rfl) rfl
theorem Tryz.entersM2 : ∀ args w, (callFunc 106 args).run Tryz.prog w = .ok (.enter 106 args) w := enters_of Tryz.func106 (by kernel_rfl) rfl
theorem Tryz.entersM3 : ∀ args w, (callFunc 130 args).run Tryz.prog w = .ok (.enter 130 args) w := enters_of Tryz.func130 (by kernel_rfl) rfl
theorem Tryz.entersM4 : ∀ args w, (callFunc 131 args).run Tryz.prog w = .ok (.enter 131 args) w := enters_of Tryz.func131 (by kernel_rfl) rfl
theorem Tryz.entersM5 : ∀ args w, (callFunc 132 args).run Tryz.prog w = .ok (.enter 132 args) w := enters_of Tryz.func132 (by kernel_rfl) rfl
theorem Tryz.entersM6 : ∀ args w, (callFunc 133 args).run Tryz.prog w = .ok (.enter 133 args) w := enters_of Tryz.func133 (by kernel_rfl) rfl
theorem FStep.kept {lo : Nat} {W V W' : World} {p bb : Nat} {gv sv : Value} {xs : List Value} {ev fv uv : Value} {s s2 : PP} (h : FStep lo p gv sv (FO p bb xs ev fv uv) V W' s2) (hF : Flow lo W p bb gv sv xs ev fv uv s) : ∀ b, W.heap.size ≤ b → b < V.heap.size → W'.heap[b]? = V.heap[b]? := fun b h1 h2 => by
  obtain ⟨_, _, _, _, k⟩ := h
  exact k b h2 (hF.far h1)
set_option maxHeartbeats 1000000 in
theorem do_bad (m1 m2 m3 : Int) (hbad : m1 < 1 ∨ 6 < m1) (hm : m1 ≤ 9223372036854775807) (W : World) (p : Nat) :
    Calls Tryz.prog 69 #[.pointer (some ⟨p, 0, none⟩), .agg #[.int .i64 m1, .int .i64 m2, .int .i64 m3]] W fun e w' => e = .returned (.int .i64 1) ∧ Below W.heap.size W w' := by
  have hb0 := below1 W (.cells #[.int .i64 m1, .int .i64 m2, .int .i64 m3] 74)
  obtain ⟨V, hV⟩ : ∃ V, V = W.alloc (.cells #[.int .i64 m1, .int .i64 m2, .int .i64 m3] 74) := ⟨_, rfl⟩
  rw [← hV] at hb0
  have HV := hid hV
  have M0 := Bx.new (w := W) [.int .i64 m1, .int .i64 m2, .int .i64 m3] 74 rfl
  rw [← hV] at M0
  clear hV
  by_cases hlow : m1 < 1
  · have hd : decide (m1 < 1) = true := by simpa using hlow
    clear hbad
    go_enter Tryz.func69, Tryz.ntmps69
    go_wp2_with fail
    rw [← HV.out]
    refine (moves_is V).mono ?_
    rintro e w2 ⟨rfl, hX, hb2⟩
    have q0 := (M0.later hb2).c 0 rfl
    have hB2 : Below W.heap.size W w2 := hb0.trans (hb2.mono hb0.size)
    clear hX hb2 M0
    go_wp2
    go_ret
    exact ⟨rfl, hB2⟩
  · have hd : decide (m1 < 1) = false := by simpa using hlow
    have hw1 : IntKind.i64.wrap (m1 - 1) = m1 - 1 := by rw [IntKind.wrap_i64]; omega
    have hd2 : decide ((6 : Int) ≤ m1 - 1) = true := by simp; omega
    clear hbad
    go_enter Tryz.func69, Tryz.ntmps69
    go_wp2_with fail
    rw [← HV.out]
    refine (moves_is V).mono ?_
    rintro e w2 ⟨rfl, hX, hb2⟩
    have q0 := (M0.later hb2).c 0 rfl
    have hB2 : Below W.heap.size W w2 := hb0.trans (hb2.mono hb0.size)
    clear hX hb2 M0
    go_wp2
    go_ret
    exact ⟨rfl, hB2⟩
theorem do_any (lo : Nat) (W : World) (p bb gb goff gc : Nat) (ts : List LNode) (so : Option Addr) (sc : Nat) (src : List Int) (xs : List Value) (ev fv uv : Value) (s : PP) (m1 m2 m3 : Int) (n : Nat) (h : Flow lo W p bb (.slice (some ⟨gb, goff, none⟩) ts.length gc) (.slice so src.length sc) xs ev fv uv s) (hz : DIn dNode lo W (some ⟨gb, goff, none⟩) ts) (hI : kI.In lo W so src) (hrs : ∀ x ∈ src, ∃ j : Nat, j < ts.length ∧ x = (j : Int)) (hsl : src.length ≤ 1000) (hE : EdgesIn (ts.map valNode)) (hcap : ∀ j, j < ts.length → 0 ≤ capP (ts.map valNode) j ∧ capP (ts.map valNode) j ≤ 1000) (hB : BndP ts.length n s) (hn : n ≤ 1000) (hm : m1 ≤ 9223372036854775807) :
    Calls Tryz.prog 69 #[.pointer (some ⟨p, 0, none⟩), .agg #[.int .i64 m1, .int .i64 m2, .int .i64 m3]] W fun e W' => e = .returned (.int .i64 (doR (ts.map valNode) src s m1 m2 m3).1) ∧ FStep lo p (.slice (some ⟨gb, goff, none⟩) ts.length gc) (.slice so src.length sc) (FO p bb xs ev fv uv) W W' (doR (ts.map valNode) src s m1 m2 m3).2 := by
  have hlo : lo ≤ W.heap.size := Nat.le_of_lt (Nat.lt_of_le_of_lt h.lop h.box.size)
  have hN := hB.len
  have hmany : s.bx.length ≤ 10 := by have := hE.many; rw [List.length_map] at this; omega
  have h1 := hB.tot
  have h2 := hB.em
  have h3 := hB.fu
  have h4 := hB.it1
  have htr : ∀ k t1 t2 t3 r, el s.bx k = (t1, t2, t3) :: r → 0 ≤ t3 ∧ t3 ≤ 1000 := fun k t1 t2 t3 r hr => by
    have := hB.tr k (t1, t2, t3) (by rw [hr]; simp)
    dsimp only at this; omega
  by_cases k1 : m1 = 1
  · subst k1
    rw [show doR (ts.map valNode) src s 1 m2 m3 = offerR (ts.map valNode) src s m2 m3 from by simp [doR]]
    exact do_at _ Tryz.entersM1 1 0 (by simp) rfl W p m2 m3 _ (fun W' => FStep lo p (.slice (some ⟨gb, goff, none⟩) ts.length gc) (.slice so src.length sc) (FO p bb xs ev fv uv) W W' (offerR (ts.map valNode) src s m2 m3).2) fun V hV =>
      (offer_any lo V p bb gb goff gc ts so sc src xs ev fv uv s 1 m2 m3 (h.later hV) hN (hz.below dNode_ok (hV.mono hlo)) (hI.below (hV.mono hlo)) hrs hsl hcap (by omega) hB.it0 (by omega)).mono fun e w' hh => ⟨hh.1, FStep.start h hV hh.2, hh.2.kept h⟩
  by_cases k2 : m1 = 2
  · subst k2
    rw [show doR (ts.map valNode) src s 2 m2 m3 = stepR (ts.map valNode) s m2 from by simp [doR]]
    exact do_at _ Tryz.entersM2 2 1 (by simp) rfl W p m2 m3 _ (fun W' => FStep lo p (.slice (some ⟨gb, goff, none⟩) ts.length gc) (.slice so src.length sc) (FO p bb xs ev fv uv) W W' (stepR (ts.map valNode) s m2).2) fun V hV =>
      (step_any lo V p bb gb goff gc ts _ xs ev fv uv s 2 m2 m3 (h.later hV) hN (hz.below dNode_ok (hV.mono hlo)) hE hcap (by omega) (by omega) (by omega) hB.ti0 hB.ti1 htr).mono fun e w' hh => ⟨hh.1, FStep.start h hV hh.2, hh.2.kept h⟩
  by_cases k3 : m1 = 3
  · subst k3
    rw [show doR (ts.map valNode) src s 3 m2 m3 = faultR s m2 from by simp [doR]]
    refine do_at _ Tryz.entersM3 3 2 (by simp) rfl W p m2 m3 _ (fun W' => FStep lo p (.slice (some ⟨gb, goff, none⟩) ts.length gc) (.slice so src.length sc) (FO p bb xs ev fv uv) W W' (faultR s m2).2) fun V hV => ?_
    have hf := fault_any lo V p bb (some ⟨gb, goff, none⟩) gc (.slice so src.length sc) xs ev fv uv s 3 m2 m3 (by rw [hN]; exact h.later hV) hmany (by omega) (by omega) hB.ti0 hB.ti1 htr
    rw [hN] at hf
    exact hf.mono fun e w' hh => ⟨hh.1, FStep.start h hV hh.2, hh.2.kept h⟩
  by_cases k4 : m1 = 4
  · subst k4
    rw [show doR (ts.map valNode) src s 4 m2 m3 = tickR s m3 from by simp [doR]]
    exact do_at _ Tryz.entersM4 4 3 (by simp) rfl W p m2 m3 _ (fun W' => FStep lo p (.slice (some ⟨gb, goff, none⟩) ts.length gc) (.slice so src.length sc) (FO p bb xs ev fv uv) W W' (tickR s m3).2) fun V hV =>
      (tick_any lo V p bb _ _ xs ev fv uv s 4 m2 m3 (h.later hV) hB.ti0 hB.ti1).mono fun e w' hh => ⟨hh.1, FStep.start h hV hh.2, hh.2.kept h⟩
  by_cases k5 : m1 = 5
  · subst k5
    rw [show doR (ts.map valNode) src s 5 m2 m3 = drainR s from by simp [doR]]
    exact do_at _ Tryz.entersM5 5 4 (by simp) rfl W p m2 m3 _ (fun W' => FStep lo p (.slice (some ⟨gb, goff, none⟩) ts.length gc) (.slice so src.length sc) (FO p bb xs ev fv uv) W W' (drainR s).2) fun V hV =>
      (drain_any lo V p bb _ _ xs ev fv uv s 5 m2 m3 (h.later hV)).mono fun e w' hh => ⟨hh.1, FStep.start h hV hh.2, hh.2.kept h⟩
  by_cases k6 : m1 = 6
  · subst k6
    rw [show doR (ts.map valNode) src s 6 m2 m3 = abortR s from by simp [doR]]
    exact do_at _ Tryz.entersM6 6 5 (by simp) rfl W p m2 m3 _ (fun W' => FStep lo p (.slice (some ⟨gb, goff, none⟩) ts.length gc) (.slice so src.length sc) (FO p bb xs ev fv uv) W W' (abortR s).2) fun V hV =>
      (abort_any lo V p bb _ _ xs ev fv uv s 6 m2 m3 (h.later hV) hmany (by omega)).mono fun e w' hh => ⟨hh.1, FStep.start h hV hh.2, hh.2.kept h⟩
  have hR : doR (ts.map valNode) src s m1 m2 m3 = (1, s) := by simp [doR, k1, k2, k3, k4, k5, k6]
  rw [hR]
  exact (do_bad m1 m2 m3 (by omega) hm W p).mono fun e w' hh => ⟨hh.1, FStep.same h hh.2⟩
end
section
open Go.RowKit

/-- What moves do one after another: the codes, and what the pipe holds. -/
def playP (gs : List PNode) (src : List Int) (l : List (Int × Int × Int)) (s : PP) : List Int × PP :=
  l.foldl (fun a m => (a.1 ++ [(doR gs src a.2 m.1 m.2.1 m.2.2).1], (doR gs src a.2 m.1 m.2.1 m.2.2).2)) ([], s)
theorem playP_nil (gs : List PNode) (src : List Int) (s : PP) : playP gs src [] s = ([], s) := rfl
theorem playP_snoc (gs : List PNode) (src : List Int) (l : List (Int × Int × Int)) (m : Int × Int × Int) (s : PP) :
    playP gs src (l ++ [m]) s = ((playP gs src l s).1 ++ [(doR gs src (playP gs src l s).2 m.1 m.2.1 m.2.2).1], (doR gs src (playP gs src l s).2 m.1 m.2.1 m.2.2).2) := by
  rw [playP, List.foldl_append]; rfl
theorem playP_len (gs : List PNode) (src : List Int) (l : List (Int × Int × Int)) (s : PP) : ∀ n, n ≤ l.length → (playP gs src (l.take n) s).1.length = n
  | 0, _ => rfl
  | n + 1, h => by
    rw [take_succ_el (by omega), playP_snoc]
    simp only [List.length_append, List.length_singleton]
    rw [playP_len gs src l s n (by omega)]
theorem playP_bnd {gs : List PNode} (src : List Int) (hE : EdgesIn gs) (l : List (Int × Int × Int)) {s : PP} (h : BndP gs.length 0 s) : ∀ n, n ≤ l.length → BndP gs.length n (playP gs src (l.take n) s).2
  | 0, _ => h
  | n + 1, hn => by
    rw [take_succ_el (by omega), playP_snoc]
    exact (playP_bnd src hE l h n (by omega)).move hE _ _ _
theorem Flow.keep {lo : Nat} {W W' : World} {p bb : Nat} {gv sv : Value} {xs : List Value} {ev fv uv : Value} {s : PP} (h : Flow lo W p bb gv sv xs ev fv uv s) (hs : W.heap.size ≤ W'.heap.size) (hk : ∀ b, FO p bb xs ev fv uv b → W'.heap[b]? = W.heap[b]?) : Flow lo W' p bb gv sv xs ev fv uv s :=
  ⟨h.box.keep hs (hk p (.inl rfl)), h.hnd.keep (hk bb (.inr (.inl rfl))) (fun j hj b hb => hk b (.inr (.inr (.inl ⟨j, by rw [h.hnd.len]; exact hj, hb⟩)))), own_keep h.emo (fun b hb => hk b (.inr (.inr (.inr (.inl hb))))), own_keep h.fao (fun b hb => hk b (.inr (.inr (.inr (.inr (.inl hb)))))), own_keep h.fuo (fun b hb => hk b (.inr (.inr (.inr (.inr (.inr hb)))))), h.lop, h.lob, h.pbb, h.px, h.pe, h.pf, h.pu⟩
end
section
open Go.RowKit

def kMv : Kind (Int × Int × Int) := ⟨74, 36, 3, fun t => [.int .i64 t.1, .int .i64 t.2.1, .int .i64 t.2.2], fun _ => rfl, fun a v h => by simp at h; rcases h with rfl | rfl | rfl <;> rfl⟩
theorem kMv_at {n : Nat} {W : World} {ao : Option Addr} {ts : List (Int × Int × Int)} (h : kMv.In n W ao ts) {k : Nat} (hk : k < ts.length) :
    ∃ b off, ao = some ⟨b, off, none⟩ ∧ b < n ∧ ∀ j, j < ts.length → W.cell? ⟨b, off + j * 3, none⟩ = some (.int .i64 (el ts j).1) ∧ W.cell? ⟨b, off + j * 3 + 1, none⟩ = some (.int .i64 (el ts j).2.1) ∧ W.cell? ⟨b, off + j * 3 + 2, none⟩ = some (.int .i64 (el ts j).2.2) := by
  obtain ⟨b, off, e, hb, hc⟩ := h.pos hk
  exact ⟨b, off, e, hb, fun j hj => ⟨hc j hj 0 (by decide), hc j hj 1 (by decide), hc j hj 2 (by decide)⟩⟩
theorem srcP_rng (gs : List PNode) (n : Nat) : ∀ x ∈ srcP gs n, ∃ j : Nat, j < n ∧ x = (j : Int) := fun x hx => by
  have h := (List.mem_filter.1 hx).1
  simp only [numsI, List.mem_map, List.mem_range] at h
  obtain ⟨j, hj, rfl⟩ := h
  exact ⟨j, hj, rfl⟩
/-- The boxes of a good graph are neither too small nor too great. -/
theorem caps_of {gs : List PNode} (h : brk gs 3 = false) : ∀ j, j < gs.length → 0 ≤ capP gs j ∧ capP gs j ≤ 1000 := fun j hj => by
  have := brk_at h hj
  simp only [prule, Int.toNat_natCast, Bool.or_eq_false_iff, decide_eq_false_iff_not] at this
  rw [capP]; omega
/-- The codes lie apart from the flow, and behind a move too. -/
theorem FStep.codes {lo p : Nat} {gv sv : Value} {W W1 : World} {bb : Nat} {xs : List Value} {ev fv uv : Value} {s : PP} {v : Value} {l : List Int} (h : FStep lo p gv sv (FO p bb xs ev fv uv) W W1 s) (ho : kI.Own lo W v l) (ha : ∀ b, v.ownBlock = some b → ¬ FO p bb xs ev fv uv b) :
    ∃ bb2 xs2 ev2 fv2 uv2, Flow lo W1 p bb2 gv sv xs2 ev2 fv2 uv2 s ∧ kI.Own lo W1 v l ∧ (∀ b, v.ownBlock = some b → ¬ FO p bb2 xs2 ev2 fv2 uv2 b) ∧ Below lo W W1 := by
  obtain ⟨bb2, xs2, ev2, fv2, uv2, F, hk, hb, hn, _⟩ := h.next
  refine ⟨bb2, xs2, ev2, fv2, uv2, F, own_keep ho (fun b hb2 => hk b (own_block_lt ho hb2).2 (ha b hb2)), fun b hb2 hO => ?_, hb⟩
  rcases hn b hO with h1 | h1
  · exact ha b hb2 h1
  · have := (own_block_lt ho hb2).2; omega
/-- A code is put behind the codes: the flow is as it was. -/
theorem Flow.code {lo : Nat} {W W' : World} {p bb : Nat} {gv sv : Value} {xs : List Value} {ev fv uv : Value} {s : PP} {v v' : Value} (h : Flow lo W p bb gv sv xs ev fv uv s) (ha : ∀ b, v.ownBlock = some b → ¬ FO p bb xs ev fv uv b) (hg : W.grownBy W' v.ownBlock) (hw : ∀ b, v'.ownBlock = some b → v.ownBlock = some b ∨ W.heap.size ≤ b) :
    Flow lo W' p bb gv sv xs ev fv uv s ∧ (∀ b, v'.ownBlock = some b → ¬ FO p bb xs ev fv uv b) := by
  refine ⟨h.keep hg.size fun b hb => hg.block b (h.old hb) (fun e => ha b e.symm hb), fun b hb hO => ?_⟩
  rcases hw b hb with h1 | h1
  · exact ha b h1 hO
  · have := h.old hO; omega
end
section
open Go.RowKit

/-- A pipe that was played on, and the codes. -/
def AnsPl (ao : Option Addr) (cap : Nat) (ts : List LNode) (ms : List (Int × Int × Int)) (w : World) (e : Ending) (w' : World) : Prop :=
  (if pipeB (ts.map valNode) = true ∧ ms.length ≤ 300 then ∃ lo p bb so sc xs ev fv uv v, e = .returned (.tuple #[.pointer (some ⟨p, 0, none⟩), v, .bool true]) ∧ w.heap.size ≤ lo ∧ kI.In lo w' so (srcP (ts.map valNode) ts.length) ∧
      Flow lo w' p bb (.slice ao ts.length cap) (.slice so (srcP (ts.map valNode) ts.length).length sc) xs ev fv uv (playP (ts.map valNode) (srcP (ts.map valNode) ts.length) ms (pp0 ts.length)).2 ∧ kI.Own lo w' v (playP (ts.map valNode) (srcP (ts.map valNode) ts.length) ms (pp0 ts.length)).1 ∧ ∀ b, v.ownBlock = some b → ¬ FO p bb xs ev fv uv b
   else e = .returned (.tuple #[.pointer none, .slice none 0 0, .bool false])) ∧ Below w.heap.size w w'
set_option maxRecDepth 10000 in
set_option maxHeartbeats 4000000 in
theorem played_any (ao : Option Addr) (cap : Nat) (ts : List LNode) (ea : Nat → Addr) (mo : Option Addr) (mc : Nat) (ms : List (Int × Int × Int)) (w : World) (hC : Roomy ts cap) (hE : Errs w ea) (hz : DIn dNode w.heap.size w ao ts) (hM : kMv.In w.heap.size w mo ms) (h64 : ∀ k, k < ms.length → (el ms k).1 ≤ 9223372036854775807) :
    Calls Tryz.prog 40 #[.slice ao ts.length cap, .slice mo ms.length mc] w (AnsPl ao cap ts ms w) := by
  have HF := hid (flowIn_any ao cap ts ea w hC hE hz)
  have HZ := hid hz
  have HM := hid hM
  have H64 := hid h64
  clear hC hE hM h64
  by_cases hok : pipeB (ts.map valNode) = true
  · by_cases hl : ms.length ≤ 300
    · have hd : decide ((300 : Int) < (ms.length : Int)) = false := by simp; omega
      have h0 : codeG (ts.map valNode) = 0 := by simp [pipeB] at hok; exact hok.1
      obtain ⟨hm, hbk, hor⟩ := codeG_zero h0
      have HED := hid (edges_of (by omega) (hbk 4 (by omega)))
      have HCP := hid (caps_of (hbk 3 (by omega)))
      have h1 : 0 < ts.length := by rw [val_len] at hm; omega
      have h10 : ts.length ≤ 10 := by rw [val_len] at hm; omega
      obtain ⟨gb, goff, rfl, hgb, _⟩ := hNode_at hz.1 h1
      clear hz h0 hm hbk hor
      go_enter Tryz.func40, Tryz.ntmps40
      go_wp2_with fail
      refine HF.out.mono ?_
      rintro e w1 ⟨hq, hb1⟩
      rw [if_pos hok] at hq
      obtain ⟨lo, p, bb, so, sc, xs, rfl, hlo, hI, F⟩ := hq
      have HB1 := hid hb1
      have HI := hid hI
      have HF0 := hid F
      clear hb1 hI F HF
      go_wp2
      obtain ⟨SRC, hSRC⟩ : ∃ q, q = srcP (ts.map valNode) ts.length := ⟨_, rfl⟩
      have hsrl : SRC.length ≤ 1000 := by rw [hSRC, srcP]; have := List.length_filter_le (fun x => decide (ledC (ts.map valNode) (ts.map valNode).length x.toNat = 0)) (numsI ts.length); rw [show (numsI ts.length).length = ts.length from by simp [numsI]] at this; omega
      have hsrg : ∀ x ∈ SRC, ∃ j : Nat, j < ts.length ∧ x = (j : Int) := by rw [hSRC]; exact srcP_rng _ _
      have HSR := hid hSRC
      rw [← hSRC] at HI HF0
      clear hSRC
      go_loopw [9, 26] (fun u i wr => ∃ (m : Nat) (v : Value), v = u ∧ i = .int .i64 (m : Int) ∧ m ≤ ms.length ∧ ∃ bb xs ev fv uv, Hid (Flow lo wr p bb (.slice (some ⟨gb, goff, none⟩) ts.length cap) (.slice so SRC.length sc) xs ev fv uv (playP (ts.map valNode) SRC (ms.take m) (pp0 ts.length)).2) ∧ Hid (kI.Own lo wr v (playP (ts.map valNode) SRC (ms.take m) (pp0 ts.length)).1) ∧ Hid (∀ b, v.ownBlock = some b → ¬ FO p bb xs ev fv uv b) ∧ Hid (Below lo w1 wr)) (fun _ i _ => ms.length - (intOf i).toNat)
      case atStart => exact ⟨0, _, rfl, rfl, Nat.zero_le _, bb, xs, _, _, _, HF0, Kind.Own.nil _ _ _, (fun b hb => by simp [Value.ownBlock] at hb), Below.refl _ _⟩
      case round =>
        obtain ⟨m, v, rfl, rfl, hm, bb, xs, ev, fv, uv, hF, hO, hA, hB⟩ := hrel
        by_cases hlt : m < ms.length
        · obtain ⟨b, off, rfl, hb, hc⟩ := kMv_at HM.out hlt
          obtain ⟨d0, d1, d2⟩ := hc m hlt
          have HW := hid (HB1.out.trans (hB.out.mono hlo))
          have e0 := (HW.out.cell (p := ⟨b, off + m * 3, none⟩) hb).trans d0
          have e1 := (HW.out.cell (p := ⟨b, off + m * 3 + 1, none⟩) hb).trans d1
          have e2 := (HW.out.cell (p := ⟨b, off + m * 3 + 2, none⟩) hb).trans d2
          have h6 := H64.out m hlt
          have HT := hid (take_succ_el hlt)
          have HBN := hid (playP_bnd SRC HED.out ms (by rw [val_len]; exact pp0_bnd ts.length) m hm)
          clear d0 d1 d2 hc
          go_wp2_with fail
          have hb6 := below1 wr (.cells #[.int .i64 (el ms m).1, .int .i64 (el ms m).2.1, .int .i64 (el ms m).2.2] 74)
          have hlr : lo ≤ wr.heap.size := Nat.le_of_lt (Nat.lt_of_le_of_lt hF.out.lop hF.out.box.size)
          have HBV := hid (HW.out.trans (hb6.mono HW.out.size))
          have HBN2 := HBN.out
          rw [val_len] at HBN2
          refine (do_any lo _ p bb gb goff cap ts so sc SRC xs ev fv uv _ (el ms m).1 (el ms m).2.1 (el ms m).2.2 m (hF.out.later hb6) ((HZ.out.below dNode_ok HBV.out).up dNode_ok hlo) ((HI.out.below hB.out).below (hb6.mono hlr)) hsrg hsrl HED.out (fun j hj => HCP.out j (by rw [val_len]; exact hj)) HBN2 (by omega) h6).mono ?_
          rintro e w4 ⟨rfl, hs4⟩
          obtain ⟨bb4, xs4, ev4, fv4, uv4, F4, O4, A4, B4⟩ := hs4.codes (hO.out.below hb6) hA.out
          obtain ⟨cd, hcd⟩ : ∃ cd, cd = (doR (ts.map valNode) SRC (playP (ts.map valNode) SRC (ms.take m) (pp0 ts.length)).2 (el ms m).1 (el ms m).2.1 (el ms m).2.2).1 := ⟨_, rfl⟩
          have hps := playP_snoc (ts.map valNode) SRC (ms.take m) (el ms m) (pp0 ts.length)
          rw [← hcd] at hps
          have hol := playP_len (ts.map valNode) SRC ms (pp0 ts.length) m hm
          rw [← hcd]
          obtain ⟨X, hX⟩ : ∃ X, X = w4.alloc (.cells #[.int .i64 cd] 3) := ⟨_, rfl⟩
          have hbX : Below w4.heap.size w4 X := by rw [hX]; exact below1 _ _
          have hNX : kI.In X.heap.size X (some ⟨w4.heap.size, 0, none⟩) [cd] := by
            have hx : Bx X w4.heap.size [.int .i64 cd] := by rw [hX]; exact Bx.new (w := w4) [.int .i64 cd] 3 rfl
            exact ints_mk hx.size fun j hj => by obtain rfl : j = 0 := by simp at hj; omega
                                                 exact hx.c 0 rfl
          have HX := hid hX
          have HFX := hid (F4.later hbX)
          have HOX := hid (O4.below hbX)
          have HN := hid hNX
          have HAX := hid A4
          have HBB : Hid (Below lo w1 X) := hB.out.trans (((hb6.mono hlr).trans B4).trans (hbX.mono (Nat.le_of_lt (Nat.lt_of_le_of_lt F4.lop F4.box.size))))
          have hlX : lo ≤ X.heap.size := Nat.le_of_lt (Nat.lt_of_le_of_lt HFX.out.lop HFX.out.box.size)
          have HPS := hid hps
          clear hX hbX hNX F4 O4 A4 B4 hcd hps HBN2 hb6 HBV e0 e1 e2 hF hO hA
          go_wp2_with (at_builtin; rw [← HX.out]; refine Kind.appN kI_ok X rfl (.tmp 30) (.tmp 34) rfl lo v (playP (ts.map valNode) SRC (ms.take m) (pp0 ts.length)).1 rfl HOX.out hlX (some ⟨w4.heap.size, 0, none⟩) [cd] 1 1 rfl rfl (by simp) _ HN.out (by simp; omega) ?_; intro v' w5 hO5 hB5 hG5 hw5; have HC5 := hid (HFX.out.code HAX.out hG5 hw5); have HO5 := hid hO5; have HB5 := hid (HBB.out.trans hB5); clear hO5 hB5 hG5 hw5)
          go_roundw
          case rel => exact ⟨m + 1, v', rfl, by go_num, by omega, bb4, xs4, ev4, fv4, uv4, by rw [HT.out, HPS.out]; exact HC5.out.1, by rw [HT.out, HPS.out]; exact HO5, HC5.out.2, HB5⟩
          case measure => simp [intOf]; omega
        · obtain rfl : m = ms.length := by omega
          rw [List.take_length] at hF hO
          go_wp2
          refine bodyPost_ret (v := .tuple #[.pointer (some ⟨p, 0, none⟩), v, .bool true]) (by simp [results, Tryz.results40, go_sem]) rfl ?_
          refine ⟨?_, HB1.out.trans (hB.out.mono hlo)⟩
          rw [if_pos ⟨hok, hl⟩, ← HSR.out]
          exact ⟨lo, p, bb, so, sc, xs, ev, fv, uv, v, rfl, hlo, HI.out.below hB.out, hF.out, hO.out, hA.out⟩
    · have hd : decide ((300 : Int) < (ms.length : Int)) = true := by simp; omega
      go_enter Tryz.func40, Tryz.ntmps40
      go_wp2_with fail
      refine HF.out.mono ?_
      rintro e w1 ⟨hq, hb1⟩
      rw [if_pos hok] at hq
      obtain ⟨lo, p, bb, so, sc, xs, rfl, _⟩ := hq
      go_wp2
      refine bodyPost_ret (v := .tuple #[.pointer none, .slice none 0 0, .bool false]) (by simp [results, Tryz.results40, go_sem]) rfl ?_
      exact ⟨by rw [if_neg (fun h => hl h.2)], hb1⟩
  · go_enter Tryz.func40, Tryz.ntmps40
    go_wp2_with fail
    refine HF.out.mono ?_
    rintro e w1 ⟨hq, hb1⟩
    rw [if_neg hok] at hq
    obtain rfl := hq
    go_wp2
    refine bodyPost_ret (v := .tuple #[.pointer none, .slice none 0 0, .bool false]) (by simp [results, Tryz.results40, go_sem]) rfl ?_
    exact ⟨by rw [if_neg (fun h => hok h.1)], hb1⟩
end
end Go.Proofs.YtoeonbdoopboiaaGreatDoor
