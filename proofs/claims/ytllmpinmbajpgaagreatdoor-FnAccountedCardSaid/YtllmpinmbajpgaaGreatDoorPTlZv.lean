
/- Those above a limit, and where one gives up: both sides. No conditions but those written. A tick. No conditions but those written. A token is tried once more; two that may come up. No conditions but those written. -/
import Derived.Test.YtllmpinmbajpgaaGreatDoorPZiTk
import Derived.Laws.BitsLemmas
namespace Go.Proofs.YtllmpinmbajpgaaGreatDoor
section
open Go.RowKit

/-- A row of ints of its own. -/
def AnsV (w : World) (xs : List Int) (e : Ending) (w' : World) : Prop := (∃ v, e = .returned v ∧ kI.Own w.heap.size w' v xs) ∧ Below w.heap.size w w'
set_option maxRecDepth 10000 in
set_option maxHeartbeats 4000000 in
theorem ticksAbove_any (ao : Option Addr) (cap : Nat) (zs : List Int) (lim : Int) (w : World) (hl : zs.length ≤ 1048576) (hz : kI.In w.heap.size w ao zs) :
  Calls Tryz.prog 165 #[.slice ao zs.length cap, .int .i64 lim] w fun e w' => AnsV w (above zs lim) e w' := by
 go_enter Tryz.func165, Tryz.ntmps165;go_wp2
 go_loopw [5, 10] (fun u i wr => ∃ (k : Nat) (v : Value), v = u ∧ k ≤ zs.length ∧ i = .int .i64 k ∧ Hid (kI.Own w.heap.size wr v (above (zs.take k) lim)) ∧ Below w.heap.size w wr) (fun _ i _ => zs.length - (intOf i).toNat)
 case atStart => exact ⟨0, _, rfl, Nat.zero_le _, rfl, Kind.Own.nil _ _ _, Below.refl _ _⟩
 case round =>
  obtain ⟨k, v, rfl, hk, rfl, hO, hB⟩ := hrel
  by_cases hlt : k < zs.length
  ·obtain ⟨bb, off, rfl, hbb, hc⟩ := ints_at (hz.below hB) hlt;have hck := hc k hlt;obtain ⟨x, hx⟩ : ∃ x, x = el zs k := ⟨_, rfl⟩;rw [← hx] at hck;have HX : Hid (x = el zs k) := hx;clear hx hc;have hs := hB.size
   by_cases he : lim < x
   ·have HA : Hid (kI.Own w.heap.size (wr.alloc (.cells #[.int .i64 x] 3)) v (above (zs.take k) lim)) := hO.out.below (below1 _ _);have HN : Hid (kI.In (wr.heap.size + 1) (wr.alloc (.cells #[.int .i64 x] 3)) (some ⟨wr.heap.size, 0, none⟩) [x]) := int_one (by omega) (by simp);have hll : (above (zs.take k) lim).length + 1 ≤ 4194304 := by have := above_le (zs.take k) lim; simp at this; omega
    have hBa : Below w.heap.size w (wr.alloc (.cells #[.int .i64 x] 3)) := Below.allocS hB _;go_wp2_with (at_builtin; refine Kind.app kI_ok (wr.alloc (.cells #[.int .i64 x] 3)) rfl (.tmp 17) (.tmp 19) rfl w.heap.size v (above (zs.take k) lim) rfl HA.out (by simp; omega) (some ⟨wr.heap.size, 0, none⟩) [x] 1 1 rfl rfl (by simp) _ HN.out hll ?_; intro v' w' hO' hB' hG' hn'; have hB2 : Below w.heap.size w w' := hBa.trans (hB'.mono (by omega)); have HO' : Hid (kI.Own w.heap.size w' v' (above (zs.take (k + 1)) lim)) := (by rw [Hid, above_in hlt (by rw [← HX.out]; exact he), ← HX.out]; exact hO'); clear hO' hB' hG' hn');go_roundw
    case rel => exact ⟨k + 1, v', rfl, by omega, by go_num, HO', hB2⟩
    case measure => simp [intOf]; omega
   ·have HO' : Hid (kI.Own w.heap.size wr v (above (zs.take (k + 1)) lim)) := by rw [Hid, above_out hlt (by rw [← HX.out]; exact he)]; exact hO.out
    go_wp2;go_roundw
    case rel => exact ⟨k + 1, _, rfl, by omega, by go_num, HO', hB⟩
    case measure => simp [intOf]; omega
  ·obtain rfl : k = zs.length := by omega
   rw [List.take_length] at hO;go_wp2;go_ret;exact ⟨⟨_, rfl, hO.out⟩, hB⟩
set_option maxRecDepth 10000 in
set_option maxHeartbeats 4000000 in
theorem l10Recent_any (ao : Option Addr) (cap : Nat) (zs : List Int) (tick within : Int) (w : World) (hl : zs.length ≤ 1048576) (ht : 0 ≤ tick) (ht1 : tick ≤ 1000000) (hw : 1 ≤ within) (hw1 : within ≤ 1000) (hz : kI.In w.heap.size w ao zs) :
  Calls Tryz.prog 111 #[.slice ao zs.length cap, .int .i64 tick, .int .i64 within] w fun e w' => AnsV w (above zs (tick - within) ++ [tick]) e w' := by
 go_enter Tryz.func111, Tryz.ntmps111;go_wp2
 go_loopw [7, 12] (fun u i wr => ∃ (k : Nat) (v : Value), v = u ∧ k ≤ zs.length ∧ i = .int .i64 k ∧ Hid (kI.Own w.heap.size wr v (above (zs.take k) (tick - within))) ∧ Below w.heap.size w wr) (fun _ i _ => zs.length - (intOf i).toNat)
 case atStart => exact ⟨0, _, rfl, Nat.zero_le _, rfl, Kind.Own.nil _ _ _, Below.refl _ _⟩
 case round =>
  obtain ⟨k, v, rfl, hk, rfl, hO, hB⟩ := hrel
  by_cases hlt : k < zs.length
  ·obtain ⟨bb, off, rfl, hbb, hc⟩ := ints_at (hz.below hB) hlt;have hck := hc k hlt;obtain ⟨x, hx⟩ : ∃ x, x = el zs k := ⟨_, rfl⟩;rw [← hx] at hck;have HX : Hid (x = el zs k) := hx;clear hx hc;have hs := hB.size
   by_cases he : (tick - within) < x
   ·have HA : Hid (kI.Own w.heap.size (wr.alloc (.cells #[.int .i64 x] 3)) v (above (zs.take k) (tick - within))) := hO.out.below (below1 _ _);have HN : Hid (kI.In (wr.heap.size + 1) (wr.alloc (.cells #[.int .i64 x] 3)) (some ⟨wr.heap.size, 0, none⟩) [x]) := int_one (by omega) (by simp);have hll : (above (zs.take k) (tick - within)).length + 1 ≤ 4194304 := by have := above_le (zs.take k) (tick - within); simp at this; omega
    have hBa : Below w.heap.size w (wr.alloc (.cells #[.int .i64 x] 3)) := Below.allocS hB _;go_wp2_with (at_builtin; refine Kind.app kI_ok (wr.alloc (.cells #[.int .i64 x] 3)) rfl (.tmp 21) (.tmp 23) rfl w.heap.size v (above (zs.take k) (tick - within)) rfl HA.out (by simp; omega) (some ⟨wr.heap.size, 0, none⟩) [x] 1 1 rfl rfl (by simp) _ HN.out hll ?_; intro v' w' hO' hB' hG' hn'; have hB2 : Below w.heap.size w w' := hBa.trans (hB'.mono (by omega)); have HO' : Hid (kI.Own w.heap.size w' v' (above (zs.take (k + 1)) (tick - within))) := (by rw [Hid, above_in hlt (by rw [← HX.out]; exact he), ← HX.out]; exact hO'); clear hO' hB' hG' hn');go_roundw
    case rel => exact ⟨k + 1, v', rfl, by omega, by go_num, HO', hB2⟩
    case measure => simp [intOf]; omega
   ·have HO' : Hid (kI.Own w.heap.size wr v (above (zs.take (k + 1)) (tick - within))) := by rw [Hid, above_out hlt (by rw [← HX.out]; exact he)]; exact hO.out
    go_wp2;go_roundw
    case rel => exact ⟨k + 1, _, rfl, by omega, by go_num, HO', hB⟩
    case measure => simp [intOf]; omega
  ·obtain rfl : k = zs.length := by omega
   rw [List.take_length] at hO;have hs := hB.size;have HA : Hid (kI.Own w.heap.size (wr.alloc (.cells #[.int .i64 tick] 3)) v (above zs (tick - within))) := hO.out.below (below1 _ _);have HN : Hid (kI.In (wr.heap.size + 1) (wr.alloc (.cells #[.int .i64 tick] 3)) (some ⟨wr.heap.size, 0, none⟩) [tick]) := int_one (by omega) (by simp);have hll : (above zs (tick - within)).length + 1 ≤ 4194304 := by have := above_le zs (tick - within); omega
   have hBa : Below w.heap.size w (wr.alloc (.cells #[.int .i64 tick] 3)) := Below.allocS hB _;go_wp2_with (at_builtin; refine Kind.app kI_ok (wr.alloc (.cells #[.int .i64 tick] 3)) rfl (.tmp 26) (.tmp 28) rfl w.heap.size v (above zs (tick - within)) rfl HA.out (by simp; omega) (some ⟨wr.heap.size, 0, none⟩) [tick] 1 1 rfl rfl (by simp) _ HN.out hll ?_; intro v' w' hO' hB' hG' hn'; have hB2 : Below w.heap.size w w' := hBa.trans (hB'.mono (by omega)); have HO' := hid hO'; clear hO' hB' hG' hn');go_ret;exact ⟨⟨_, rfl, HO'.out⟩, hB2⟩
end
section
open Go.RowKit

/-- What a tick does. -/
def tickR (s : PP) (v : Int) : Int × PP := if v < 0 ∨ 1000 < v then (2, s) else if 1000000 < s.ti + v then (4, s) else (0, { s with ti := s.ti + v })
set_option maxRecDepth 100000 in
set_option maxHeartbeats 2000000 in
theorem tick_any (lo : Nat) (W : World) (p bb : Nat) (gv sv : Value) (xs : List Value) (ev fv uv : Value) (s : PP) (m1 m2 m3 : Int) (h : Flow lo W p bb gv sv xs ev fv uv s) (h0 : 0 ≤ s.ti) (h1 : s.ti ≤ 1000000) :
  Calls Tryz.prog 107 #[.pointer (some ⟨p, 0, none⟩), .agg #[.int .i64 m1, .int .i64 m2, .int .i64 m3]] W fun e W' => e = .returned (.int .i64 (tickR s m3).1) ∧ FStep lo p gv sv (FO p bb xs ev fv uv) W W' (tickR s m3).2 := by
 have hb0 := below1 W (.cells #[.int .i64 m1, .int .i64 m2, .int .i64 m3] 42);have F0 := h.later hb0;have hp := h.box.size;obtain ⟨V, hV⟩ : ∃ V, V = W.alloc (.cells #[.int .i64 m1, .int .i64 m2, .int .i64 m3] 42) := ⟨_, rfl⟩;rw [← hV] at hb0 F0;have HF0 := hid F0;have HB0 := hid hb0;have HV := hid hV;have c2 := F0.box.c 2 rfl;have f2 := F0.box.f 2 rfl;have M0 := Bx.new (w := W) [.int .i64 m1, .int .i64 m2, .int .i64 m3] 42 rfl;rw [← hV] at M0;have b2 := M0.c 2 rfl;have hVs : V.heap.size = W.heap.size + 1 := by rw [hV]; simp
 have HVs := hid hVs;clear hV F0 hb0 M0 hVs
 by_cases hlow : m3 < 0
 ·have hd : decide (m3 < 0) = true := by simpa using hlow
  have HR : Hid (tickR s m3 = (2, s)) := by rw [Hid, tickR, if_pos (.inl hlow)]
  go_enter Tryz.func107, Tryz.ntmps107;go_wp2;go_ret;rw [HR.out];refine ⟨rfl, ?_⟩;have h2 := FStep.same h HB0.out;rw [HV.out] at h2;exact h2
 have hd : decide (m3 < 0) = false := by simpa using hlow
 by_cases hhi : 1000 < m3
 ·have hd2 : decide (1000 < m3) = true := by simpa using hhi
  have HR : Hid (tickR s m3 = (2, s)) := by rw [Hid, tickR, if_pos (.inr hhi)]
  go_enter Tryz.func107, Tryz.ntmps107;go_wp2;go_ret;rw [HR.out];refine ⟨rfl, ?_⟩;have h2 := FStep.same h HB0.out;rw [HV.out] at h2;exact h2
 have hd2 : decide (1000 < m3) = false := by simpa using hhi
 have hw : IntKind.i64.wrap (s.ti + m3) = s.ti + m3 := by rw [IntKind.wrap_i64]; omega
 obtain ⟨b, hb⟩ : ∃ b, tickB (s.ti + m3) = b := ⟨_, rfl⟩;have HT := hid hb;have hbv : b = decide (s.ti + m3 ≤ 1000000) := by rw [← hb, tickB, decide_eq_true (by omega), Bool.true_and]
 have HBV := hid hbv;clear hb hbv;have HS : Hid (V.cell? ⟨p, 2, none⟩ = some (.int .i64 s.ti) ∧ V.cell? ⟨W.heap.size, 2, none⟩ = some (.int .i64 m3)) := ⟨c2, b2⟩;go_enter Tryz.func107, Tryz.ntmps107;go_wp2;rw [← HV.out];refine wp_walks (zl := []) (S := fun Y => Y.cell? ⟨p, 2, none⟩ = some (.int .i64 s.ti) ∧ Y.cell? ⟨W.heap.size, 2, none⟩ = some (.int .i64 m3)) (by kernel_rfl) HS.out (fun hH => ?_);refine Walks.tk 0 hH ?_;refine Walks.tk 1 hH ?_;refine Walks.tk 2 hH ?_;refine Walks.tk 3 hH ?_;refine Walks.tk 4 hH ?_;refine Walks.tk 5 hH ?_;refine Walks.tk 6 hH ?_;refine Walks.tk 7 hH ?_;refine Walks.on 8 fun K hK => ?_
 go_simp;refine (isTick_is _ _ b HT.out).mono ?_;rintro e w2 ⟨rfl, hw2⟩;rw [hw2];clear hw2 w2;refine hK.out _ _ (fun _ => HS.out) (fun _ => ?_);clear hK K;refine Walks.on 9 fun K hK => ?_
 go_simp;refine hK.out _ _ (fun _ => HS.out) (fun _ => ?_);clear hK K;refine Walks.done (by kernel_rfl) ?_ _;obtain ⟨U, hU⟩ : ∃ U, U = V.drew := ⟨_, rfl⟩;rw [← hU];have hbU : Below V.heap.size V U := by rw [hU]; exact (Below.refl _ _).drew
 have HBU := hid (HB0.out.trans (hbU.mono HB0.out.size));have FU := HF0.out.later hbU;have HFU := hid FU;have c2U := FU.box.c 2 rfl;have f2U := FU.box.f 2 rfl;have SU : U.cell? ⟨p, 2, none⟩ = some (.int .i64 s.ti) ∧ U.cell? ⟨W.heap.size, 2, none⟩ = some (.int .i64 m3) := by rw [hU]; exact HS.out
 clear hU hbU FU c2 f2 b2 hH
 cases b
 ·have HR : Hid (tickR s m3 = (4, s)) := by
   have hh := HBV.out;have hgt : ¬ s.ti + m3 ≤ 1000000 := by intro hle; rw [decide_eq_true hle] at hh; cases hh
   rw [Hid, tickR, if_neg (by omega), if_pos (by omega)]
  go_wp2;go_ret;rw [HR.out];exact ⟨rfl, FStep.same h HBU.out⟩
 ·have HR : Hid (tickR s m3 = (0, { s with ti := s.ti + m3 })) := by
   have hle : s.ti + m3 ≤ 1000000 := of_decide_eq_true HBV.out.symm;rw [Hid, tickR, if_neg (by omega), if_neg (by omega)]
  go_wp2;refine wp_walks (zl := [11]) (S := fun Y => Y.cell? ⟨p, 2, none⟩ = some (.int .i64 s.ti) ∧ Y.cell? ⟨W.heap.size, 2, none⟩ = some (.int .i64 m3)) (by kernel_rfl) SU (fun hH => ?_);refine Walks.tk 0 hH ?_;refine Walks.tk 1 hH ?_;refine Walks.tk 2 hH ?_;refine Walks.tk 3 hH ?_;refine Walks.tk 4 hH ?_;refine Walks.tk 5 hH ?_;refine Walks.tk 6 hH ?_;refine Walks.tk 7 hH ?_;refine Walks.on 8 fun K hK => ?_
  go_simp;refine hK.out _ _ (fun _ => SU) (fun _ => ?_);clear hK K;refine Walks.on 9 fun K hK => ?_
  go_simp;refine hK.out _ _ (fun _ => SU) (fun _ => ?_);clear hK K;refine Walks.tk 10 hH ?_;refine Walks.on 11 fun K hK => ?_
  go_simp;refine hK.out _ _ (fun h => absurd h (by decide)) (fun _ => ?_);refine Walks.done (by kernel_rfl) ?_ _;clear hK K;go_wp2;go_ret;rw [HR.out];exact ⟨rfl, FStep.start h HBU.out ((HFU.out.putTi (s.ti + m3)).later (Below.refl _ _).drew (Nat.le_of_lt (Nat.lt_of_le_of_lt HFU.out.lop HFU.out.box.size)))⟩
end
section
open Go.RowKit

section
variable {P : Program} {ops : Array Oper} {Q : Exit → Act → World → Prop} {md : Region.Mode} {S : World → Prop} {zs : Nat → Bool}
theorem Walks.two {n i j : Nat} {ls : Array Bool} {a : Act} {w : World} {o o2 : Oper} (hr : Region.ready md ops ls = [i, j]) (ho : ops[i]? = some o) (ho2 : ops[j]? = some o2)
  (h : ∀ K : Act → World → Prop, Shut (∀ b y, (zs i = false → S y) → ((zs i = false → S y) → Walks P md ops Q S zs n (ls.setIfInBounds i true) b y) → K b y) → if Region.wanted o (yielded ops a.tmps) = true then Oper.wp P o a w K Q else K (a.put o.dst undef) w)
  (h2 : ∀ K : Act → World → Prop, Shut (∀ b y, (zs j = false → S y) → ((zs j = false → S y) → Walks P md ops Q S zs n (ls.setIfInBounds j true) b y) → K b y) → if Region.wanted o2 (yielded ops a.tmps) = true then Oper.wp P o2 a w K Q else K (a.put o2.dst undef) w) : Walks P md ops Q S zs (n + 1) ls a w :=
 ⟨fun e => (by rw [hr] at e; cases e), fun k hk => by
  rw [hr] at hk
  rcases List.mem_cons.1 hk with rfl | hk
  ·exact wpOp_step ho fun K hK => h K fun b y h1 h2 => hK b y ⟨h1, h2 h1⟩
  ·obtain rfl := List.mem_singleton.1 hk;exact wpOp_step ho2 fun K hK => h2 K fun b y h1 h3 => hK b y ⟨h1, h3 h1⟩⟩
end
/-- A token's tries are written in its box. -/
theorem Flow.putTry {lo : Nat} {U : World} {p bb g c k : Nat} {gv sv : Value} {xs : List Value} {ev fv uv : Value} {s : PP} {t1 t2 t3 : Int} {r : List (Int × Int × Int)} (h : Flow lo U p bb gv sv xs ev fv uv s) (hk : k < s.bx.length) (hr : el s.bx k = (t1, t2, t3) :: r) (hg : el xs k = .slice (some ⟨g, 0, none⟩) (r.length + 1) c) (x : Int) :
  Flow lo (U.setCell ⟨g, 2, none⟩ (.int .i64 x)) p bb gv sv xs ev fv uv { s with bx := s.bx.set k ((t1, t2, x) :: r) } := by
 have hgo : (el xs k).ownBlock = some g := by rw [hg]; rfl
 have hkp : ∀ b, b ≠ g → (U.setCell ⟨g, 2, none⟩ (.int .i64 x)).heap[b]? = U.heap[b]? := fun b hb => Below.heap_setCell _ _ _ _ hb
 have hrow := h.hnd.row k hk;rw [hr, hg] at hrow;have hst : kTk.Own (bb + 1) (U.setCell ⟨g, 2, none⟩ (.int .i64 x)) (.slice (some ⟨g, 0, none⟩) (r.length + 1) c) ((t1, t2, x) :: r) := by
  have := (World.ownsRow.stored (h := hrow) 2 (.int .i64 x)).1;exact this
 have hlen : (s.bx.set k ((t1, t2, x) :: r)).length = s.bx.length := List.length_set;have hT : (totT (s.bx.set k ((t1, t2, x) :: r)) : Int) = totT s.bx := by
  have := totT_set (ls := s.bx) (k := k) ((t1, t2, x) :: r) hk;rw [hr] at this;simp only [List.length_cons] at this
  omega
 refine h.turn ?_ ⟨by rw [hlen]; exact h.hnd.len, ?_, fun j hj => ?_, fun i j hij hj => h.hnd.off i j hij (by rw [hlen] at hj; exact hj)⟩ (fun b hb => hkp b (fun e => (h.apart hb).2.2.2 k hk (by rw [e]; exact hgo))) (fun j hj => h.px j (by rw [hlen] at hj; exact hj))
 ·rw [hlen, hT];exact h.box.other (fun e => h.px k hk (by rw [← e]; exact hgo)) _
 ·rw [hlen];exact owns_block h.hnd.head (hkp bb (fun e => h.bbx hk (by rw [e]; exact hgo)))
 ·rw [hlen] at hj
  by_cases e : j = k
  ·subst e;rw [el_set_same hk, hg]; exact hst
  ·rw [el_set_far e];refine own_keep (h.hnd.row j hj) fun b hb => hkp b (fun e2 => ?_)
   rw [e2] at hb
   rcases Nat.lt_or_ge j k with hjk | hjk
   ·exact h.hnd.off j k hjk hk g hb hgo
   ·exact h.hnd.off k j (by omega) hj g hgo hb
end
end Go.Proofs.YtllmpinmbajpgaaGreatDoor
